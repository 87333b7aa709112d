/- PegTurned: what its first loop has built behind j rounds. -/
import Derived.Test.YtkjciobphbcknaaAV
import Derived.Test.YtkjciobphbcknaaAX
namespace Go.Proofs.Ytkjciobphbcknaa
open Go.RowKit

theorem truths_some' {p : PegsD} (hf : Fit p) : truthsL p ≠ [] ↔ ∃ t m, IsTruth p t m := by
  constructor
  · intro h
    cases hE : truthsL p with
    | nil => exact absurd hE h
    | cons x r => exact ⟨x.1, x.2, (mem_truthsL hf).1 (by rw [hE]; simp)⟩
  · rintro ⟨t, m, h⟩
    exact List.ne_nil_of_mem ((mem_truthsL hf).2 h)
/-- Four places. -/
def mkAt (h : Nat → Pl) : At := ⟨h 0, h 1, h 2, h 3⟩
theorem mkAt_get (h : Nat → Pl) (i : Nat) (hi : i < 4) : (mkAt h).get i = h i := by
  match i, hi with
  | 0, _ | 1, _ | 2, _ | 3, _ => rfl
/-- Who was moved, by another numbering. -/
def fm (f : Nat → Nat) (m : Int) : Int := if m < 0 then -1 else (f m.toNat : Int)
/-- The pegs q are the pegs p, each i numbered f i, each place s turned to g s. -/
structure Turns (p q : PegsD) (f f' : Nat → Nat) (g : Pl → Pl) : Prop where
  len : q.ps.length = p.ps.length
  n4 : p.ps.length ≤ 4
  lt : ∀ i, i < p.ps.length → f i < p.ps.length
  lt' : ∀ i, i < p.ps.length → f' i < p.ps.length
  inv : ∀ i, i < p.ps.length → f' (f i) = i
  inv' : ∀ i, i < p.ps.length → f (f' i) = i
  field : ∀ s, inField p.side s → inField q.side (g s)
  post : ∀ (i : Nat) (q0 : Post), p.ps[i]? = some q0 → ∃ q1, q.ps[f i]? = some q1 ∧ ∀ s, inField p.side s → (atPost q1 (g s) ↔ atPost q0 s)
  lens : ∀ t t' : At, (∀ i : Nat, i < p.ps.length → t'.get (f i : Nat) = g (t.get i)) → (∀ l ∈ p.ls, rightB l t = true) → ∀ l ∈ q.ls, rightB l t' = true
theorem Turns.fwd {p q : PegsD} {f f' : Nat → Nat} {g : Pl → Pl} (T : Turns p q f f' g) {t : At} {m : Int} (h : IsTruth p t m) :
    ∃ t', IsTruth q t' (fm f m) ∧ ∀ i : Nat, i < p.ps.length → t'.get (f i : Nat) = g (t.get i) := by
  obtain ⟨h1, h2, h3, h4, h5⟩ := h
  have hn := T.n4
  refine ⟨mkAt fun j => if j < p.ps.length then g (t.get (f' j : Nat)) else ⟨0, 0⟩, ?_, ?_⟩
  · have key : ∀ i : Nat, i < p.ps.length → (mkAt fun j => if j < p.ps.length then g (t.get (f' j : Nat)) else ⟨0, 0⟩).get (f i : Nat) = g (t.get i) := fun i hi => by
      have := T.lt i hi
      rw [mkAt_get _ _ (by omega), if_pos this, T.inv i hi]
    refine ⟨?_, ?_, fun j q1 hj => ?_, fun j hj hj4 => ?_, T.lens t _ key h5⟩
    · unfold fm; split <;> omega
    · unfold fm
      split
      · omega
      · have := T.lt m.toNat (by omega)
        rw [T.len]; omega
    · have hjl : j < p.ps.length := by have := (List.getElem?_eq_some_iff.1 hj).1; rw [T.len] at this; exact this
      have hfl := T.lt' j hjl
      obtain ⟨q0, hq0⟩ : ∃ q0, p.ps[f' j]? = some q0 := ⟨_, List.getElem?_eq_getElem hfl⟩
      obtain ⟨q1', hq1, hat⟩ := T.post _ _ hq0
      rw [T.inv' j hjl, hj] at hq1
      cases hq1
      obtain ⟨hin, hm⟩ := h3 _ _ hq0
      rw [mkAt_get _ _ (by omega), if_pos hjl]
      refine ⟨T.field _ hin, (hat _ hin).trans (hm.trans ?_)⟩
      unfold fm
      split
      · omega
      · have e1 := T.inv' j hjl
        have e2 := T.inv m.toNat (by omega)
        constructor
        · intro hne e
          apply hne
          have : j = f m.toNat := by omega
          rw [this, e2]; omega
        · intro hne e
          apply hne
          have : m.toNat = f' j := by omega
          rw [this, e1]
    · rw [mkAt_get _ _ hj4, if_neg (by rw [T.len] at hj; omega)]
  · intro i hi
    have := T.lt i hi
    rw [mkAt_get _ _ (by omega), if_pos this, T.inv i hi]
/-- The same, both ways. -/
structure Twin (p q : PegsD) (f : Nat → Nat) (g : Pl → Pl) : Prop where
  len : q.ps.length = p.ps.length
  lt : ∀ i, i < p.ps.length → f i < p.ps.length
  inj : ∀ i j, i < p.ps.length → j < p.ps.length → f i = f j → i = j
  fwd : ∀ t m, IsTruth p t m → ∃ t', IsTruth q t' (fm f m) ∧ ∀ i : Nat, i < p.ps.length → t'.get (f i : Nat) = g (t.get i)
  bwd : ∀ t' m', IsTruth q t' m' → ∃ t m, IsTruth p t m ∧ m' = fm f m ∧ ∀ i : Nat, i < p.ps.length → t'.get (f i : Nat) = g (t.get i)
theorem Turns.twin {p q : PegsD} {f f' : Nat → Nat} {g g' : Pl → Pl} (T : Turns p q f f' g) (T' : Turns q p f' f g') (hg : ∀ s, g (g' s) = s) : Twin p q f g := by
  refine ⟨T.len, T.lt, fun i j hi hj e => by rw [← T.inv i hi, ← T.inv j hj, e], fun t m h => T.fwd h, fun t' m' h => ?_⟩
  obtain ⟨t, h1, h2⟩ := T'.fwd h
  refine ⟨t, fm f' m', h1, ?_, fun i hi => ?_⟩
  · obtain ⟨a, b, _⟩ := h
    rw [T.len] at b
    unfold fm
    by_cases hm : m' < 0
    · rw [if_pos hm, if_pos (by omega)]; omega
    · rw [if_neg hm, if_neg (by omega)]
      have e := T.inv' m'.toNat (by omega)
      rw [show ((f' m'.toNat : Nat) : Int).toNat = f' m'.toNat by omega, e]; omega
  · have := h2 (f i) (by rw [T.len]; exact T.lt i hi)
    rw [T.inv i hi] at this
    rw [this, hg]
section
variable {p q : PegsD} {f : Nat → Nat} {g : Pl → Pl} (T : Twin p q f g) (hp : validB p = true) (hq : validB q = true)
include T hp hq in
theorem Twin.empty : truthsL q = [] ↔ truthsL p = [] := by
  have a := truths_some' (fit_of_valid hp)
  have b := truths_some' (fit_of_valid hq)
  constructor
  · intro h
    refine Classical.byContradiction fun hne => ?_
    obtain ⟨t, m, ht⟩ := a.1 hne
    obtain ⟨t', h', _⟩ := T.fwd t m ht
    exact b.2 ⟨t', _, h'⟩ h
  · intro h
    refine Classical.byContradiction fun hne => ?_
    obtain ⟨t, m, ht⟩ := b.1 hne
    obtain ⟨t', m', h', _⟩ := T.bwd t m ht
    exact a.2 ⟨t', _, h'⟩ h
theorem fm_neg (f : Nat → Nat) {m : Int} (h : -1 ≤ m) (e : -1 = fm f m) : m = -1 := by
  unfold fm at e; split at e <;> omega
theorem fm_nat (f : Nat → Nat) (i : Nat) : fm f i = f i := by
  unfold fm; rw [if_neg (by omega)]; simp
include T hp hq in
theorem Twin.moved (hne : truthsL p ≠ []) : ∃ (A B : Int) (S S' : Nat) (b : Bool), movedR p = .ok (A, (S : Int), b) ∧ movedR q = .ok (B, (S' : Int), b) ∧ S < 2 ^ p.ps.length ∧ S' < 2 ^ p.ps.length ∧ ∀ i, i < p.ps.length → S'.testBit (f i) = S.testBit i := by
  have hne' : truthsL q ≠ [] := fun h => hne ((T.empty hp hq).1 h)
  obtain ⟨S, b, h1, h2, h3, h4⟩ := movedR_spec hp hne
  obtain ⟨S', b', h1', h2', h3', h4'⟩ := movedR_spec hq hne'
  have hb : b' = b := by
    rw [Bool.eq_iff_iff, h3, h3']
    constructor
    · rintro ⟨t', h⟩
      obtain ⟨t, m, ht, e, _⟩ := T.bwd _ _ h
      rw [fm_neg f ht.1 e] at ht
      exact ⟨t, ht⟩
    · rintro ⟨t, h⟩
      obtain ⟨t', ht, _⟩ := T.fwd _ _ h
      exact ⟨t', ht⟩
  subst hb
  rw [T.len] at h2'
  refine ⟨_, _, S, S', b', h1, h1', h2, h2', fun i hi => ?_⟩
  rw [Bool.eq_iff_iff, h4, h4']
  constructor
  · rintro ⟨t', h⟩
    obtain ⟨t, m, ht, e, _⟩ := T.bwd _ _ h
    have : m = i := by
      obtain ⟨a, b, _⟩ := ht
      unfold fm at e
      split at e
      · omega
      · have := T.inj i m.toNat hi (by omega) (by omega)
        omega
    subst this
    exact ⟨t, ht⟩
  · rintro ⟨t, h⟩
    obtain ⟨t', ht, _⟩ := T.fwd _ _ h
    rw [fm_nat] at ht
    exact ⟨t', ht⟩
theorem endsL_same {F G : At × Int → Int} {L M : List (At × Int)} (hL : L ≠ []) (hM : M ≠ []) (h1 : ∀ x ∈ L, ∃ y ∈ M, G y = F x) (h2 : ∀ y ∈ M, ∃ x ∈ L, F x = G y) : (endsL G M).lo = (endsL F L).lo ∧ (endsL G M).hi = (endsL F L).hi := by
  obtain ⟨_, a1, ⟨x1, b1, c1⟩, ⟨x2, b2, c2⟩⟩ := endsL_spec F L hL
  obtain ⟨_, a2, ⟨y1, d1, e1⟩, ⟨y2, d2, e2⟩⟩ := endsL_spec G M hM
  obtain ⟨u1, k1, m1⟩ := h1 x1 b1
  obtain ⟨u2, k2, m2⟩ := h1 x2 b2
  obtain ⟨v1, k3, m3⟩ := h2 y1 d1
  obtain ⟨v2, k4, m4⟩ := h2 y2 d2
  have := a2 u1 k1
  have := a2 u2 k2
  have := a1 v1 k3
  have := a1 v2 k4
  omega
theorem endsOn_turn {F G : Pl → Int} {L M : List Pl} (hL : L ≠ []) (hM : M ≠ []) (h1 : ∀ x ∈ L, ∃ y ∈ M, G y = F x) (h2 : ∀ y ∈ M, ∃ x ∈ L, F x = G y) : spanOf (endsOn G M) = spanOf (endsOn F L) := by
  obtain ⟨_, a1, ⟨x1, b1, c1⟩, ⟨x2, b2, c2⟩⟩ := endsOn_spec F L hL
  obtain ⟨_, a2, ⟨y1, d1, e1⟩, ⟨y2, d2, e2⟩⟩ := endsOn_spec G M hM
  obtain ⟨u1, k1, m1⟩ := h1 x1 b1
  obtain ⟨u2, k2, m2⟩ := h1 x2 b2
  obtain ⟨v1, k3, m3⟩ := h2 y1 d1
  obtain ⟨v2, k4, m4⟩ := h2 y2 d2
  have := a2 u1 k1
  have := a2 u2 k2
  have := a1 v1 k3
  have := a1 v2 k4
  simp only [spanOf, Prod.mk.injEq]
  omega
theorem endsOn_flip {F G : Pl → Int} {L M : List Pl} (c : Int) (hL : L ≠ []) (hM : M ≠ []) (h1 : ∀ x ∈ L, ∃ y ∈ M, G y = c - F x) (h2 : ∀ y ∈ M, ∃ x ∈ L, F x = c - G y) : spanOf (endsOn G M) = (c - (spanOf (endsOn F L)).2, c - (spanOf (endsOn F L)).1) := by
  obtain ⟨_, a1, ⟨x1, b1, c1⟩, ⟨x2, b2, c2⟩⟩ := endsOn_spec F L hL
  obtain ⟨_, a2, ⟨y1, d1, e1⟩, ⟨y2, d2, e2⟩⟩ := endsOn_spec G M hM
  obtain ⟨u1, k1, m1⟩ := h1 x1 b1
  obtain ⟨u2, k2, m2⟩ := h1 x2 b2
  obtain ⟨v1, k3, m3⟩ := h2 y1 d1
  obtain ⟨v2, k4, m4⟩ := h2 y2 d2
  have := a2 u1 k1
  have := a2 u2 k2
  have := a1 v1 k3
  have := a1 v2 k4
  simp only [spanOf, Prod.mk.injEq]
  omega
/-- A number, turned; what is no peg's stays. -/
def fI (f : Nat → Nat) (n : Nat) (a : Int) : Int := if 0 ≤ a ∧ a < n then (f a.toNat : Int) else a
include T in
theorem Twin.isPeg (a : Int) : isPegB q.ps.length (fI f p.ps.length a) = isPegB p.ps.length a := by
  rw [Bool.eq_iff_iff, T.len]
  by_cases h : 0 ≤ a ∧ a < (p.ps.length : Int)
  · have := T.lt a.toNat (by omega)
    simp only [isPegB, Bool.and_eq_true, decide_eq_true_eq, fI, if_pos h]
    omega
  · simp only [isPegB, Bool.and_eq_true, decide_eq_true_eq, fI, if_neg h]
include T hp hq in
theorem Twin.check (xs : List Int) : checkR q (xs.map (fI f p.ps.length)) = checkR p xs := by
  have : (xs.map (fI f p.ps.length)).all (isPegB q.ps.length) = xs.all (isPegB p.ps.length) := by
    rw [List.all_map]
    congr 1
    funext a
    exact T.isPeg a
  simp only [checkR, hp, hq, this]
theorem fI_in {f : Nat → Nat} {n : Nat} {a : Int} (h : 0 ≤ a ∧ a < n) : ∃ i : Nat, a = i ∧ i < n ∧ fI f n a = f i := by
  exact ⟨a.toNat, by omega, by omega, by rw [fI, if_pos h]⟩
include T hp hq in
theorem Twin.ends {F G : At × Int → Int} (h : ∀ t t' m m', (∀ i : Nat, i < p.ps.length → t'.get (f i : Nat) = g (t.get i)) → G (t', m') = F (t, m)) : endsR G q = endsR F p := by
  by_cases he : truthsL p = []
  · simp only [endsR, he, (T.empty hp hq).2 he, if_true]
  · have he' : truthsL q ≠ [] := fun h => he ((T.empty hp hq).1 h)
    simp only [endsR, he, he', if_false]
    obtain ⟨e1, e2⟩ := endsL_same (F := F) (G := G) he he' (fun x hx => by
      obtain ⟨t', h1, h2⟩ := T.fwd x.1 x.2 ((mem_truthsL (fit_of_valid hp)).1 hx)
      exact ⟨(t', _), (mem_truthsL (fit_of_valid hq)).2 h1, h _ _ _ _ h2⟩) (fun y hy => by
      obtain ⟨t, m, h1, _, h2⟩ := T.bwd y.1 y.2 ((mem_truthsL (fit_of_valid hq)).1 hy)
      exact ⟨(t, m), (mem_truthsL (fit_of_valid hp)).2 h1, (h _ _ _ _ h2).symm⟩)
    rw [e1, e2]
include T hp hq in
theorem Twin.apart (hg : ∀ a b, apartI (g a) (g b) = apartI a b) (a b : Int) : apartR q (fI f p.ps.length a) (fI f p.ps.length b) = apartR p a b := by
  have hc := T.check hp hq [a, b]
  simp only [List.map_cons, List.map_nil] at hc
  unfold apartR
  rw [hc]
  cases hn : checkR p [a, b] with
  | some n => rfl
  | none =>
    obtain ⟨i, rfl, hi, e1⟩ := fI_in (f := f) ((checkR_none hn).2 a (by simp))
    obtain ⟨j, rfl, hj, e2⟩ := fI_in (f := f) ((checkR_none hn).2 b (by simp))
    simp only
    refine T.ends hp hq fun t t' m m' h => ?_
    simp only
    rw [e1, e2, h i hi, h j hj, hg]
include T hp hq in
theorem Twin.area (hg : ∀ a b c, max (areaI (g a) (g b) (g c)) (-areaI (g a) (g b) (g c)) = max (areaI a b c) (-areaI a b c)) (a b c : Int) : areaR q (fI f p.ps.length a) (fI f p.ps.length b) (fI f p.ps.length c) = areaR p a b c := by
  have hc := T.check hp hq [a, b, c]
  simp only [List.map_cons, List.map_nil] at hc
  unfold areaR
  rw [hc]
  cases hn : checkR p [a, b, c] with
  | some n => rfl
  | none =>
    obtain ⟨i, rfl, hi, e1⟩ := fI_in (f := f) ((checkR_none hn).2 a (by simp))
    obtain ⟨j, rfl, hj, e2⟩ := fI_in (f := f) ((checkR_none hn).2 b (by simp))
    obtain ⟨k, rfl, hk, e3⟩ := fI_in (f := f) ((checkR_none hn).2 c (by simp))
    have q1 : ∀ {x y : Nat}, x < p.ps.length → y < p.ps.length → ((f x : Int) = f y ↔ (x : Int) = y) := fun hx hy => ⟨fun e => by have := T.inj _ _ hx hy (by omega); omega, fun e => by have : (_ : Nat) = _ := Int.ofNat_inj.1 e; rw [this]⟩
    simp only [e1, e2, e3]
    simp only [q1 hi hj, q1 hj hk, q1 hk hi]
    split
    · rfl
    · refine T.ends hp hq fun t t' m m' h => ?_
      simp only [areaA]
      rw [h i hi, h j hj, h k hk, hg]
include T hp hq in
theorem Twin.stand (i : Nat) (hi : i < p.ps.length) : (∀ s ∈ standL i (truthsL p), g s ∈ standL (f i) (truthsL q)) ∧ ∀ s' ∈ standL (f i) (truthsL q), ∃ s ∈ standL i (truthsL p), s' = g s := by
  constructor
  · intro s hs
    obtain ⟨x, hx, rfl⟩ := mem_standL.1 hs
    obtain ⟨t', h1, h2⟩ := T.fwd x.1 x.2 ((mem_truthsL (fit_of_valid hp)).1 hx)
    exact mem_standL.2 ⟨(t', _), (mem_truthsL (fit_of_valid hq)).2 h1, h2 i hi⟩
  · intro s' hs
    obtain ⟨y, hy, rfl⟩ := mem_standL.1 hs
    obtain ⟨t, m, h1, _, h2⟩ := T.bwd y.1 y.2 ((mem_truthsL (fit_of_valid hq)).1 hy)
    exact ⟨_, mem_standL.2 ⟨(t, m), (mem_truthsL (fit_of_valid hp)).2 h1, rfl⟩, h2 i hi⟩
include T hp hq in
theorem Twin.stray (i : Nat) (hi : i < p.ps.length) : (∀ s ∈ strayL i (truthsL p), g s ∈ strayL (f i : Nat) (truthsL q)) ∧ ∀ s' ∈ strayL (f i : Nat) (truthsL q), ∃ s ∈ strayL i (truthsL p), s' = g s := by
  constructor
  · intro s hs
    obtain ⟨x, hx, hm, rfl⟩ := mem_strayL.1 hs
    obtain ⟨t', h1, h2⟩ := T.fwd x.1 x.2 ((mem_truthsL (fit_of_valid hp)).1 hx)
    exact mem_strayL.2 ⟨(t', _), (mem_truthsL (fit_of_valid hq)).2 h1, by rw [hm, fm_nat], h2 i hi⟩
  · intro s' hs
    obtain ⟨y, hy, hm, rfl⟩ := mem_strayL.1 hs
    obtain ⟨t, m, h1, e, h2⟩ := T.bwd y.1 y.2 ((mem_truthsL (fit_of_valid hq)).1 hy)
    have : m = i := by
      obtain ⟨a, b, _⟩ := h1
      rw [hm] at e
      unfold fm at e
      split at e
      · omega
      · have := T.inj i m.toNat hi (by omega) (by omega)
        omega
    subst this
    exact ⟨_, mem_strayL.2 ⟨(t, _), (mem_truthsL (fit_of_valid hp)).2 h1, rfl, rfl⟩, h2 i hi⟩
theorem stand_some {p : PegsD} (i : Nat) (h : truthsL p ≠ []) : standL i (truthsL p) ≠ [] := by
  cases hE : truthsL p with
  | nil => exact absurd hE h
  | cons x r => exact List.ne_nil_of_mem (mem_standL.2 ⟨x, by simp, rfl⟩)
include T hp hq in
/-- Where, turned: what becomes of each of both spans. -/
theorem Twin.where_ (φ : (Int × Int) × (Int × Int) → (Int × Int) × (Int × Int)) (a : Int)
    (h : ∀ L M : List Pl, L ≠ [] → M ≠ [] → (∀ s ∈ L, inField p.side s) → (∀ s ∈ L, g s ∈ M) → (∀ s' ∈ M, ∃ s ∈ L, s' = g s) → (spanOf (endsOn Pl.x M), spanOf (endsOn Pl.y M)) = φ (spanOf (endsOn Pl.x L), spanOf (endsOn Pl.y L))) :
    (∃ n, n ≠ 0 ∧ whereR q (fI f p.ps.length a) = .error n ∧ whereR p a = .error n) ∨ ∃ v, whereR p a = .ok v ∧ whereR q (fI f p.ps.length a) = .ok (φ v) := by
  have hc := T.check hp hq [a]
  simp only [List.map_cons, List.map_nil] at hc
  unfold whereR
  rw [hc]
  cases hn : checkR p [a] with
  | some n =>
    refine .inl ⟨n, ?_, rfl, rfl⟩
    unfold checkR at hn
    split at hn
    · cases hn; decide
    · split at hn
      · cases hn; decide
      · cases hn
  | none =>
    obtain ⟨i, rfl, hi, e1⟩ := fI_in (f := f) ((checkR_none hn).2 a (by simp))
    by_cases he : truthsL p = []
    · refine .inl ⟨10, by decide, ?_, ?_⟩
      · simp only [(T.empty hp hq).2 he, if_true]
      · simp only [he, if_true]
    · have he' : truthsL q ≠ [] := fun h => he ((T.empty hp hq).1 h)
      refine .inr ⟨_, by simp only [he, if_false]; rfl, ?_⟩
      simp only [he', if_false, e1]
      obtain ⟨s1, s2⟩ := T.stand hp hq i hi
      have e2 : ((i : Int)).toNat = i := by omega
      have e3 : ((f i : Nat) : Int).toNat = f i := by omega
      rw [e2, e3]
      exact congrArg _ (h _ _ (stand_some _ he) (stand_some _ he') (fun s hs => by
        obtain ⟨x, hx, rfl⟩ := mem_standL.1 hs
        have ht := (mem_truthsL (fit_of_valid hp) (t := x.1) (m := x.2)).1 hx
        exact (ht.2.2.1 i _ (List.getElem?_eq_getElem hi)).1) s1 s2)
include T hp hq in
theorem Twin.back (a : Int) (h : ∀ i, i < p.ps.length → ∀ s, inField p.side s → backI (g s) (postAt q (f i : Nat)) = backI s (postAt p i)) : backR q (fI f p.ps.length a) = backR p a := by
  have hc := T.check hp hq [a]
  simp only [List.map_cons, List.map_nil] at hc
  unfold backR
  rw [hc]
  cases hn : checkR p [a] with
  | some n => rfl
  | none =>
    obtain ⟨i, rfl, hi, e1⟩ := fI_in (f := f) ((checkR_none hn).2 a (by simp))
    simp only [e1]
    obtain ⟨s1, s2⟩ := T.stray hp hq i hi
    by_cases he : truthsL p = []
    · simp only [he, (T.empty hp hq).2 he, if_true]
    · have he' : truthsL q ≠ [] := fun h => he ((T.empty hp hq).1 h)
      simp only [he, he', if_false]
      by_cases hs : strayL i (truthsL p) = []
      · have hs' : strayL (f i : Nat) (truthsL q) = [] := by
          cases hE : strayL (f i : Nat) (truthsL q) with
          | nil => rfl
          | cons x r =>
            obtain ⟨s, h1, _⟩ := s2 x (by rw [hE]; simp)
            rw [hs] at h1; simp at h1
        simp only [hs, hs', if_true]
      · have hs' : strayL (f i : Nat) (truthsL q) ≠ [] := by
          cases hE : strayL i (truthsL p) with
          | nil => exact absurd hE hs
          | cons x r => exact List.ne_nil_of_mem (s1 x (by rw [hE]; simp))
        simp only [hs, hs', if_false]
        have hf : ∀ s ∈ strayL i (truthsL p), inField p.side s := fun s hs => by
          obtain ⟨x, hx, _, rfl⟩ := mem_strayL.1 hs
          have ht := (mem_truthsL (fit_of_valid hp) (t := x.1) (m := x.2)).1 hx
          exact (ht.2.2.1 i _ (List.getElem?_eq_getElem hi)).1
        rw [endsOn_turn (F := fun s => backI s (postAt p i)) (G := fun s => backI s (postAt q (f i : Nat))) hs hs' (fun s h1 => ⟨_, s1 s h1, h i hi s (hf s h1)⟩) (fun s' h1 => by
          obtain ⟨s, h2, rfl⟩ := s2 s' h1
          exact ⟨s, h2, (h i hi s (hf s h2)).symm⟩)]
end

/-- The field turned round. -/
def flipPl (n : Int) (s : Pl) : Pl := ⟨n - s.x, n - s.y⟩
def flipPost (n : Int) (q : Post) : Post := ⟨n - q.xhi, n - q.xlo, n - q.yhi, n - q.ylo⟩
def flipP (p : PegsD) : PegsD := ⟨p.side, p.ps.map (flipPost p.side), p.ls⟩
/-- X and Y change places. -/
def swapPl (s : Pl) : Pl := ⟨s.y, s.x⟩
def swapPost (q : Post) : Post := ⟨q.ylo, q.yhi, q.xlo, q.xhi⟩
def swapP (p : PegsD) : PegsD := ⟨p.side, p.ps.map swapPost, p.ls⟩
theorem flip_flip (n : Int) (s : Pl) : flipPl n (flipPl n s) = s := Pl.ext' (by simp only [flipPl]; omega) (by simp only [flipPl]; omega)
theorem swap_swap (s : Pl) : swapPl (swapPl s) = s := rfl
theorem sq_neg (a b : Int) (h : a = -b) : a * a = b * b := by rw [h, Int.neg_mul_neg]
theorem apart_flip (n : Int) (a b : Pl) : apartI (flipPl n a) (flipPl n b) = apartI a b := by
  unfold apartI flipPl
  simp only
  rw [sq_neg (n - a.x - (n - b.x)) (a.x - b.x) (by omega), sq_neg (n - a.y - (n - b.y)) (a.y - b.y) (by omega)]
theorem apart_swap (a b : Pl) : apartI (swapPl a) (swapPl b) = apartI a b := by
  unfold apartI swapPl
  simp only
  omega
theorem area_flip (n : Int) (a b c : Pl) : areaI (flipPl n a) (flipPl n b) (flipPl n c) = areaI a b c := by
  unfold areaI flipPl
  simp only
  rw [show n - b.x - (n - a.x) = -(b.x - a.x) by omega, show n - c.y - (n - a.y) = -(c.y - a.y) by omega, show n - c.x - (n - a.x) = -(c.x - a.x) by omega, show n - b.y - (n - a.y) = -(b.y - a.y) by omega, Int.neg_mul_neg, Int.neg_mul_neg]
theorem area_swap (a b c : Pl) : areaI (swapPl a) (swapPl b) (swapPl c) = -areaI a b c := by
  unfold areaI swapPl
  simp only
  rw [Int.mul_comm (b.y - a.y), Int.mul_comm (c.y - a.y)]
  omega
theorem back_flip (n : Int) (s : Pl) (q : Post) (h1 : q.xlo ≤ q.xhi) (h2 : q.ylo ≤ q.yhi) : backI (flipPl n s) (flipPost n q) = backI s q := by
  have key : ∀ x lo hi : Int, lo ≤ hi → beyondI (n - x) (n - hi) (n - lo) = beyondI x lo hi := fun x lo hi h => by unfold beyondI; omega
  unfold backI flipPl flipPost
  simp only
  rw [key _ _ _ h1, key _ _ _ h2]
theorem back_swap (s : Pl) (q : Post) : backI (swapPl s) (swapPost q) = backI s q := by
  unfold backI swapPl swapPost
  simp only
  omega
theorem lens_same {p : PegsD} (hf : Fit p) (g : Pl → Pl) (hg : ∀ a b, apartI (g a) (g b) = apartI a b) (t t' : At) (h : ∀ i : Nat, i < p.ps.length → t'.get (i : Nat) = g (t.get i)) (l : Len) (hl : l ∈ p.ls) : rightB l t' = rightB l t := by
  obtain ⟨⟨a0, _, b0, _, _⟩, a1, b1⟩ := hf.lens l hl
  have ea := h l.a.toNat (by omega)
  have eb := h l.b.toNat (by omega)
  rw [show ((l.a.toNat : Nat) : Int) = l.a by omega] at ea
  rw [show ((l.b.toNat : Nat) : Int) = l.b by omega] at eb
  unfold rightB
  rw [ea, eb, hg]
theorem narrow_flip {lo hi n : Int} (h : narrowB lo hi n = true) : narrowB (n - hi) (n - lo) n = true := by
  simp [narrowB, withinB] at h ⊢; omega
theorem flip_valid {p : PegsD} (hv : validB p = true) : validB (flipP p) = true := by
  simp only [validB, Bool.and_eq_true, List.all_eq_true] at hv ⊢
  obtain ⟨h1, h2, h3⟩ := hv
  refine ⟨by rw [← h1]; unfold sizesB; rw [show (flipP p).ps.length = p.ps.length by simp [flipP]]; rfl, fun q' hq' => ?_, by simpa [flipP] using h3⟩
  obtain ⟨q, hq, rfl⟩ := List.mem_map.1 hq'
  have := h2 q hq
  simp only [postB, Bool.and_eq_true] at this ⊢
  exact ⟨narrow_flip this.1, narrow_flip this.2⟩
theorem swap_valid {p : PegsD} (hv : validB p = true) : validB (swapP p) = true := by
  simp only [validB, Bool.and_eq_true, List.all_eq_true] at hv ⊢
  obtain ⟨h1, h2, h3⟩ := hv
  refine ⟨by rw [← h1]; unfold sizesB; rw [show (swapP p).ps.length = p.ps.length by simp [swapP]]; rfl, fun q' hq' => ?_, by simpa [swapP] using h3⟩
  obtain ⟨q, hq, rfl⟩ := List.mem_map.1 hq'
  have := h2 q hq
  simp only [postB, Bool.and_eq_true] at this ⊢
  exact ⟨this.2, this.1⟩
theorem flip_twin {p : PegsD} (hv : validB p = true) : Twin p (flipP p) id (flipPl p.side) := by
  have hf := fit_of_valid hv
  have hl : (flipP p).ps.length = p.ps.length := by simp [flipP]
  refine Turns.twin (f' := id) (g' := flipPl p.side) ⟨hl, hf.n4, fun i h => h, fun i h => h, fun _ _ => rfl, fun _ _ => rfl, fun s h => ?_, fun i q0 h => ?_, fun t t' h hr l hm => ?_⟩ ⟨hl.symm, by rw [hl]; exact hf.n4, fun i h => h, fun i h => h, fun _ _ => rfl, fun _ _ => rfl, fun s h => ?_, fun i q1 h => ?_, fun t t' h hr l hm => ?_⟩ (flip_flip _)
  · simp only [inField, flipPl, flipP] at *; omega
  · refine ⟨flipPost p.side q0, by simp [flipP, h], fun s _ => ?_⟩
    unfold atPost flipPost flipPl; simp only; omega
  · rw [lens_same hf _ (apart_flip p.side) t t' h l hm]; exact hr l hm
  · simp only [inField, flipPl, flipP] at *; omega
  · simp only [flipP, List.getElem?_map, Option.map_eq_some_iff] at h
    obtain ⟨q0, h0, rfl⟩ := h
    refine ⟨q0, h0, fun s _ => ?_⟩
    unfold atPost flipPost flipPl; simp only; omega
  · rw [lens_same hf _ (apart_flip p.side) t t' (fun i hi => h i (by rw [hl]; exact hi)) l hm]; exact hr l hm
theorem swap_twin {p : PegsD} (hv : validB p = true) : Twin p (swapP p) id swapPl := by
  have hf := fit_of_valid hv
  have hl : (swapP p).ps.length = p.ps.length := by simp [swapP]
  refine Turns.twin (f' := id) (g' := swapPl) ⟨hl, hf.n4, fun i h => h, fun i h => h, fun _ _ => rfl, fun _ _ => rfl, fun s h => ?_, fun i q0 h => ?_, fun t t' h hr l hm => ?_⟩ ⟨hl.symm, by rw [hl]; exact hf.n4, fun i h => h, fun i h => h, fun _ _ => rfl, fun _ _ => rfl, fun s h => ?_, fun i q1 h => ?_, fun t t' h hr l hm => ?_⟩ swap_swap
  · simp only [inField, swapPl, swapP] at *; omega
  · refine ⟨swapPost q0, by simp [swapP, h], fun s _ => ?_⟩
    unfold atPost swapPost swapPl; simp only; omega
  · rw [lens_same hf _ apart_swap t t' h l hm]; exact hr l hm
  · simp only [inField, swapPl, swapP] at *; omega
  · simp only [swapP, List.getElem?_map, Option.map_eq_some_iff] at h
    obtain ⟨q0, h0, rfl⟩ := h
    refine ⟨q0, h0, fun s _ => ?_⟩
    unfold atPost swapPost swapPl; simp only; omega
  · rw [lens_same hf _ apart_swap t t' (fun i hi => h i (by rw [hl]; exact hi)) l hm]; exact hr l hm

/-- Numbered otherwise: i + c, round. -/
def up (n c i : Nat) : Nat := (i + c) % n
def down (n c i : Nat) : Nat := (i + (n - c % n)) % n
theorem up_lt {n c i : Nat} (h : i < n) : up n c i < n := Nat.mod_lt _ (by omega)
theorem down_lt {n c i : Nat} (h : i < n) : down n c i < n := Nat.mod_lt _ (by omega)
theorem down_up {n c i : Nat} (h : i < n) : down n c (up n c i) = i := by
  unfold down up
  have h1 : c % n < n := Nat.mod_lt _ (by omega)
  rw [Nat.add_mod i c n, Nat.mod_eq_of_lt h]
  by_cases h2 : i + c % n < n
  · rw [Nat.mod_eq_of_lt h2, show i + c % n + (n - c % n) = i + n by omega, Nat.add_mod_right, Nat.mod_eq_of_lt h]
  · rw [show (i + c % n) % n = i + c % n - n by rw [Nat.mod_eq_sub_mod (by omega), Nat.mod_eq_of_lt (by omega)], show i + c % n - n + (n - c % n) = i by omega, Nat.mod_eq_of_lt h]
theorem up_down {n c i : Nat} (h : i < n) : up n c (down n c i) = i := by
  unfold down up
  have h1 : c % n < n := Nat.mod_lt _ (by omega)
  rw [Nat.add_mod ((i + (n - c % n)) % n) c n, Nat.mod_mod]
  by_cases h2 : i + (n - c % n) < n
  · rw [Nat.mod_eq_of_lt h2, show i + (n - c % n) + c % n = i + n by omega, Nat.add_mod_right, Nat.mod_eq_of_lt h]
  · rw [show (i + (n - c % n)) % n = i + (n - c % n) - n by rw [Nat.mod_eq_sub_mod (by omega), Nat.mod_eq_of_lt (by omega)], show i + (n - c % n) - n + c % n = i by omega, Nat.mod_eq_of_lt h]
/-- A length, numbered otherwise, its pegs the other way round. -/
def turnLen (n c : Nat) (l : Len) : Len := ⟨fI (up n c) n l.b, fI (up n c) n l.a, l.lo, l.hi⟩
/-- The pegs x of PegTurned: numbered otherwise, the lengths in the other order. -/
structure IsTurned (p q : PegsD) (c : Nat) : Prop where
  side : q.side = p.side
  len : q.ps.length = p.ps.length
  ps : ∀ i, i < p.ps.length → q.ps[up p.ps.length c i]? = p.ps[i]?
  ls : q.ls = p.ls.reverse.map (turnLen p.ps.length c)
theorem lenB_mk {n : Nat} {a b lo hi : Int} (h0 : 0 ≤ a) (h1 : a < n) (h2 : 0 ≤ b) (h3 : b < n) (h4 : a ≠ b) (h5 : withinB lo hi 30 = true) : lenB n ⟨a, b, lo, hi⟩ = true := by
  simp [lenB, isPegB, *]
theorem turned_valid {p q : PegsD} {c : Nat} (h : IsTurned p q c) (hv : validB p = true) : validB q = true := by
  have hf := fit_of_valid hv
  have hl : q.ls.length = p.ls.length := by simp [h.ls]
  simp only [validB, Bool.and_eq_true, List.all_eq_true, lensB] at hv ⊢
  obtain ⟨h1, h2, h3⟩ := hv
  refine ⟨by rw [← h1]; unfold sizesB; rw [h.side, h.len, hl], fun q1 hq => ?_, fun l' hl' => ?_⟩
  · obtain ⟨j, hj⟩ := List.mem_iff_getElem?.1 hq
    have hjl : j < p.ps.length := by have := (List.getElem?_eq_some_iff.1 hj).1; rw [h.len] at this; exact this
    have e := h.ps (down p.ps.length c j) (down_lt hjl)
    rw [up_down hjl, hj] at e
    rw [h.side]
    exact h2 q1 (List.mem_of_getElem? e.symm)
  · rw [h.ls] at hl'
    obtain ⟨l, hm, rfl⟩ := List.mem_map.1 hl'
    have hm' : l ∈ p.ls := by simpa using hm
    have h4 := h3 l hm'
    simp only [lenB, isPegB, Bool.and_eq_true, decide_eq_true_eq, Bool.not_eq_true', decide_eq_false_iff_not] at h4
    obtain ⟨⟨⟨⟨a0, a1⟩, b0, b1⟩, hne⟩, hw⟩ := h4
    have ea : fI (up p.ps.length c) p.ps.length l.a = up p.ps.length c l.a.toNat := by rw [fI, if_pos ⟨a0, a1⟩]
    have eb : fI (up p.ps.length c) p.ps.length l.b = up p.ps.length c l.b.toNat := by rw [fI, if_pos ⟨b0, b1⟩]
    have u1 := up_lt (n := p.ps.length) (c := c) (i := l.a.toNat) (by omega)
    have u2 := up_lt (n := p.ps.length) (c := c) (i := l.b.toNat) (by omega)
    rw [h.len, show turnLen p.ps.length c l = ⟨(up p.ps.length c l.b.toNat : Nat), (up p.ps.length c l.a.toNat : Nat), l.lo, l.hi⟩ by unfold turnLen; rw [ea, eb]]
    refine lenB_mk (by omega) (by omega) (by omega) (by omega) (fun e => hne ?_) hw
    have e' : up p.ps.length c l.b.toNat = up p.ps.length c l.a.toNat := by omega
    have := congrArg (down p.ps.length c) e'
    rw [down_up (by omega), down_up (by omega)] at this
    omega
theorem rightB_swap (l : Len) (a b : Int) (t t' : At) (h : apartI (t'.get a) (t'.get b) = apartI (t.get l.a) (t.get l.b)) : rightB ⟨a, b, l.lo, l.hi⟩ t' = rightB l t := by
  unfold rightB
  rw [h]
theorem apart_sym (a b : Pl) : apartI a b = apartI b a := by
  unfold apartI
  rw [sq_neg (a.x - b.x) (b.x - a.x) (by omega), sq_neg (a.y - b.y) (b.y - a.y) (by omega)]
theorem turned_right {p : PegsD} {c : Nat} (hf : Fit p) (t t' : At) (h : ∀ i : Nat, i < p.ps.length → t'.get (up p.ps.length c i : Nat) = t.get i) (l : Len) (hl : l ∈ p.ls) : rightB (turnLen p.ps.length c l) t' = rightB l t := by
  obtain ⟨⟨a0, _, b0, _, _⟩, a1, b1⟩ := hf.lens l hl
  have ea := h l.a.toNat (by omega)
  have eb := h l.b.toNat (by omega)
  rw [show ((l.a.toNat : Nat) : Int) = l.a by omega] at ea
  rw [show ((l.b.toNat : Nat) : Int) = l.b by omega] at eb
  refine rightB_swap l _ _ t t' ?_
  rw [fI, if_pos ⟨b0, b1⟩, fI, if_pos ⟨a0, a1⟩, ea, eb, apart_sym]
theorem turned_twin {p q : PegsD} {c : Nat} (h : IsTurned p q c) (hv : validB p = true) : Twin p q (up p.ps.length c) id := by
  have hf := fit_of_valid hv
  refine Turns.twin (f' := down p.ps.length c) (g' := id) ⟨h.len, hf.n4, fun i hi => up_lt hi, fun i hi => down_lt hi, fun i hi => down_up hi, fun i hi => up_down hi, fun s hs => by rw [h.side]; exact hs, fun i q0 h0 => ?_, fun t t' ht hr l hm => ?_⟩
    ⟨h.len.symm, by rw [h.len]; exact hf.n4, fun i hi => by rw [h.len] at *; exact down_lt hi, fun i hi => by rw [h.len] at *; exact up_lt hi, fun i hi => by rw [h.len] at *; exact up_down hi, fun i hi => by rw [h.len] at *; exact down_up hi, fun s hs => by rw [h.side] at hs; exact hs, fun i q1 h1 => ?_, fun t t' ht hr l hm => ?_⟩ (fun _ => rfl)
  · have hi := (List.getElem?_eq_some_iff.1 h0).1
    exact ⟨q0, (h.ps i hi).trans h0, fun s _ => Iff.rfl⟩
  · rw [h.ls] at hm
    obtain ⟨l0, hm0, rfl⟩ := List.mem_map.1 hm
    have hm' : l0 ∈ p.ls := by simpa using hm0
    rw [turned_right hf t t' ht l0 hm']
    exact hr l0 hm'
  · have hi : i < p.ps.length := by have := (List.getElem?_eq_some_iff.1 h1).1; rw [h.len] at this; exact this
    refine ⟨q1, ?_, fun s _ => Iff.rfl⟩
    rw [← h.ps _ (down_lt hi), up_down hi, h1]
  · have e := turned_right (c := c) hf t' t (fun i hi => by
      have := ht (up p.ps.length c i) (by rw [h.len]; exact up_lt hi)
      rw [down_up hi] at this
      exact this.symm) l hm
    rw [← e]
    exact hr _ (by rw [h.ls]; exact List.mem_map.2 ⟨l, by simpa using hm, rfl⟩)
end Go.Proofs.Ytkjciobphbcknaa
namespace Go.Proofs.Ytkjciobphbcknaa
open Go.RowKit

section
variable {p q : PegsD} {f : Nat → Nat} {g : Pl → Pl} (T : Twin p q f g) (hp : validB p = true) (hq : validB q = true)
include T hp hq in
theorem Twin.movedT : errOf (movedR q) = errOf (movedR p) ∧ (valOf (0, 0, false) (movedR q)).2.2 = (valOf (0, 0, false) (movedR p)).2.2 ∧
    ∃ S S' : Nat, (valOf (0, 0, false) (movedR p)).2.1 = (S : Int) ∧ (valOf (0, 0, false) (movedR q)).2.1 = (S' : Int) ∧ S < 2 ^ p.ps.length ∧ S' < 2 ^ p.ps.length ∧ ∀ i, i < p.ps.length → S'.testBit (f i) = S.testBit i := by
  by_cases he : truthsL p = []
  · have he' := (T.empty hp hq).2 he
    have e1 : movedR p = .error 10 := by rw [movedR, if_neg (by simp [hp]), if_pos he]
    have e2 : movedR q = .error 10 := by rw [movedR, if_neg (by simp [hq]), if_pos he']
    rw [e1, e2]
    have : 0 < 2 ^ p.ps.length := Nat.two_pow_pos _
    exact ⟨rfl, rfl, 0, 0, rfl, rfl, this, this, fun i _ => by simp⟩
  · obtain ⟨A, B, S, S', b, h1, h2, h3, h4, h5⟩ := T.moved hp hq he
    rw [h1, h2]
    exact ⟨rfl, rfl, S, S', rfl, rfl, h3, h4, h5⟩
end
theorem bits_same {S S' n : Nat} (h1 : S < 2 ^ n) (h2 : S' < 2 ^ n) (h : ∀ i, i < n → S'.testBit i = S.testBit i) : S' = S := by
  refine Nat.eq_of_testBit_eq fun i => ?_
  by_cases hi : i < n
  · exact h i hi
  · have : 2 ^ n ≤ 2 ^ i := Nat.pow_le_pow_right (by omega) (by omega)
    rw [Nat.testBit_lt_two_pow (by omega), Nat.testBit_lt_two_pow (by omega)]
theorem fI_id (n : Nat) (a : Int) : fI id n a = a := by
  unfold fI
  split
  · show ((a.toNat : Nat) : Int) = a
    omega
  · rfl
/-- A span, turned round. -/
def leftS (n : Int) (s : Int × Int) : Int × Int := (n - s.2, n - s.1)
section
variable {p q : PegsD} {c : Nat} (hp : validB p = true)
include hp in
/-- Numbered otherwise. -/
theorem told_turned (h : IsTurned p q c) (a b d : Int) : validB q = true ∧ errOf (movedR q) = errOf (movedR p) ∧ (valOf (0, 0, false) (movedR q)).2.2 = (valOf (0, 0, false) (movedR p)).2.2 ∧
    (∃ S S' : Nat, (valOf (0, 0, false) (movedR p)).2.1 = (S : Int) ∧ (valOf (0, 0, false) (movedR q)).2.1 = (S' : Int) ∧ S < 16 ∧ S' < 16 ∧ ∀ i, i < p.ps.length → S'.testBit (up p.ps.length c i) = S.testBit i) ∧
    whereR q (fI (up p.ps.length c) p.ps.length a) = whereR p a ∧ apartR q (fI (up p.ps.length c) p.ps.length a) (fI (up p.ps.length c) p.ps.length b) = apartR p a b ∧
    areaR q (fI (up p.ps.length c) p.ps.length a) (fI (up p.ps.length c) p.ps.length b) (fI (up p.ps.length c) p.ps.length d) = areaR p a b d ∧ backR q (fI (up p.ps.length c) p.ps.length a) = backR p a := by
  have hq := turned_valid h hp
  have T := turned_twin h hp
  obtain ⟨m1, m2, S, S', m3, m4, m5, m6, m7⟩ := T.movedT hp hq
  have p4 : 2 ^ p.ps.length ≤ 16 := Nat.pow_le_pow_right (by omega) (show p.ps.length ≤ 4 from (fit_of_valid hp).n4)
  refine ⟨hq, m1, m2, ⟨S, S', m3, m4, by omega, by omega, m7⟩, ?_, T.apart hp hq (fun _ _ => rfl) a b, T.area hp hq (fun _ _ _ => rfl) a b d, T.back hp hq a fun i hi s _ => ?_⟩
  · rcases T.where_ hp hq id a (fun L M hL hM _ h1 h2 => by
      simp only [id]
      rw [endsOn_turn (F := Pl.x) hL hM (fun x hx => ⟨x, h1 x hx, rfl⟩) (fun y hy => by obtain ⟨s, hs, e⟩ := h2 y hy; exact ⟨s, hs, by rw [e]; rfl⟩), endsOn_turn (F := Pl.y) hL hM (fun x hx => ⟨x, h1 x hx, rfl⟩) (fun y hy => by obtain ⟨s, hs, e⟩ := h2 y hy; exact ⟨s, hs, by rw [e]; rfl⟩)]) with ⟨n, _, e1, e2⟩ | ⟨v, e1, e2⟩
    · rw [e1, e2]
    · rw [e1, e2]; rfl
  · have e : postAt q (up p.ps.length c i : Nat) = postAt p i := by
      unfold postAt
      rw [show ((up p.ps.length c i : Nat) : Int).toNat = up p.ps.length c i by omega, show ((i : Nat) : Int).toNat = i by omega, List.getD_eq_getElem?_getD, List.getD_eq_getElem?_getD, h.ps i hi]
    rw [e]; rfl
include hp in
/-- Turned round. -/
theorem told_flip (a b d : Int) : validB (flipP p) = true ∧ errOf (movedR (flipP p)) = errOf (movedR p) ∧ (valOf (0, 0, false) (movedR (flipP p))).2 = (valOf (0, 0, false) (movedR p)).2 ∧
    ((errOf (whereR p a) ≠ 0 ∧ whereR (flipP p) a = whereR p a) ∨ ∃ v, whereR p a = .ok v ∧ whereR (flipP p) a = .ok (leftS p.side v.1, leftS p.side v.2)) ∧
    apartR (flipP p) a b = apartR p a b ∧ areaR (flipP p) a b d = areaR p a b d ∧ backR (flipP p) a = backR p a := by
  have hq := flip_valid hp
  have T := flip_twin hp
  obtain ⟨m1, m2, S, S', m3, m4, m5, m6, m7⟩ := T.movedT hp hq
  have ee := T.apart hp hq (apart_flip p.side) a b
  have ea := T.area hp hq (fun x y z => by rw [area_flip]) a b d
  have eb := T.back hp hq a (fun i hi s _ => by
    have e : postAt (flipP p) ((id i : Nat) : Int) = flipPost p.side (postAt p i) := by
      simp only [postAt, flipP, id, Int.toNat_natCast, List.getD_eq_getElem?_getD, List.getElem?_map, List.getElem?_eq_getElem hi, Option.map_some, Option.getD_some]
    rw [e]
    have ho := (fit_of_valid hp).posts _ (List.getElem_mem hi)
    have e2 : postAt p (i : Nat) = p.ps[i] := by simp only [postAt, Int.toNat_natCast, List.getD_eq_getElem?_getD, List.getElem?_eq_getElem hi, Option.getD_some]
    rw [e2]
    exact back_flip _ _ _ ho.2.1 ho.2.2.2.2.1)
  have ew := T.where_ hp hq (fun v => (leftS p.side v.1, leftS p.side v.2)) a (fun L M hL hM _ h1 h2 => by
    simp only [leftS]
    rw [endsOn_flip (F := Pl.x) p.side hL hM (fun x hx => ⟨_, h1 x hx, rfl⟩) (fun y hy => by obtain ⟨s, hs, rfl⟩ := h2 y hy; exact ⟨s, hs, by simp only [flipPl]; omega⟩), endsOn_flip (F := Pl.y) p.side hL hM (fun x hx => ⟨_, h1 x hx, rfl⟩) (fun y hy => by obtain ⟨s, hs, rfl⟩ := h2 y hy; exact ⟨s, hs, by simp only [flipPl]; omega⟩)])
  rw [fI_id] at ee ea eb ew
  rw [fI_id] at ee ea
  rw [fI_id] at ea
  refine ⟨hq, m1, Prod.ext (by rw [m3, m4, bits_same m5 m6 m7]) m2, ?_, ee, ea, eb⟩
  rcases ew with ⟨n, h0, e1, e2⟩ | ⟨v, e1, e2⟩
  · left; rw [e1, e2]; exact ⟨h0, rfl⟩
  · right; exact ⟨v, e1, e2⟩
include hp in
/-- X and Y change places. -/
theorem told_swap (a b d : Int) : validB (swapP p) = true ∧ errOf (movedR (swapP p)) = errOf (movedR p) ∧ (valOf (0, 0, false) (movedR (swapP p))).2 = (valOf (0, 0, false) (movedR p)).2 ∧
    ((errOf (whereR p a) ≠ 0 ∧ whereR (swapP p) a = whereR p a) ∨ ∃ v, whereR p a = .ok v ∧ whereR (swapP p) a = .ok (v.2, v.1)) ∧
    apartR (swapP p) a b = apartR p a b ∧ areaR (swapP p) a b d = areaR p a b d ∧ backR (swapP p) a = backR p a := by
  have hq := swap_valid hp
  have T := swap_twin hp
  obtain ⟨m1, m2, S, S', m3, m4, m5, m6, m7⟩ := T.movedT hp hq
  have ee := T.apart hp hq apart_swap a b
  have ea := T.area hp hq (fun x y z => by rw [area_swap]; omega) a b d
  have eb := T.back hp hq a (fun i hi s _ => by
    have e : postAt (swapP p) ((id i : Nat) : Int) = swapPost (postAt p i) := by
      simp only [postAt, swapP, id, Int.toNat_natCast, List.getD_eq_getElem?_getD, List.getElem?_map, List.getElem?_eq_getElem hi, Option.map_some, Option.getD_some]
    rw [e]
    exact back_swap _ _)
  have ew := T.where_ hp hq (fun v => (v.2, v.1)) a (fun L M hL hM _ h1 h2 => by
    rw [endsOn_turn (F := Pl.y) (G := Pl.x) hL hM (fun x hx => ⟨_, h1 x hx, rfl⟩) (fun y hy => by obtain ⟨s, hs, rfl⟩ := h2 y hy; exact ⟨s, hs, rfl⟩), endsOn_turn (F := Pl.x) (G := Pl.y) hL hM (fun x hx => ⟨_, h1 x hx, rfl⟩) (fun y hy => by obtain ⟨s, hs, rfl⟩ := h2 y hy; exact ⟨s, hs, rfl⟩)])
  rw [fI_id] at ee ea eb ew
  rw [fI_id] at ee ea
  rw [fI_id] at ea
  refine ⟨hq, m1, Prod.ext (by rw [m3, m4, bits_same m5 m6 m7]) m2, ?_, ee, ea, eb⟩
  rcases ew with ⟨n, h0, e1, e2⟩ | ⟨v, e1, e2⟩
  · left; rw [e1, e2]; exact ⟨h0, rfl⟩
  · right; exact ⟨v, e1, e2⟩
end
end Go.Proofs.Ytkjciobphbcknaa
namespace Go.Proofs.Ytkjciobphbcknaa
open Go.RowKit Go.Sort
set_option maxHeartbeats 1000000 in
theorem number_any (n c : Nat) (i : Int) (b b2 : Nat) (w : World) (hn : 0 < n) (hn2 : n ≤ 4) (hc : c < 256) (c1 : w.cell? ⟨b, 0, none⟩ = some (.int .i64 n)) (c2 : w.cell? ⟨b2, 0, none⟩ = some (.int .u8 c)) :
    Calls Try.prog 41 #[.int .i64 i, .pointer (some ⟨b, 0, none⟩), .pointer (some ⟨b2, 0, none⟩)] w fun e w' => e = .returned (.int .i64 (fI (up n c) n i)) ∧ w' = w := by
  have hout : ¬ (0 ≤ i ∧ i < n) → fI (up n c) n i = i := fun h => by rw [fI, if_neg h]
  have hin : 0 ≤ i ∧ i < n → fI (up n c) n i = (i + c) % n := fun h => by
    rw [fI, if_pos h]
    obtain ⟨k, rfl⟩ := Int.eq_ofNat_of_zero_le h.1
    rw [Int.toNat_natCast, up, Int.natCast_emod, Int.natCast_add]
  have Hout := Lib.hid hout
  have Hin := Lib.hid hin
  clear hout hin
  go_enter Try.func41, Try.ntmps41
  go_wp2
  · rw [Hout.out (by omega)]
    exact bodyPost_ret (v := .int .i64 i) (by simp [results, Try.results41, go_sem]) rfl ⟨rfl, rfl⟩
  · rw [Hin.out (by omega)]
    exact bodyPost_ret (v := .int .i64 ((i + c) % n)) (by simp [results, Try.results41, go_sem]) rfl ⟨rfl, rfl⟩
  · rw [Hout.out (by omega)]
    exact bodyPost_ret (v := .int .i64 i) (by simp [results, Try.results41, go_sem]) rfl ⟨rfl, rfl⟩
set_option maxHeartbeats 1000000 in
theorem left_any (n a d : Int) (b : Nat) (w : World) (hn : 0 ≤ n ∧ n ≤ 15) (ha : 0 ≤ a ∧ a ≤ 15) (hd : 0 ≤ d ∧ d ≤ 15) (c1 : w.cell? ⟨b, 0, none⟩ = some (.int .i64 n)) :
    Calls Try.prog 42 #[.agg #[.int .i64 a, .int .i64 d], .pointer (some ⟨b, 0, none⟩)] w fun e w' => e = .returned (.agg #[.int .i64 (n - d), .int .i64 (n - a)]) ∧ Kept w w' := by
  have hb := World.block_lt_of_cell? w _ c1
  go_enter Try.func42, Try.ntmps42
  go_wp2_with (go_at_call 28; refine (spanL_any _ _ _).mono ?_; rintro e w1 ⟨rfl, rfl⟩)
  exact bodyPost_ret (v := .agg #[.int .i64 (n - d), .int .i64 (n - a)]) (by simp [results, Try.results42, go_sem]) rfl ⟨rfl, (((Kept.refl _).alloc _).alloc _).alloc _⟩
/-- A post of zeros. -/
def zeroPost : Post := ⟨0, 0, 0, 0⟩
theorem made0 : (madeCells (Value.agg #[.int .i64 0, .int .i64 0, .int .i64 0, .int .i64 0]).cells (0 * 4)).toList = postCells (List.replicate 0 zeroPost) := by kernel_rfl
theorem made1 : (madeCells (Value.agg #[.int .i64 0, .int .i64 0, .int .i64 0, .int .i64 0]).cells (1 * 4)).toList = postCells (List.replicate 1 zeroPost) := by kernel_rfl
theorem made2 : (madeCells (Value.agg #[.int .i64 0, .int .i64 0, .int .i64 0, .int .i64 0]).cells (2 * 4)).toList = postCells (List.replicate 2 zeroPost) := by kernel_rfl
theorem made3 : (madeCells (Value.agg #[.int .i64 0, .int .i64 0, .int .i64 0, .int .i64 0]).cells (3 * 4)).toList = postCells (List.replicate 3 zeroPost) := by kernel_rfl
theorem made4 : (madeCells (Value.agg #[.int .i64 0, .int .i64 0, .int .i64 0, .int .i64 0]).cells (4 * 4)).toList = postCells (List.replicate 4 zeroPost) := by kernel_rfl
theorem made_posts {n : Nat} (hn : n ≤ 4) : (madeCells (Value.agg #[.int .i64 0, .int .i64 0, .int .i64 0, .int .i64 0]).cells (n * 4)).toList = postCells (List.replicate n zeroPost) := by
  match n, hn with
  | 0, _ => exact made0
  | 1, _ => exact made1
  | 2, _ => exact made2
  | 3, _ => exact made3
  | 4, _ => exact made4
/-- 'make([]api.Post, n)'. -/
theorem make_posts {n : Nat} (hn : n ≤ 4) (w : World) : ∃ w', (Instr.makeSlice 22 (.int .i64 (n : Int)) (.int .i64 (n : Int))).run Try.prog w = .ok (.slice (some ⟨w.heap.size, 0, none⟩) n n) w' ∧
    OwnsPosts w' w.heap.size (.slice (some ⟨w.heap.size, 0, none⟩) n n) (List.replicate n zeroPost) ∧ Kept w w' := by
  obtain ⟨i0, hi, hz0, hz1, hz2⟩ := info_parts info56
  obtain ⟨w', h1, h2, h3⟩ := run_makeSlice_full (P := Try.prog) (w := w) w.heap.size 22 56 i0 (.agg #[.int .i64 0, .int .i64 0, .int .i64 0, .int .i64 0]) 4 Try.underlying22 hi hz0 hz1 .i64 .i64 n (by omega) (by rw [hz2]; omega) (by unfold maxLen; omega) (Nat.le_refl _)
  refine ⟨w', h1, ?_, (Kept.refl w).grown h3 (by intro k e; cases e)⟩
  rw [made_posts hn] at h2
  unfold OwnsPosts
  rw [List.length_replicate]
  exact h2
theorem PBox.put1 {W : World} {b : Nat} {v0 v1 v2 : Value} (h : PBox W b v0 v1 v2) (u : Value) : PBox (W.setCell ⟨b, 1, none⟩ u) b v0 u v2 := by
  obtain ⟨l, h0, h1, h2, z0, z1, z2⟩ := h
  exact ⟨by simpa using l, by rw [World.cell?_setCell_other _ _ _ _ (by simp)]; exact h0, World.cell?_setCell_same' _ _ _ (by rw [h1]; rfl), by rw [World.cell?_setCell_other _ _ _ _ (by simp)]; exact h2, by simpa using z0, by simpa using z1, by simpa using z2⟩
theorem OwnsPosts.keptBy {w w' : World} {base : Nat} {v : Value} {L : List Post} (h : OwnsPosts w base v L) (hb : Kept w w') : OwnsPosts w' base v L := by
  obtain ⟨h1, h2 | ⟨g, cap, cur, a, b, c, d⟩⟩ := h
  · exact ⟨h1, .inl h2⟩
  · exact ⟨h1, .inr ⟨g, cap, cur, a, b, (Below.block hb g (Array.getElem?_eq_some_iff.1 c).1).trans c, d⟩⟩
theorem OwnsPosts.setBelow {w : World} {base : Nat} {v : Value} {L : List Post} (h : OwnsPosts w base v L) (b o : Nat) (u : Value) (hb : b < base) : OwnsPosts (w.setCell ⟨b, o, none⟩ u) base v L := by
  obtain ⟨h1, h2 | ⟨g, cap, cur, e, hbg, hg, r⟩⟩ := h
  · exact ⟨h1, .inl h2⟩
  · exact ⟨h1, .inr ⟨g, cap, cur, e, hbg, (Below.heap_setCell _ _ _ _ (show g ≠ b by omega)).trans hg, r⟩⟩
end Go.Proofs.Ytkjciobphbcknaa
namespace Go.Proofs.Ytkjciobphbcknaa
open Go.RowKit Go.Sort

/-- The posts of x behind j rounds: those of the first j pegs stand where they belong, all others are zeros. -/
def turnedTo (p : PegsD) (c j : Nat) : List Post := (List.range p.ps.length).map fun i => if down p.ps.length c i < j then p.ps.getD (down p.ps.length c i) zeroPost else zeroPost
theorem turnedTo_len (p : PegsD) (c j : Nat) : (turnedTo p c j).length = p.ps.length := by simp [turnedTo]
theorem turnedTo_at (p : PegsD) (c j i : Nat) (hi : i < p.ps.length) : (turnedTo p c j)[i]? = some (if down p.ps.length c i < j then p.ps.getD (down p.ps.length c i) zeroPost else zeroPost) := by
  simp [turnedTo, List.getElem?_map, List.getElem?_range hi]
theorem turnedTo_zero (p : PegsD) (c : Nat) : turnedTo p c 0 = List.replicate p.ps.length zeroPost := by
  apply List.ext_getElem?
  intro i
  by_cases hi : i < p.ps.length
  · rw [turnedTo_at p c 0 i hi, if_neg (by omega), List.getElem?_replicate, if_pos hi]
  · rw [List.getElem?_eq_none (by rw [turnedTo_len]; omega), List.getElem?_eq_none (by rw [List.length_replicate]; omega)]
theorem turnedTo_step (p : PegsD) (c j : Nat) (q : Post) (hq : p.ps[j]? = some q) : (turnedTo p c j).set (up p.ps.length c j) q = turnedTo p c (j + 1) := by
  have hj : j < p.ps.length := (List.getElem?_eq_some_iff.1 hq).1
  apply List.ext_getElem?
  intro i
  by_cases hi : i < p.ps.length
  · rw [turnedTo_at p c (j + 1) i hi, List.getElem?_set]
    by_cases he : up p.ps.length c j = i
    · have e : down p.ps.length c i = j := by rw [← he, down_up hj]
      rw [if_pos he, if_pos (by rw [turnedTo_len, he]; exact hi), e, if_pos (by omega), List.getD_eq_getElem?_getD, hq]; rfl
    · have e : down p.ps.length c i ≠ j := fun e => he (by rw [← e, up_down hi])
      rw [if_neg he, turnedTo_at p c j i hi]
      by_cases h : down p.ps.length c i < j
      · rw [if_pos h, if_pos (by omega)]
      · rw [if_neg h, if_neg (by omega)]
  · rw [List.getElem?_eq_none (by rw [List.length_set, turnedTo_len]; omega), List.getElem?_eq_none (by rw [turnedTo_len]; omega)]
theorem turnedTo_end (p : PegsD) (c i : Nat) (hi : i < p.ps.length) : (turnedTo p c p.ps.length)[up p.ps.length c i]? = p.ps[i]? := by
  rw [turnedTo_at p c _ _ (up_lt hi), down_up hi, if_pos hi, List.getD_eq_getElem?_getD, List.getElem?_eq_getElem hi]; rfl
/-- What the two loops build are the pegs, numbered otherwise. -/
theorem built_turned (p : PegsD) (c : Nat) : IsTurned p ⟨p.side, turnedTo p c p.ps.length, p.ls.reverse.map (turnLen p.ps.length c)⟩ c :=
  ⟨rfl, turnedTo_len p c _, fun i hi => turnedTo_end p c i hi, rfl⟩
theorem postCells_set : ∀ (L : List Post) (k : Nat) (q : Post), k < L.length → ((((postCells L).set (k * 4) (.int .i64 q.xlo)).set (k * 4 + 1) (.int .i64 q.xhi)).set (k * 4 + 2) (.int .i64 q.ylo)).set (k * 4 + 3) (.int .i64 q.yhi) = postCells (L.set k q)
  | [], k, q, h => by simp at h
  | x :: r, 0, q, h => rfl
  | x :: r, k + 1, q, h => by
    have ih := postCells_set r k q (by simpa using h)
    have e : (k + 1) * 4 = k * 4 + 1 + 1 + 1 + 1 := by omega
    have e1 : k * 4 + 1 + 1 + 1 + 1 + 1 = (k * 4 + 1) + 1 + 1 + 1 + 1 := by omega
    rw [e, List.set_cons_succ]
    show ((((Value.int .i64 x.xlo :: Value.int .i64 x.xhi :: Value.int .i64 x.ylo :: Value.int .i64 x.yhi :: postCells r).set (k * 4 + 1 + 1 + 1 + 1) (.int .i64 q.xlo)).set ((k * 4 + 1) + 1 + 1 + 1 + 1) (.int .i64 q.xhi)).set ((k * 4 + 2) + 1 + 1 + 1 + 1) (.int .i64 q.ylo)).set ((k * 4 + 3) + 1 + 1 + 1 + 1) (.int .i64 q.yhi) = Value.int .i64 x.xlo :: Value.int .i64 x.xhi :: Value.int .i64 x.ylo :: Value.int .i64 x.yhi :: postCells (r.set k q)
    simp only [List.set_cons_succ, ih]
/-- 'row[k] = q'. -/
theorem OwnsPosts.put {w : World} {base g n c : Nat} {L : List Post} (h : OwnsPosts w base (.slice (some ⟨g, 0, none⟩) n c) L) {k : Nat} (q : Post) (hk : k < L.length) (hn : n = L.length) :
    OwnsPosts ((((w.setCell ⟨g, k * 4, none⟩ (.int .i64 q.xlo)).setCell ⟨g, k * 4 + 1, none⟩ (.int .i64 q.xhi)).setCell ⟨g, k * 4 + 2, none⟩ (.int .i64 q.ylo)).setCell ⟨g, k * 4 + 3, none⟩ (.int .i64 q.yhi)) base (.slice (some ⟨g, 0, none⟩) n c) (L.set k q) := by
  subst hn
  unfold OwnsPosts at *
  rw [← postCells_set L k q hk, List.length_set]
  exact (World.ownsRow.stored (World.ownsRow.stored (World.ownsRow.stored (World.ownsRow.stored h _ _).1 _ _).1 _ _).1 _ _).1
/-- The posts of y, of z, behind j rounds. -/
theorem flip_snoc (p : PegsD) (j : Nat) (h : j < p.ps.length) : (p.ps.take (j + 1)).map (flipPost p.side) = (p.ps.take j).map (flipPost p.side) ++ [flipPost p.side p.ps[j]] := by
  rw [List.take_succ_eq_append_getElem h, List.map_append]; rfl
theorem swap_snoc (p : PegsD) (j : Nat) (h : j < p.ps.length) : (p.ps.take (j + 1)).map swapPost = (p.ps.take j).map swapPost ++ [swapPost p.ps[j]] := by
  rw [List.take_succ_eq_append_getElem h, List.map_append]; rfl
/-- The lengths of x behind j rounds: from the last on. -/
theorem turnLen_snoc (p : PegsD) (c j : Nat) (h : j < p.ls.length) : (p.ls.reverse.take (j + 1)).map (turnLen p.ps.length c) = (p.ls.reverse.take j).map (turnLen p.ps.length c) ++ [turnLen p.ps.length c p.ls[p.ls.length - 1 - j]] := by
  rw [List.take_succ_eq_append_getElem (by simpa using h), List.map_append, List.getElem_reverse]; rfl
end Go.Proofs.Ytkjciobphbcknaa
