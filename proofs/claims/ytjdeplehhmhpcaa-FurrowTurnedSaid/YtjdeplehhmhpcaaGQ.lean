/- Furrow: turned furrows. -/
import Derived.Test.YtjdeplehhmhpcaaGN
import Derived.Test.YtjdeplehhmhpcaaGH
namespace Go.Proofs.Ytjdeplehhmhpcaa
open Go.RowKit En

theorem run_remT {P : Program} {E : Env} {w0 : World} {T : Nat → Prop} {R : Heap} {d : Option Tmp} {ty : TypeId} {pos : String} {af : Array Edge} {g : Option (Nat × Bool)} {x y : Operand} {k : IntKind} {a c : Int} {tx tyy : TypeId} (hx : Ev E x (.int k a)) (hy : Ev E y (.int k c)) (hc : c ≠ 0) : RunB P E w0 T R ⟨d, .binOp .rem tx x y tyy, ty, pos, af, g⟩ (.int k (a.tmod c)) := fun ρ w hρ _ => by
  refine doneO rfl ?_
  have e := hρ x _ (by simp [Op.operands]) hx
  have e' := hρ y _ (by simp [Op.operands]) hy
  simp [execOp, e, e', Done, go_sem, Below.refl, eqGuard, binOp, Op.intDiv, hc]
/-- Two courses whose offsets correspond, station by station, with the same bends. -/
structure Twin (l q : List SpanD) (σ : Nat → Nat) : Prop where
  len : q.length = l.length
  to_ : ∀ t, Inn l t → ∃ u, Inn q u ∧ ∀ k, Inner l k → bentT u (σ k) = bentT t k
  of_ : ∀ u, Inn q u → ∃ t, Inn l t ∧ ∀ k, Inner l k → bentT u (σ k) = bentT t k
  inner : ∀ k, Inner l k → Inner q (σ k)
  back : ∀ k, Inner q k → ∃ j, Inner l j ∧ σ j = k
namespace Twin
variable {l q : List SpanD} {σ : Nat → Nat}
theorem all_iff (h : Twin l q σ) {t u : List Int} (e : ∀ k, Inner l k → bentT u (σ k) = bentT t k) {P : Int → Prop} : (∀ k, Inner q k → P (bentT u k)) ↔ ∀ k, Inner l k → P (bentT t k) := by
  constructor
  · intro h1 k hk; rw [← e k hk]; exact h1 _ (h.inner k hk)
  · intro h1 k hk
    obtain ⟨j, hj, rfl⟩ := h.back k hk
    rw [e j hj]; exact h1 j hj
theorem most (h : Twin l q σ) {t u : List Int} (ht : Inn l t) (hu : Inn q u) (e : ∀ k, Inner l k → bentT u (σ k) = bentT t k) : mostT u = mostT t := by
  have a := (mostT_le ht.1 (m := mostT u)).2 ⟨mostT_nonneg u, (h.all_iff e (P := fun x => x ≤ mostT u)).1 fun k hk => mostT_ge hu.1 hk⟩
  have b := (mostT_le hu.1 (m := mostT t)).2 ⟨mostT_nonneg t, (h.all_iff e (P := fun x => x ≤ mostT t)).2 fun k hk => mostT_ge ht.1 hk⟩
  omega
theorem bend (h : Twin l q σ) (hl : FineC l) (hq : FineC q) : bendT q = bendT l := by
  obtain ⟨a1, ⟨a2, a3, a4⟩, a5, a6, a7⟩ := bendT_spec hl
  obtain ⟨b1, ⟨b2, b3, b4⟩, b5, b6, b7⟩ := bendT_spec hq
  obtain ⟨c1, c2, c3⟩ := h.to_ _ a3
  obtain ⟨d1, d2, d3⟩ := h.to_ _ a6
  obtain ⟨e1, e2, e3⟩ := h.of_ _ b3
  obtain ⟨f1, f2, f3⟩ := h.of_ _ b6
  have g1 := h.most a3 c2 c3
  have g2 := h.most a6 d2 d3
  have g3 := h.most e2 b3 e3
  have g4 := h.most f2 b6 f3
  have k1 := b1 _ c2
  have k2 := b1 _ d2
  have k3 := a1 _ e2
  have k4 := a1 _ f2
  cases hx : bendT l with | mk x1 x2 =>
  cases hy : bendT q with | mk y1 y2 =>
  rw [hx] at a4 a7 k3 k4
  rw [hy] at b4 b7 k1 k2
  simp only at a4 a7 b4 b7 k1 k2 k3 k4
  rw [show y1 = x1 by omega, show y2 = x2 by omega]
theorem sure (h : Twin l q σ) (hl : FineC l) (hq : FineC q) {j : Nat} (hj : Inner l j) : (sureN q).testBit (σ j) = (sureN l).testBit j := by
  rw [Bool.eq_iff_iff, sure_bit hl, sure_bit hq]
  constructor
  · rintro ⟨_, h2⟩
    refine ⟨hj, fun t ht k hk => ?_⟩
    obtain ⟨u, hu, e⟩ := h.to_ t ht
    rw [← e k hk, ← e j hj]
    exact h2 u hu _ (h.inner k hk)
  · rintro ⟨_, h2⟩
    refine ⟨h.inner j hj, fun u hu k hk => ?_⟩
    obtain ⟨t, ht, e⟩ := h.of_ u hu
    obtain ⟨i, hi, rfl⟩ := h.back k hk
    rw [e i hi, e j hj]
    exact h2 t ht i hi
theorem can (h : Twin l q σ) (hl : FineC l) (hq : FineC q) {j : Nat} (hj : Inner l j) : (canN q).testBit (σ j) = (canN l).testBit j := by
  rw [Bool.eq_iff_iff, can_bit hl, can_bit hq]
  constructor
  · rintro ⟨_, u, hu, h2⟩
    obtain ⟨t, ht, e⟩ := h.of_ u hu
    refine ⟨hj, t, ht, fun k hk => ?_⟩
    rw [← e k hk, ← e j hj]
    exact h2 _ (h.inner k hk)
  · rintro ⟨_, t, ht, h2⟩
    obtain ⟨u, hu, e⟩ := h.to_ t ht
    refine ⟨h.inner j hj, u, hu, fun k hk => ?_⟩
    obtain ⟨i, hi, rfl⟩ := h.back k hk
    rw [e i hi, e j hj]
    exact h2 i hi
theorem canMost (h : Twin l q σ) (m : Int) : canMost q m = canMost l m := by
  rw [Bool.eq_iff_iff, canMost_iff, canMost_iff]
  constructor
  · rintro ⟨u, hu, h2⟩
    obtain ⟨t, ht, e⟩ := h.of_ u hu
    exact ⟨t, ht, (h.all_iff e (P := fun x => x ≤ m)).1 h2⟩
  · rintro ⟨t, ht, h2⟩
    obtain ⟨u, hu, e⟩ := h.to_ t ht
    exact ⟨u, hu, (h.all_iff e (P := fun x => x ≤ m)).2 h2⟩
theorem at_ (h : Twin l q σ) (hl : FineC l) (hq : FineC q) {j : Nat} (hj : Inner l j) : bendS q (σ j) = bendS l j := by
  have hi := h.inner j hj
  obtain ⟨a1, a2⟩ := bendS_hi hl hj
  obtain ⟨a3, a4⟩ := bendS_lo hl hj
  obtain ⟨b1, b2⟩ := bendS_hi hq hi
  obtain ⟨b3, b4⟩ := bendS_lo hq hi
  obtain ⟨c1, c2, c3⟩ := h.to_ _ a2.1
  obtain ⟨d1, d2, d3⟩ := h.to_ _ a4.1
  obtain ⟨e1, e2, e3⟩ := h.of_ _ b2.1
  obtain ⟨f1, f2, f3⟩ := h.of_ _ b4.1
  have k1 := bendS_at hq hi c2
  have k2 := bendS_at hq hi d2
  have k3 := bendS_at hl hj e2
  have k4 := bendS_at hl hj f2
  have g1 := c3 j hj
  have g2 := d3 j hj
  have g3 := e3 j hj
  have g4 := f3 j hj
  have z1 := a2.2
  have z2 := a4.2
  have z3 := b2.2
  have z4 := b4.2
  cases hx : bendS l j with | mk x1 x2 =>
  cases hy : bendS q (σ j) with | mk y1 y2 =>
  rw [hx] at z1 z2 k3 k4
  rw [hy] at z3 z4 k1 k2
  simp only at z1 z2 z3 z4 k1 k2 k3 k4
  rw [show y1 = x1 by omega, show y2 = x2 by omega]
end Twin
def pack (n : Nat) (G : Nat → Int) : List Int := (List.range n).map G
theorem pack_len (n : Nat) (G : Nat → Int) : (pack n G).length = n := by simp [pack]
theorem pack_at {n k : Nat} {G : Nat → Int} (h : k < n) : (pack n G).getD k 0 = G k := by
  rw [List.getD_eq_getElem?_getD, pack, List.getElem?_map, List.getElem?_range h]; rfl
structure IsShift (l q : List SpanD) (g : Nat → Int) : Prop where
  len : q.length = l.length
  at_ : ∀ k, k < l.length → q.getD k default = ⟨(l.getD k default).lo + g k, (l.getD k default).hi + g k⟩
structure IsNeg (l q : List SpanD) : Prop where
  len : q.length = l.length
  at_ : ∀ k, k < l.length → q.getD k default = ⟨-(l.getD k default).hi, -(l.getD k default).lo⟩
structure IsRev (l q : List SpanD) : Prop where
  len : q.length = l.length
  at_ : ∀ k, k < l.length → q.getD k default = l.getD (l.length - 1 - k) default
theorem inner_len {l q : List SpanD} (h : q.length = l.length) {k : Nat} (hk : Inner l k) : Inner q k := by unfold Inner at hk ⊢; omega
theorem twin_shift {l q : List SpanD} {g : Nat → Int} (h : IsShift l q g) (hg : ∀ k, 1 ≤ k → 2 * g k = g (k - 1) + g (k + 1)) : Twin l q fun k => k := by
  refine ⟨h.len, fun t ht => ⟨pack l.length fun k => t.getD k 0 + g k, ⟨by rw [pack_len, h.len], fun j hj => ?_⟩, fun k hk => ?_⟩, fun u hu => ⟨pack l.length fun k => u.getD k 0 - g k, ⟨by rw [pack_len], fun j hj => ?_⟩, fun k hk => ?_⟩, fun k hk => inner_len h.len hk, fun k hk => ⟨k, inner_len h.len.symm hk, rfl⟩⟩
  · rw [h.len] at hj
    have h1 := ht.2 j hj
    rw [h.at_ j hj, pack_at hj]
    simp only
    omega
  · have h1 := hk.1
    have h2 := hk.2
    have h3 := hg k h1
    unfold bentT bendI
    rw [pack_at (by omega), pack_at (by omega), pack_at h2]
    omega
  · have h1 := hu.2 j (by rw [h.len]; exact hj)
    rw [h.at_ j hj] at h1
    rw [pack_at hj]
    simp only at h1
    omega
  · have h1 := hk.1
    have h2 := hk.2
    have h3 := hg k h1
    unfold bentT bendI
    rw [pack_at (by omega), pack_at (by omega), pack_at h2]
    omega
theorem twin_neg {l q : List SpanD} (h : IsNeg l q) : Twin l q fun k => k := by
  refine ⟨h.len, fun t ht => ⟨pack l.length fun k => -t.getD k 0, ⟨by rw [pack_len, h.len], fun j hj => ?_⟩, fun k hk => ?_⟩, fun u hu => ⟨pack l.length fun k => -u.getD k 0, ⟨by rw [pack_len], fun j hj => ?_⟩, fun k hk => ?_⟩, fun k hk => inner_len h.len hk, fun k hk => ⟨k, inner_len h.len.symm hk, rfl⟩⟩
  · rw [h.len] at hj
    have h1 := ht.2 j hj
    rw [h.at_ j hj, pack_at hj]
    simp only
    omega
  · have h1 := hk.1
    have h2 := hk.2
    unfold bentT bendI
    rw [pack_at (by omega), pack_at (by omega), pack_at h2]
    omega
  · have h1 := hu.2 j (by rw [h.len]; exact hj)
    rw [h.at_ j hj] at h1
    rw [pack_at hj]
    simp only at h1
    omega
  · have h1 := hk.1
    have h2 := hk.2
    unfold bentT bendI
    rw [pack_at (by omega), pack_at (by omega), pack_at h2]
    omega
theorem twin_rev {l q : List SpanD} (h : IsRev l q) : Twin l q fun k => l.length - 1 - k := by
  refine ⟨h.len, fun t ht => ⟨pack l.length fun k => t.getD (l.length - 1 - k) 0, ⟨by rw [pack_len, h.len], fun j hj => ?_⟩, fun k hk => ?_⟩, fun u hu => ⟨pack l.length fun k => u.getD (l.length - 1 - k) 0, ⟨by rw [pack_len], fun j hj => ?_⟩, fun k hk => ?_⟩, fun k hk => ?_, fun k hk => ⟨l.length - 1 - k, ?_, ?_⟩⟩
  · rw [h.len] at hj
    have h1 := ht.2 (l.length - 1 - j) (by omega)
    rw [h.at_ j hj, pack_at hj]
    exact h1
  · have h1 := hk.1
    have h2 := hk.2
    unfold bentT bendI
    rw [pack_at (by omega), pack_at (by omega), pack_at (by omega)]
    rw [show l.length - 1 - (l.length - 1 - k - 1) = k + 1 by omega, show l.length - 1 - (l.length - 1 - k) = k by omega, show l.length - 1 - (l.length - 1 - k + 1) = k - 1 by omega]
    omega
  · have h1 := hu.2 (l.length - 1 - j) (by rw [h.len]; omega)
    rw [h.at_ _ (by omega), show l.length - 1 - (l.length - 1 - j) = j by omega] at h1
    rw [pack_at hj]
    exact h1
  · have h1 := hk.1
    have h2 := hk.2
    unfold bentT bendI
    rw [pack_at (by omega), pack_at (by omega), pack_at h2]
    rw [show l.length - 1 - k + 1 = l.length - 1 - (k - 1) by omega, show l.length - 1 - k - 1 = l.length - 1 - (k + 1) by omega]
    omega
  · have h1 := hk.1
    have h2 := hk.2
    have := h.len
    unfold Inner
    omega
  · have h1 := hk.1
    have h2 := hk.2
    have := h.len
    unfold Inner
    omega
  · have h2 := hk.2
    have := h.len
    omega
theorem freed_getD {l : List SpanD} {s k : Nat} (h : k < l.length) : (freedL l s).getD k default = freedS l s k := by rw [List.getD_eq_getElem?_getD, freedL_at h]; rfl
theorem neg_freed {l q : List SpanD} (h : IsNeg l q) (s : Nat) : IsNeg (freedL l s) (freedL q s) := by
  refine ⟨by rw [freedL_length, freedL_length, h.len], fun k hk => ?_⟩
  rw [freedL_length] at hk
  rw [freed_getD hk, freed_getD (by rw [h.len]; exact hk)]
  unfold freedS
  split
  · rfl
  · exact h.at_ k hk
theorem rev_freed {l q : List SpanD} (h : IsRev l q) {s r : Nat} (hr : ∀ k, k < l.length → s.testBit k = r.testBit (l.length - 1 - k)) : IsRev (freedL l r) (freedL q s) := by
  refine ⟨by rw [freedL_length, freedL_length, h.len], fun k hk => ?_⟩
  rw [freedL_length] at hk ⊢
  rw [freed_getD (show l.length - 1 - k < l.length by omega), freed_getD (by rw [h.len]; exact hk)]
  unfold freedS
  rw [hr k hk]
  split
  · rfl
  · exact h.at_ k hk
theorem neg_saved {l q : List SpanD} (h : IsNeg l q) (most : Int) (s : Nat) : savedB q most s = savedB l most s := (twin_neg (neg_freed h s)).canMost most
theorem rev_saved {l q : List SpanD} (h : IsRev l q) {s r : Nat} (hr : ∀ k, k < l.length → s.testBit k = r.testBit (l.length - 1 - k)) (most : Int) : savedB q most s = savedB l most r := (twin_rev (rev_freed h hr)).canMost most
/-- A set of stations, counted from the other end. -/
def turnN (n s : Nat) : Nat → Nat
  | 0 => 0
  | k + 1 => turnN n s k ||| bitN s k * 2 ^ (n - 1 - k)
theorem bitN_mul (s k m j : Nat) : (bitN s k * 2 ^ m).testBit j = (s.testBit k && decide (m = j)) := by
  have h : bitN s k = 0 ∨ bitN s k = 1 := by have : bitN s k < 2 := Nat.mod_lt _ (by omega); omega
  rcases h with h | h
  · rw [h, bitN_zero.1 h]; simp
  · rw [h, bitN_iff.1 h, Nat.one_mul, Nat.testBit_two_pow]; simp
theorem turnN_bit (n s j : Nat) : ∀ k : Nat, k ≤ n → (turnN n s k).testBit j = decide (n - k ≤ j ∧ j < n ∧ s.testBit (n - 1 - j) = true)
  | 0, _ => by
    have : decide (n - 0 ≤ j ∧ j < n ∧ s.testBit (n - 1 - j) = true) = false := decide_eq_false (by omega)
    rw [this]; simp [turnN]
  | k + 1, hk => by
    simp only [turnN, Nat.testBit_or, bitN_mul, turnN_bit n s j k (by omega)]
    by_cases e : n - 1 - k = j
    · have e2 : n - 1 - j = k := by omega
      rw [e2]
      cases hb : s.testBit k
      · simp
      · have : (n - (k + 1) ≤ j ∧ j < n) := by omega
        simp [e, this]
    · have : (n - (k + 1) ≤ j ∧ j < n ∧ s.testBit (n - 1 - j) = true) ↔ (n - k ≤ j ∧ j < n ∧ s.testBit (n - 1 - j) = true) := by
        constructor
        · rintro ⟨a, b, c⟩; exact ⟨by omega, b, c⟩
        · rintro ⟨a, b, c⟩; exact ⟨by omega, b, c⟩
      rw [decide_eq_false e, Bool.and_false, Bool.or_false]
      exact (decide_eq_decide.2 this).symm
theorem turnN_lt (n s : Nat) : ∀ k : Nat, k ≤ n → turnN n s k < 2 ^ n := fun k hk => Nat.lt_pow_two_of_testBit _ fun j hj => by
  rw [turnN_bit n s j k hk]
  exact decide_eq_false (by omega)
theorem turn_size : ∀ n : Fin 7, ∀ s : Fin 64, s.1 < 2 ^ n.1 → sizeN (turnN n.1 s.1 n.1) = sizeN s.1 := by decide +kernel
theorem turn_back {n s k : Nat} (hk : k < n) : s.testBit k = (turnN n s n).testBit (n - 1 - k) := by
  rw [turnN_bit n s _ n (Nat.le_refl _), show n - 1 - (n - 1 - k) = k by omega]
  cases hb : s.testBit k
  · simp
  · simp; omega
theorem rev_wrong_le {f z : FurrowD} (hf : ValidF f) (hz : ValidF z) (h : IsRev f.offs z.offs) (h6 : f.offs.length ≤ 6) {most : Int} (hm : 0 ≤ most) {s v : Nat} (hs : wrongN f most = (s : Int)) (hv : wrongN z most = (v : Int)) : sizeN s ≤ sizeN v := by
  obtain ⟨s', h1, h2, h3, A, B, h4, h5⟩ := wrong_spec hf hm
  obtain ⟨v', g1, g2, g3, _⟩ := wrong_spec hz hm
  obtain rfl : s' = s := by omega
  obtain rfl : v' = v := by omega
  have hl := h.len
  rw [hl] at g2
  have hr := rev_saved h (s := v') (r := turnN f.offs.length v' f.offs.length) (fun k hk => turn_back hk) most
  rw [g3] at hr
  have e : 2 ^ f.offs.length ≤ 2 ^ 6 := Nat.pow_le_pow_right (by omega) h6
  have hsz := turn_size ⟨f.offs.length, by omega⟩ ⟨v', by omega⟩ g2
  simp only at hsz
  have := sets_first hf.len h4 h5 (turnN_lt f.offs.length v' _ (Nat.le_refl _)) hr.symm
  omega
theorem IsRev.symm {l q : List SpanD} (h : IsRev l q) : IsRev q l := ⟨h.len.symm, fun k hk => by
  rw [h.len] at hk ⊢
  rw [h.at_ _ (by omega), show l.length - 1 - (l.length - 1 - k) = k by omega]⟩
theorem neg_wrong {f y : FurrowD} (h : IsNeg f.offs y.offs) (most : Int) : wrongN y most = wrongN f most := by
  unfold wrongN
  rw [h.len]
  have : (fun x : Int => savedB y.offs most x.toNat) = fun x : Int => savedB f.offs most x.toNat := by funext x; exact neg_saved h most _
  rw [this]
theorem sum_rev {p q : List SpanD} {n : Nat} (h : ∀ k, k < n → q.getD k default = p.getD (n - 1 - k) default) : ∀ j, j ≤ n → (sumN q j).lo + (sumN p (n - j)).lo = (sumN p n).lo ∧ (sumN q j).hi + (sumN p (n - j)).hi = (sumN p n).hi
  | 0, _ => by simp [sumN]
  | j + 1, hj => by
    have ih := sum_rev h j (by omega)
    have e := h j (by omega)
    rw [show n - j = (n - (j + 1)) + 1 by omega] at ih
    simp only [sumN] at ih ⊢
    rw [e, show n - 1 - j = n - (j + 1) by omega]
    omega
theorem soil_rev {f z : FurrowD} (hf : ValidF f) (h : IsRev f.offs z.offs) (hw : IsRev f.wids z.wids) (hd : IsRev f.deps z.deps) : soilS z = soilS f := by
  have l1 := hf.wids
  have l2 := hf.deps
  have l3 := h.len
  have key := sum_rev (p := prodL f) (q := prodL z) (n := f.offs.length) (fun k hk => by
    have e1 : (prodL f).getD (f.offs.length - 1 - k) default = timesS (f.wids.getD (f.offs.length - 1 - k) default) (f.deps.getD (f.offs.length - 1 - k) default) := by rw [List.getD_eq_getElem?_getD, prodL, alongL_at (by omega)]; rfl
    have e2 : (prodL z).getD k default = timesS (z.wids.getD k default) (z.deps.getD k default) := by rw [List.getD_eq_getElem?_getD, prodL, alongL_at (by omega)]; rfl
    rw [e1, e2, hw.at_ k (by omega), hd.at_ k (by omega), l1, l2]) f.offs.length (Nat.le_refl _)
  unfold soilS
  rw [l3]
  rw [Nat.sub_self] at key
  simp only [sumN, Int.add_zero] at key
  cases hx : sumN (prodL z) f.offs.length with | mk a b =>
  cases hy : sumN (prodL f) f.offs.length with | mk c d =>
  rw [hx, hy] at key
  simp only at key
  rw [key.1, key.2]
theorem soil_same {f x : FurrowD} (h : x.offs.length = f.offs.length) (hw : x.wids = f.wids) (hd : x.deps = f.deps) : soilS x = soilS f := by
  unfold soilS prodL
  rw [h, hw, hd]
end Go.Proofs.Ytjdeplehhmhpcaa
