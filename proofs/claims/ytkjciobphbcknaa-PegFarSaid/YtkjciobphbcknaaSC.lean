/- Rows of truths in memory, with their own rows of places. -/
import Derived.Test.YtkjciobphbcknaaAV
import Derived.Test.YtkjciobphbcknaaRB
import Derived.Test.YtkjciobphbcknaaTN
import Derived.Test.YtkjciobphbcknaaG1
import Derived.Test.YtkjciobphbcknaaSJ
namespace Go.Proofs.Ytkjciobphbcknaa
open Go.RowKit

/-- The places of some pegs, as those of four. -/
def atL (L : List Pl) : At := atOf fun i => L.getD i ⟨0, 0⟩
theorem atL_get (L : List Pl) (i : Nat) (hi : i < 4) : (atL L).get i = L.getD i ⟨0, 0⟩ := atOf_get _ i hi
def plAt (L : List Pl) (i : Int) : Pl := L.getD i.toNat ⟨0, 0⟩
theorem atL_at (L : List Pl) (i : Int) (h0 : 0 ≤ i) (h : i < 4) : (atL L).get i = plAt L i := by
  obtain ⟨k, rfl⟩ := Int.eq_ofNat_of_zero_le h0
  exact atL_get L k (by omega)
/-- Is a length right, as far as it is between pegs that have places? -/
def lenGood (x : Len) (L : List Pl) : Bool :=
  decide ((L.length : Int) ≤ x.a) || decide ((L.length : Int) ≤ x.b) || inB (apartI (plAt L x.a) (plAt L x.b)) (x.lo * x.lo) (x.hi * x.hi)
def lenSet (set : Nat) (ls : List Len) (L : List Pl) (k : Nat) : Bool := !bitAt set k || match ls[k]? with | some x => lenGood x L | none => true
def rightS (set : Nat) (ls : List Len) (L : List Pl) : Bool := (List.range ls.length).all (lenSet set ls L)
def postN (p : PegsD) (k : Nat) : Post := p.ps.getD k ⟨0, 0, 0, 0⟩
/-- Who is moved if a place is the next one: none if nobody else can be. -/
def nextM (q : Post) (s : Pl) (n : Nat) (m : Int) : Option Int := if atPost q s then some m else if m = -1 then some n else none
def truthsS (p : PegsD) (set : Nat) : Nat → List Pl → Int → List (List Pl × Int)
  | 0, L, m => [(L, m)]
  | k + 1, L, m => (fieldL p.side).flatMap fun s =>
      match nextM (postN p L.length) s L.length m with
      | some m' => if rightS set p.ls (L ++ [s]) then truthsS p set k (L ++ [s]) m' else []
      | none => []

theorem rightS_iff {set : Nat} {ls : List Len} {L : List Pl} : rightS set ls L = true ↔ ∀ l ∈ partL set ls, lenGood l L = true := by
  simp only [rightS, List.all_eq_true, List.mem_range, lenSet, Bool.or_eq_true, Bool.not_eq_true']
  constructor
  · intro h l hl
    obtain ⟨k, b, c⟩ := mem_partL.1 hl
    have := h k (List.getElem?_eq_some_iff.1 c).1
    rw [bitAt_eq, b, c] at this
    simpa using this
  · intro h k hk
    by_cases b : bitAt set k = true
    · right
      rw [List.getElem?_eq_getElem hk]
      exact h _ (mem_partL.2 ⟨k, by rw [← bitAt_eq]; exact b, List.getElem?_eq_getElem hk⟩)
    · left; simpa using b
theorem lenGood_take {x : Len} {L E : List Pl} (h0 : 0 ≤ x.a) (h1 : 0 ≤ x.b) (h : lenGood x (L ++ E) = true) : lenGood x L = true := by
  simp only [lenGood, Bool.or_eq_true, decide_eq_true_eq, List.length_append, Int.natCast_add] at h ⊢
  by_cases ha : (L.length : Int) ≤ x.a
  · exact .inl (.inl ha)
  by_cases hb : (L.length : Int) ≤ x.b
  · exact .inl (.inr hb)
  right
  have e1 : plAt (L ++ E) x.a = plAt L x.a := by
    unfold plAt; rw [List.getD_eq_getElem?_getD, List.getD_eq_getElem?_getD, List.getElem?_append_left (by omega)]
  have e2 : plAt (L ++ E) x.b = plAt L x.b := by
    unfold plAt; rw [List.getD_eq_getElem?_getD, List.getD_eq_getElem?_getD, List.getElem?_append_left (by omega)]
  rw [e1, e2] at h
  rcases h with (h | h) | h
  · omega
  · omega
  · exact h
theorem rightS_take {set : Nat} {ls : List Len} {L E : List Pl} (hf : ∀ l ∈ ls, 0 ≤ l.a ∧ 0 ≤ l.b) (h : rightS set ls (L ++ E) = true) : rightS set ls L = true := by
  rw [rightS_iff] at h ⊢
  intro l hl
  obtain ⟨k, _, c⟩ := mem_partL.1 hl
  obtain ⟨a, b⟩ := hf l (List.mem_of_getElem? c)
  exact lenGood_take a b (h l hl)

/-- Which ways there are to go on. -/
theorem mem_truthsS {p : PegsD} {set : Nat} (hf : ∀ l ∈ p.ls, 0 ≤ l.a ∧ 0 ≤ l.b) : ∀ (k : Nat) (L : List Pl) (m : Int) (L' : List Pl) (m' : Int), (k = 0 → rightS set p.ls L = true) →
    ((L', m') ∈ truthsS p set k L m ↔ ∃ E, L' = L ++ E ∧ E.length = k ∧ rightS set p.ls L' = true ∧ (m' = m ∨ m = -1 ∧ (L.length : Int) ≤ m' ∧ m' < L.length + k) ∧
      ∀ i s, E[i]? = some s → inField p.side s ∧ (atPost (postN p (L.length + i)) s ↔ ((m' = m) ∨ ((L.length + i : Nat) : Int) ≠ m'))) := by
  intro k
  induction k with
  | zero =>
    intro L m L' m' hr
    rw [truthsS, List.mem_singleton, Prod.mk.injEq]
    constructor
    · rintro ⟨rfl, rfl⟩
      exact ⟨[], (List.append_nil _).symm, rfl, hr rfl, .inl rfl, fun i s h => by simp at h⟩
    · rintro ⟨E, rfl, hE, _, hm, _⟩
      obtain rfl := List.length_eq_zero_iff.1 hE
      refine ⟨List.append_nil _, ?_⟩
      omega
  | succ k ih =>
    intro L m L' m' _
    rw [truthsS, List.mem_flatMap]
    constructor
    · rintro ⟨s, hs, h⟩
      rw [mem_fieldL] at hs
      cases hn : nextM (postN p L.length) s L.length m with
      | none => rw [hn] at h; cases h
      | some m1 =>
        rw [hn] at h
        simp only at h
        split at h
        case isFalse => cases h
        rename_i hr
        obtain ⟨E, e1, e2, e3, e4, e5⟩ := (ih (L ++ [s]) m1 L' m' (fun _ => hr)).1 h
        refine ⟨s :: E, by rw [e1]; simp, by simp [e2], e3, ?_, fun i s' hi => ?_⟩
        · unfold nextM at hn
          simp only [List.length_append, List.length_singleton, Int.natCast_add] at e4
          split at hn
          · cases hn; omega
          · split at hn
            · cases hn; omega
            · cases hn
        · unfold nextM at hn
          cases i with
          | zero =>
            simp only [List.getElem?_cons_zero, Option.some.injEq] at hi
            subst hi
            refine ⟨hs, ?_⟩
            simp only [Nat.add_zero]
            simp only [List.length_append, List.length_singleton, Int.natCast_add] at e4
            split at hn
            · rename_i hp
              cases hn
              exact ⟨fun _ => by omega, fun _ => hp⟩
            · rename_i hp
              split at hn
              · cases hn
                exact ⟨fun h => absurd h hp, fun h => by omega⟩
              · cases hn
          | succ i =>
            simp only [List.getElem?_cons_succ] at hi
            obtain ⟨a, b⟩ := e5 i s' hi
            simp only [List.length_append, List.length_singleton] at b e4
            have eqn : L.length + 1 + i = L.length + (i + 1) := by omega
            rw [eqn] at b
            refine ⟨a, b.trans ?_⟩
            have hi' : i < k := by rw [← e2]; exact (List.getElem?_eq_some_iff.1 hi).1
            split at hn
            · cases hn; exact Iff.rfl
            · split at hn
              · cases hn
                constructor
                · intro h; omega
                · intro h; omega
              · cases hn
    · rintro ⟨E, rfl, e2, e3, e4, e5⟩
      match E, e2 with
      | s :: E, e2 =>
        simp only [List.length_cons, Nat.add_right_cancel_iff] at e2
        obtain ⟨a, b⟩ := e5 0 s rfl
        simp only [Nat.add_zero] at b
        have e1' : L ++ s :: E = (L ++ [s]) ++ E := by simp
        have hr : rightS set p.ls (L ++ [s]) = true := rightS_take (E := E) hf (by rw [← e1']; exact e3)
        refine ⟨s, mem_fieldL.2 a, ?_⟩
        have key : ∀ m1 : Int, nextM (postN p L.length) s L.length m = some m1 → (m' = m1 ∨ m1 = -1 ∧ ((L ++ [s]).length : Int) ≤ m' ∧ m' < (L ++ [s]).length + k) → (∀ i s', E[i]? = some s' → ((m' = m ∨ ((L.length + (i + 1) : Nat) : Int) ≠ m') ↔ (m' = m1 ∨ (((L ++ [s]).length + i : Nat) : Int) ≠ m'))) →
            (L ++ s :: E, m') ∈ (match nextM (postN p L.length) s L.length m with | some m' => if rightS set p.ls (L ++ [s]) then truthsS p set k (L ++ [s]) m' else [] | none => []) := by
          intro m1 h1 h2 h3
          rw [h1]
          simp only [hr, if_true]
          refine (ih (L ++ [s]) m1 _ m' (fun _ => hr)).2 ⟨E, e1', e2, e3, h2, fun i s' hi => ?_⟩
          obtain ⟨a', b'⟩ := e5 (i + 1) s' (by simpa using hi)
          refine ⟨a', ?_⟩
          have eqn : (L ++ [s]).length + i = L.length + (i + 1) := by simp; omega
          rw [eqn]
          exact b'.trans (by have := h3 i s' hi; rw [eqn] at this; exact this)
        by_cases hp : atPost (postN p L.length) s
        · refine key m (by rw [nextM, if_pos hp]) ?_ (fun i s' hi => ?_)
          · have := b.1 hp
            simp only [List.length_append, List.length_singleton, Int.natCast_add]
            omega
          · have eqn : (L ++ [s]).length + i = L.length + (i + 1) := by simp; omega
            rw [eqn]
        · have hb : ¬ ((m' = m) ∨ ((L.length : Nat) : Int) ≠ m') := fun h => hp (b.2 h)
          have hm : m = -1 := by omega
          refine key (L.length : Int) (by rw [nextM, if_neg hp, if_pos hm]) (by omega) (fun i s' hi => ?_)
          have eqn : (L ++ [s]).length + i = L.length + (i + 1) := by simp; omega
          rw [eqn]
          constructor
          · intro h; omega
          · intro h; omega

theorem postN_of {p : PegsD} {i : Nat} {q : Post} (h : p.ps[i]? = some q) : postN p i = q := by simp [postN, List.getD_eq_getElem?_getD, h]
/-- All truths with the lengths of a set, as the document lists them. -/
def allS (p : PegsD) (set : Nat) : List (List Pl × Int) := truthsS p set p.ps.length [] (-1)
theorem lenGood_rightB {p : PegsD} (hf : Fit p) {L : List Pl} (hL : L.length = p.ps.length) {x : Len} (hx : x ∈ p.ls) : lenGood x L = rightB x (atL L) := by
  obtain ⟨⟨a1, a2, b1, b2, _⟩, c1, c2⟩ := hf.lens x hx
  rw [lenGood, decide_eq_false (by omega), decide_eq_false (by omega), rightB, atL_at L x.a a1 a2, atL_at L x.b b1 b2]
  rfl
theorem rightS_all {p : PegsD} (hf : Fit p) {set : Nat} {L : List Pl} (hL : L.length = p.ps.length) : rightS set p.ls L = true ↔ ∀ l ∈ partL set p.ls, rightB l (atL L) = true := by
  rw [rightS_iff]
  constructor
  · intro h l hl
    obtain ⟨k, _, c⟩ := mem_partL.1 hl
    rw [← lenGood_rightB hf hL (List.mem_of_getElem? c)]; exact h l hl
  · intro h l hl
    obtain ⟨k, _, c⟩ := mem_partL.1 hl
    rw [lenGood_rightB hf hL (List.mem_of_getElem? c)]; exact h l hl
theorem mem_allS {p : PegsD} (hf : Fit p) {set : Nat} {L : List Pl} {m : Int} : (L, m) ∈ allS p set ↔ L.length = p.ps.length ∧ IsTruth (partP p set) (atL L) m := by
  have hn := hf.n4
  have hnn : ∀ l ∈ p.ls, 0 ≤ l.a ∧ 0 ≤ l.b := fun l hl => by obtain ⟨⟨a1, _, b1, _⟩, _⟩ := hf.lens l hl; exact ⟨a1, b1⟩
  rw [allS, mem_truthsS hnn p.ps.length [] (-1) L m (fun h0 => rightS_iff.2 fun l hl => by
    obtain ⟨k, _, c⟩ := mem_partL.1 hl
    obtain ⟨⟨a1, _⟩, c1, _⟩ := hf.lens l (List.mem_of_getElem? c)
    omega)]
  constructor
  · rintro ⟨E, e1, e2, e3, e4, e5⟩
    rw [List.nil_append] at e1
    subst e1
    refine ⟨e2, by simp at e4; omega, by simp [partP]; simp at e4; omega, fun i q hq => ?_, fun i a b => ?_, (rightS_all hf e2).1 e3⟩
    · have hi : i < L.length := by rw [e2]; exact (List.getElem?_eq_some_iff.1 hq).1
      obtain ⟨a, b⟩ := e5 i L[i] (List.getElem?_eq_getElem hi)
      have eg : (atL L).get i = L[i] := by
        have := atL_get L i (by omega)
        rw [this, List.getD_eq_getElem?_getD, List.getElem?_eq_getElem hi]; rfl
      simp only [List.length_nil, Nat.zero_add] at b
      rw [postN_of (p := p) hq] at b
      rw [eg]
      refine ⟨a, b.trans ?_⟩
      constructor
      · intro h; omega
      · intro h; exact .inr h
    · rw [atL_get L i b, List.getD_eq_getElem?_getD, List.getElem?_eq_none (by simp [partP] at a; omega)]; rfl
  · rintro ⟨e2, a, b, c, d, e⟩
    refine ⟨L, by simp, e2, (rightS_all hf e2).2 e, ?_, fun i s hi => ?_⟩
    · simp [partP] at b ⊢; omega
    · have hi' : i < p.ps.length := by rw [← e2]; exact (List.getElem?_eq_some_iff.1 hi).1
      obtain ⟨x, y⟩ := c i p.ps[i] (List.getElem?_eq_getElem hi')
      have eg : (atL L).get i = s := by
        have := atL_get L i (by omega)
        rw [this, List.getD_eq_getElem?_getD, hi]; rfl
      rw [eg] at x y
      refine ⟨x, ?_⟩
      simp only [List.length_nil, Nat.zero_add]
      rw [postN_of (List.getElem?_eq_getElem hi')]
      refine y.trans ?_
      constructor
      · intro h; exact .inr h
      · intro h; omega
def toL (t : At) (n : Nat) : List Pl := (List.range n).map fun i : Nat => t.get i
theorem toL_len (t : At) (n : Nat) : (toL t n).length = n := by simp [toL]
theorem toL_getD (t : At) (n i : Nat) (h : i < n) : (toL t n).getD i ⟨0, 0⟩ = t.get i := by
  rw [List.getD_eq_getElem?_getD, toL, List.getElem?_map, List.getElem?_range h]; rfl
theorem atL_toL {p : PegsD} {t : At} {m : Int} (h : IsTruth p t m) (hn : p.ps.length ≤ 4) : atL (toL t p.ps.length) = t := by
  refine At.ext fun i hi => ?_
  rw [atL_get _ i hi]
  by_cases hc : i < p.ps.length
  · exact toL_getD _ _ _ hc
  · rw [h.2.2.2.1 i (by omega) hi, List.getD_eq_getElem?_getD, List.getElem?_eq_none (by rw [toL_len]; omega)]; rfl
theorem allS_of {p : PegsD} (hf : Fit p) {set : Nat} {t : At} {m : Int} (h : IsTruth (partP p set) t m) : ∃ x ∈ allS p set, atL x.1 = t ∧ x.2 = m ∧ x.1.length = p.ps.length := by
  have e := atL_toL h hf.n4
  exact ⟨(toL t p.ps.length, m), (mem_allS hf).2 ⟨toL_len _ _, by rw [show p.ps.length = (partP p set).ps.length from rfl, e]; exact h⟩, e, rfl, toL_len _ _⟩
theorem allS_to {p : PegsD} (hf : Fit p) {set : Nat} {x : List Pl × Int} (h : x ∈ allS p set) : x.1.length = p.ps.length ∧ IsTruth (partP p set) (atL x.1) x.2 := (mem_allS hf).1 h
end Go.Proofs.Ytkjciobphbcknaa
namespace Go.Proofs.Ytkjciobphbcknaa
open Go.RowKit

def fullN (p : PegsD) : Nat := 2 ^ p.ls.length - 1
theorem part_full {p : PegsD} {t : At} {m : Int} : IsTruth (partP p (fullN p)) t m ↔ IsTruth p t m := by
  have e : (∀ l ∈ partL (fullN p) p.ls, rightB l t = true) ↔ ∀ l ∈ p.ls, rightB l t = true := by
    constructor
    · intro h l hl
      obtain ⟨k, hk, e⟩ := List.getElem_of_mem hl
      refine h l (mem_partL.2 ⟨k, ?_, by rw [List.getElem?_eq_getElem hk, e]⟩)
      rw [fullN, Nat.testBit_two_pow_sub_one]; exact decide_eq_true hk
    · intro h l hl
      obtain ⟨k, _, c⟩ := mem_partL.1 hl
      exact h l (List.mem_of_getElem? c)
  unfold IsTruth
  rw [show (partP p (fullN p)).ls = partL (fullN p) p.ls from rfl, e]
  exact Iff.rfl
def allF (p : PegsD) : List (List Pl × Int) := allS p (fullN p)
theorem allF_to {p : PegsD} (hf : Fit p) {x : List Pl × Int} (h : x ∈ allF p) : x.1.length = p.ps.length ∧ IsTruth p (atL x.1) x.2 := by
  have := allS_to hf h
  exact ⟨this.1, part_full.1 this.2⟩
theorem allF_of {p : PegsD} (hf : Fit p) {t : At} {m : Int} (h : IsTruth p t m) : ∃ x ∈ allF p, atL x.1 = t ∧ x.2 = m ∧ x.1.length = p.ps.length := allS_of hf (part_full.2 h)
theorem allF_nil {p : PegsD} (hf : Fit p) : allF p = [] ↔ truthsL p = [] := by
  constructor
  · intro h
    refine List.eq_nil_iff_forall_not_mem.2 fun ⟨t, m⟩ hm => ?_
    obtain ⟨x, hx, _⟩ := allF_of hf ((mem_truthsL hf).1 hm)
    rw [h] at hx; cases hx
  · intro h
    refine List.eq_nil_iff_forall_not_mem.2 fun x hx => ?_
    have := (mem_truthsL hf).2 (allF_to hf hx).2
    rw [h] at this; cases this

def endsG (L : List Int) : EndsD := L.foldl EndsD.add ⟨0, 0, false⟩
theorem endsG_snoc (L : List Int) (n : Int) : endsG (L ++ [n]) = (endsG L).add n := by simp [endsG, List.foldl_append]
theorem endsG_spec : ∀ (k : Nat) (L : List Int), L.length = k → L ≠ [] → (endsG L).some = true ∧ (∀ n ∈ L, (endsG L).lo ≤ n ∧ n ≤ (endsG L).hi) ∧ (endsG L).lo ∈ L ∧ (endsG L).hi ∈ L := by
  intro k
  induction k with
  | zero => intro L h hne; exact absurd (List.length_eq_zero_iff.1 h) hne
  | succ k ih =>
    intro L hl hne
    obtain ⟨m, y, rfl⟩ : ∃ m y, L = m ++ [y] := ⟨L.dropLast, L.getLast hne, (List.dropLast_concat_getLast hne).symm⟩
    rw [endsG_snoc]
    by_cases hm : m = []
    · subst hm
      simp [endsG, EndsD.add]
    · obtain ⟨h1, h2, h3, h4⟩ := ih m (by simpa using hl) hm
      generalize endsG m = e at *
      simp only [EndsD.add, h1, if_true, true_and]
      refine ⟨fun n hn => ?_, ?_, ?_⟩
      · rcases List.mem_append.1 hn with h | h
        · have := h2 n h; omega
        · simp at h; subst h; omega
      · by_cases hc : e.lo ≤ y
        · rw [Int.min_eq_left hc]; simp [h3]
        · rw [Int.min_eq_right (by omega)]; simp
      · by_cases hc : y ≤ e.hi
        · rw [Int.max_eq_left hc]; simp [h4]
        · rw [Int.max_eq_right (by omega)]; simp
theorem endsG_some (L : List Int) : (endsG L).some = decide (L ≠ []) := by
  by_cases h : L = []
  · subst h; rfl
  · rw [(endsG_spec _ L rfl h).1]; simp [h]
theorem endsG_ext {L M : List Int} (h : ∀ n, n ∈ L ↔ n ∈ M) : endsG L = endsG M := by
  by_cases hL : L = []
  · have hM : M = [] := List.eq_nil_iff_forall_not_mem.2 fun n hn => by have := (h n).2 hn; rw [hL] at this; cases this
    rw [hL, hM]
  · have hM : M ≠ [] := by
      intro hM
      obtain ⟨n, hn⟩ := List.exists_mem_of_ne_nil L hL
      have := (h n).1 hn; rw [hM] at this; cases this
    obtain ⟨a1, a2, a3, a4⟩ := endsG_spec _ L rfl hL
    obtain ⟨b1, b2, b3, b4⟩ := endsG_spec _ M rfl hM
    have c1 := a2 _ ((h _).2 b3)
    have c2 := b2 _ ((h _).1 a3)
    have c3 := a2 _ ((h _).2 b4)
    have c4 := b2 _ ((h _).1 a4)
    generalize endsG L = e at *
    generalize endsG M = f at *
    obtain ⟨l1, h1, s1⟩ := e
    obtain ⟨l2, h2, s2⟩ := f
    simp only at *
    obtain rfl : l1 = l2 := by omega
    obtain rfl : h1 = h2 := by omega
    rw [a1, b1]
theorem endsOn_eq (f : Pl → Int) (L : List Pl) : endsOn f L = endsG (L.map f) := by rw [endsOn, endsG, List.foldl_map]
theorem endsL_eqG (f : At × Int → Int) (l : List (At × Int)) : endsL f l = endsG (l.map f) := by rw [endsL_eq, endsG, List.foldl_map]

theorem checkR_in {p : PegsD} (hv : validB p = true) {i : Int} (h0 : 0 ≤ i) (h : i < p.ps.length) : checkR p [i] = none := checkR_ok hv (fun x hx => by simp at hx; subst hx; exact ⟨h0, h⟩)
theorem checkR_bad {p : PegsD} (hv : validB p = true) {xs : List Int} {i : Int} (hi : i ∈ xs) (h : ¬ (0 ≤ i ∧ i < p.ps.length)) : checkR p xs = some 2 := by
  have : xs.all (isPegB p.ps.length) = false := by
    rw [List.all_eq_false]
    exact ⟨i, hi, by simp [isPegB]; omega⟩
  simp [checkR, hv, this]
theorem checkR_arg {p : PegsD} (hv : validB p = false) (xs : List Int) : checkR p xs = some 1 := by simp [checkR, hv]

theorem stand_allF {p : PegsD} (hf : Fit p) {i : Nat} (hi : i < p.ps.length) {s : Pl} : s ∈ standL i (truthsL p) ↔ ∃ x ∈ allF p, plAt x.1 i = s := by
  have hn := hf.n4
  rw [mem_stand hf]
  constructor
  · rintro ⟨t, m, ht, e⟩
    obtain ⟨x, hx, e1, _, _⟩ := allF_of hf ht
    refine ⟨x, hx, ?_⟩
    rw [← atL_at x.1 i (by omega) (by omega), e1]; exact e
  · rintro ⟨x, hx, e⟩
    refine ⟨_, _, (allF_to hf hx).2, ?_⟩
    rw [atL_at x.1 i (by omega) (by omega)]; exact e
theorem where_eq {p : PegsD} (hv : validB p = true) {i : Nat} (hi : i < p.ps.length) (hne : allF p ≠ []) :
    whereR p i = .ok (spanOf (endsG ((allF p).map fun x => (plAt x.1 i).x)), spanOf (endsG ((allF p).map fun x => (plAt x.1 i).y))) := by
  have hf := fit_of_valid hv
  have hne' : truthsL p ≠ [] := fun h => hne ((allF_nil hf).2 h)
  rw [whereR, checkR_in hv (by omega) (by omega)]
  simp only [if_neg hne', Int.toNat_natCast]
  rw [endsOn_eq, endsOn_eq]
  have key : ∀ f : Pl → Int, endsG ((standL i (truthsL p)).map f) = endsG ((allF p).map fun x => f (plAt x.1 i)) := fun f => endsG_ext fun n => by
    simp only [List.mem_map, stand_allF hf hi]
    constructor
    · rintro ⟨s, ⟨x, hx, rfl⟩, rfl⟩; exact ⟨x, hx, rfl⟩
    · rintro ⟨x, hx, rfl⟩; exact ⟨_, ⟨x, hx, rfl⟩, rfl⟩
  rw [key, key]
def plSet (L : List Pl) : List Pl := L.foldl addPl []
theorem plSet_snoc (L : List Pl) (s : Pl) : plSet (L ++ [s]) = addPl (plSet L) s := by simp [plSet, List.foldl_append]
theorem mem_plSet {L : List Pl} {s : Pl} : s ∈ plSet L ↔ s ∈ L := by
  have key : ∀ (L A : List Pl), s ∈ L.foldl addPl A ↔ s ∈ A ∨ s ∈ L := by
    intro L
    induction L with
    | nil => intro A; simp
    | cons x r ih => intro A; rw [List.foldl_cons, ih, mem_addPl, List.mem_cons, or_assoc]
  rw [plSet, key]; simp
theorem plSet_nodup (L : List Pl) : (plSet L).Nodup := by
  have key : ∀ (L A : List Pl), A.Nodup → (L.foldl addPl A).Nodup := by
    intro L
    induction L with
    | nil => intro A h; exact h
    | cons x r ih => intro A h; exact ih _ (addPl_nodup h)
  exact key L [] List.nodup_nil
theorem places_eq {p : PegsD} (hv : validB p = true) {i : Nat} (hi : i < p.ps.length) (hne : allF p ≠ []) :
    placesR p i = .ok ((plSet ((allF p).map fun x => plAt x.1 i)).length : Int) := by
  have hf := fit_of_valid hv
  have hne' : truthsL p ≠ [] := fun h => hne ((allF_nil hf).2 h)
  rw [placesR, checkR_in hv (by omega) (by omega)]
  simp only [if_neg hne', Int.toNat_natCast]
  have key : ∀ s, s ∈ standL i (truthsL p) ↔ s ∈ plSet ((allF p).map fun x => plAt x.1 i) := fun s => by
    rw [mem_plSet, stand_allF hf hi, List.mem_map]
  have e : (standL i (truthsL p)).length = (plSet ((allF p).map fun x => plAt x.1 i)).length :=
    Nat.le_antisymm (nodup_len _ _ (standL_nodup _ _) fun s hs => (key s).1 hs) (nodup_len _ _ (plSet_nodup _) fun s hs => (key s).2 hs)
  rw [e]
/-- How far those go back who were moved. -/
def backsS (p : PegsD) (i : Nat) (L : List (List Pl × Int)) : List Int := (L.filter fun x => decide (x.2 = (i : Int))).map fun x => backI (plAt x.1 i) (postN p i)
theorem backsS_snoc (p : PegsD) (i : Nat) (L : List (List Pl × Int)) (x : List Pl × Int) : backsS p i (L ++ [x]) = if x.2 = (i : Int) then backsS p i L ++ [backI (plAt x.1 i) (postN p i)] else backsS p i L := by
  by_cases h : x.2 = (i : Int) <;> simp [backsS, List.filter_append, h]
theorem back_eq {p : PegsD} (hv : validB p = true) {i : Nat} (hi : i < p.ps.length) (hne : allF p ≠ []) :
    backR p i = if backsS p i (allF p) = [] then .error 11 else .ok (spanOf (endsG (backsS p i (allF p)))) := by
  have hf := fit_of_valid hv
  have hn := hf.n4
  have hne' : truthsL p ≠ [] := fun h => hne ((allF_nil hf).2 h)
  rw [backR, checkR_in hv (by omega) (by omega)]
  simp only [if_neg hne']
  have key : ∀ n, n ∈ (strayL i (truthsL p)).map (fun s => backI s (postAt p i)) ↔ n ∈ backsS p i (allF p) := fun n => by
    simp only [backsS, List.mem_map, List.mem_filter, decide_eq_true_eq, mem_strayL]
    constructor
    · rintro ⟨s, ⟨⟨t, m⟩, hx, hm, rfl⟩, rfl⟩
      obtain ⟨y, hy, e1, e2, _⟩ := allF_of hf ((mem_truthsL hf).1 hx)
      refine ⟨y, ⟨hy, e2.trans hm⟩, ?_⟩
      rw [← atL_at y.1 i (by omega) (by omega), e1]; simp [postN, postAt]
    · rintro ⟨y, ⟨hy, e2⟩, rfl⟩
      refine ⟨_, ⟨(atL y.1, y.2), (mem_truthsL hf).2 (allF_to hf hy).2, e2, rfl⟩, ?_⟩
      simp only
      rw [atL_at y.1 i (by omega) (by omega)]; simp [postN, postAt]
  have hnil : strayL i (truthsL p) = [] ↔ backsS p i (allF p) = [] := by
    constructor
    · intro h
      refine List.eq_nil_iff_forall_not_mem.2 fun n hn => ?_
      have := (key n).2 hn; rw [h] at this; cases this
    · intro h
      refine Classical.byContradiction fun hc => ?_
      obtain ⟨s, hs⟩ := List.exists_mem_of_ne_nil _ hc
      have := (key (backI s (postAt p i))).1 (List.mem_map.2 ⟨s, hs, rfl⟩)
      rw [h] at this; cases this
  rw [endsOn_eq, endsG_ext key]
  by_cases h : strayL i (truthsL p) = []
  · rw [if_pos h, if_pos (hnil.1 h)]
  · rw [if_neg h, if_neg (fun hc => h (hnil.2 hc))]
theorem ends_allF {p : PegsD} (hf : Fit p) (hne : allF p ≠ []) (f : At × Int → Int) : endsR f p = .ok (spanOf (endsG ((allF p).map fun x => f (atL x.1, x.2)))) := by
  have hne' : truthsL p ≠ [] := fun h => hne ((allF_nil hf).2 h)
  rw [endsR, if_neg hne', endsL_eqG]
  have : endsG ((truthsL p).map f) = endsG ((allF p).map fun x => f (atL x.1, x.2)) := endsG_ext fun n => by
    simp only [List.mem_map]
    constructor
    · rintro ⟨⟨t, m⟩, hx, rfl⟩
      obtain ⟨y, hy, e1, e2, _⟩ := allF_of hf ((mem_truthsL hf).1 hx)
      exact ⟨y, hy, by rw [e1, e2]⟩
    · rintro ⟨y, hy, rfl⟩
      exact ⟨_, (mem_truthsL hf).2 (allF_to hf hy).2, rfl⟩
  rw [this]; rfl
theorem apart_eq {p : PegsD} (hv : validB p = true) {i j : Nat} (hi : i < p.ps.length) (hj : j < p.ps.length) (hne : allF p ≠ []) :
    apartR p i j = .ok (spanOf (endsG ((allF p).map fun x => apartI (plAt x.1 i) (plAt x.1 j)))) := by
  have hf := fit_of_valid hv
  have hn := hf.n4
  rw [apartR, checkR_ok hv (fun x hx => by simp at hx; omega)]
  simp only
  rw [ends_allF hf hne]
  have : ∀ x : List Pl × Int, apartI ((atL x.1).get i) ((atL x.1).get j) = apartI (plAt x.1 i) (plAt x.1 j) := fun x => by rw [atL_at x.1 i (by omega) (by omega), atL_at x.1 j (by omega) (by omega)]
  simp only [this]
def twiceI (a b c : Pl) : Int := max (areaI a b c) (-areaI a b c)
theorem area_eq {p : PegsD} (hv : validB p = true) {i j k : Nat} (hi : i < p.ps.length) (hj : j < p.ps.length) (hk : k < p.ps.length) (h1 : i ≠ j) (h2 : i ≠ k) (h3 : j ≠ k) (hne : allF p ≠ []) :
    areaR p i j k = .ok (spanOf (endsG ((allF p).map fun x => twiceI (plAt x.1 i) (plAt x.1 j) (plAt x.1 k)))) := by
  have hf := fit_of_valid hv
  have hn := hf.n4
  rw [areaR, checkR_ok hv (fun x hx => by simp at hx; omega)]
  simp only
  rw [if_neg (by omega), ends_allF hf hne]
  have : ∀ x : List Pl × Int, areaA i j k (atL x.1, x.2) = twiceI (plAt x.1 i) (plAt x.1 j) (plAt x.1 k) := fun x => by
    rw [areaA]; simp only; rw [atL_at x.1 i (by omega) (by omega), atL_at x.1 j (by omega) (by omega), atL_at x.1 k (by omega) (by omega)]; rfl
  simp only [this]
/-- Who was moved, one truth after the other. -/
def mvStep (s : Nat × Bool) (m : Int) : Nat × Bool := if m = -1 then (s.1, true) else if bitAt s.1 m.toNat = true then s else (s.1 + 2 ^ m.toNat, s.2)
def mvF (L : List (List Pl × Int)) : Nat × Bool := L.foldl (fun s x => mvStep s x.2) (0, false)
theorem mvF_snoc (L : List (List Pl × Int)) (x : List Pl × Int) : mvF (L ++ [x]) = mvStep (mvF L) x.2 := by simp [mvF, List.foldl_append]
theorem add_bit (a k : Nat) (ha : a < 16) (hk : k < 4) (h : bitAt a k = false) : a + 2 ^ k < 16 ∧ ∀ j, (a + 2 ^ k).testBit j = true ↔ a.testBit j = true ∨ j = k := by
  have e : a + 2 ^ k = a ||| 2 ^ k := (by decide +kernel : ∀ a : Fin 16, ∀ k : Fin 4, bitAt a.1 k.1 = false → a.1 + 2 ^ k.1 = a.1 ||| 2 ^ k.1) ⟨a, ha⟩ ⟨k, hk⟩ h
  rw [e]
  refine ⟨Nat.or_lt_two_pow (n := 4) ha (Nat.pow_lt_pow_right (by omega) hk), fun j => ?_⟩
  rw [Nat.testBit_or, Nat.testBit_two_pow, Bool.or_eq_true, decide_eq_true_eq]
  exact or_congr Iff.rfl eq_comm
theorem mvF_spec : ∀ (k : Nat) (L : List (List Pl × Int)), L.length = k → (∀ x ∈ L, -1 ≤ x.2 ∧ x.2 < 4) → (mvF L).1 < 16 ∧ ((mvF L).2 = true ↔ ∃ x ∈ L, x.2 = -1) ∧ ∀ j : Nat, (mvF L).1.testBit j = true ↔ ∃ x ∈ L, x.2 = (j : Int) := by
  intro k
  induction k with
  | zero => intro L h _; obtain rfl := List.length_eq_zero_iff.1 h; simp [mvF]
  | succ k ih =>
    intro L hl hx
    have hne : L ≠ [] := fun e => by rw [e] at hl; simp at hl
    obtain ⟨M, y, rfl⟩ : ∃ m y, L = m ++ [y] := ⟨L.dropLast, L.getLast hne, (List.dropLast_concat_getLast hne).symm⟩
    obtain ⟨h1, h2, h3⟩ := ih M (by simpa using hl) (fun x hx' => hx x (by simp [hx']))
    obtain ⟨y1, y2⟩ := hx y (by simp)
    rw [mvF_snoc]
    generalize mvF M = s at *
    unfold mvStep
    by_cases hm : y.2 = -1
    · rw [if_pos hm]
      refine ⟨h1, by simp [hm], fun j => ?_⟩
      rw [h3 j]
      constructor
      · rintro ⟨x, a, b⟩; exact ⟨x, by simp [a], b⟩
      · rintro ⟨x, a, b⟩
        rcases List.mem_append.1 a with a | a
        · exact ⟨x, a, b⟩
        · simp at a; subst a; omega
    · rw [if_neg hm]
      have h2' : s.2 = true ↔ ∃ x ∈ M ++ [y], x.2 = -1 := by
        rw [h2]
        constructor
        · rintro ⟨x, a, b⟩; exact ⟨x, by simp [a], b⟩
        · rintro ⟨x, a, b⟩
          rcases List.mem_append.1 a with a | a
          · exact ⟨x, a, b⟩
          · simp at a; subst a; exact absurd b hm
      by_cases hb : bitAt s.1 y.2.toNat = true
      · rw [if_pos hb]
        refine ⟨h1, h2', fun j => ?_⟩
        rw [h3 j]
        constructor
        · rintro ⟨x, a, b⟩; exact ⟨x, by simp [a], b⟩
        · rintro ⟨x, a, b⟩
          rcases List.mem_append.1 a with a | a
          · exact ⟨x, a, b⟩
          · simp at a; subst a
            rw [bitAt_eq, show x.2.toNat = j by omega, h3 j] at hb
            exact hb
      · rw [if_neg hb]
        obtain ⟨g1, g2⟩ := add_bit s.1 y.2.toNat h1 (by omega) (by simpa using hb)
        refine ⟨g1, h2', fun j => ?_⟩
        rw [g2 j, h3 j]
        constructor
        · rintro (⟨x, a, b⟩ | e)
          · exact ⟨x, by simp [a], b⟩
          · exact ⟨y, by simp, by omega⟩
        · rintro ⟨x, a, b⟩
          rcases List.mem_append.1 a with a | a
          · exact .inl ⟨x, a, b⟩
          · simp at a; subst a; exact .inr (by omega)
theorem moved_eq {p : PegsD} (hv : validB p = true) (hne : allF p ≠ []) : ∃ A : Int, movedR p = .ok (A, ((mvF (allF p)).1 : Int), (mvF (allF p)).2) := by
  have hf := fit_of_valid hv
  have hn := hf.n4
  have hne' : truthsL p ≠ [] := fun h => hne ((allF_nil hf).2 h)
  obtain ⟨S, b, h1, h2, h3, h4⟩ := movedR_spec hv hne'
  obtain ⟨g1, g2, g3⟩ := mvF_spec _ (allF p) rfl (fun x hx => by have := (allF_to hf hx).2; exact ⟨this.1, by have := this.2.1; omega⟩)
  refine ⟨2 ^ p.ps.length - 1, h1.trans ?_⟩
  have e1 : S = (mvF (allF p)).1 := Nat.eq_of_testBit_eq fun j => by
    rw [Bool.eq_iff_iff, h4 j, g3 j]
    constructor
    · rintro ⟨t, ht⟩
      obtain ⟨x, hx, _, e, _⟩ := allF_of hf ht
      exact ⟨x, hx, e⟩
    · rintro ⟨x, hx, e⟩
      exact ⟨_, e ▸ (allF_to hf hx).2⟩
  have e2 : b = (mvF (allF p)).2 := by
    rw [Bool.eq_iff_iff, h3, g2]
    constructor
    · rintro ⟨t, ht⟩
      obtain ⟨x, hx, _, e, _⟩ := allF_of hf ht
      exact ⟨x, hx, e⟩
    · rintro ⟨x, hx, e⟩
      exact ⟨_, e ▸ (allF_to hf hx).2⟩
  rw [e1, e2]
/-- Does a set prove it, by the document's own list? -/
def provS (p : PegsD) (set i : Nat) : Bool := (allS p set).all (fun x => decide (x.2 = (i : Int))) && decide (0 < (allS p set).length)
theorem provS_iff {p : PegsD} (hv : validB p = true) (set i : Nat) : provS p set i = provesR p set i := by
  have hf := fit_of_valid hv
  rw [Bool.eq_iff_iff, provesR_iff hv]
  simp only [provS, Bool.and_eq_true, List.all_eq_true, decide_eq_true_eq, List.length_pos_iff]
  constructor
  · rintro ⟨h1, h2⟩
    obtain ⟨x, hx⟩ := List.exists_mem_of_ne_nil _ h2
    refine ⟨⟨_, _, (allS_to hf hx).2⟩, fun t m ht => ?_⟩
    obtain ⟨y, hy, _, e, _⟩ := allS_of hf ht
    rw [← e]; exact h1 y hy
  · rintro ⟨⟨t, m, ht⟩, h⟩
    refine ⟨fun x hx => h _ _ (allS_to hf hx).2, ?_⟩
    obtain ⟨y, hy, _⟩ := allS_of hf ht
    exact List.ne_nil_of_mem hy
/-- The best set of those that have been tried. -/
structure BestI (q : Nat → Bool) (k : Nat) (b : Int) : Prop where
  lo : -1 ≤ b
  lt : b < k
  none : b = -1 → ∀ y, y < k → q y = false
  is : ∀ x : Nat, b = x → q x = true ∧ ∀ y, y < k → q y = true → y = x ∨ before x y
theorem BestI.start (q : Nat → Bool) : BestI q 0 (-1) := ⟨by omega, by omega, fun _ y h => by omega, fun x h => by omega⟩
theorem BestI.no {q : Nat → Bool} {k : Nat} {b : Int} (h : BestI q k b) (hk : q k = false) : BestI q (k + 1) b :=
  ⟨h.lo, by have := h.lt; omega, fun e y hy => by
    by_cases e' : y = k
    · rw [e']; exact hk
    · exact h.none e y (by omega), fun x e => by
    obtain ⟨a, c⟩ := h.is x e
    refine ⟨a, fun y hy hq => ?_⟩
    by_cases e' : y = k
    · rw [e', hk] at hq; cases hq
    · exact c y (by omega) hq⟩
theorem BestI.yes {q : Nat → Bool} {k : Nat} {b : Int} (h : BestI q k b) (hk : q k = true) (hb : b < 0 ∨ ∃ x : Nat, b = x ∧ cnt k < cnt x) : BestI q (k + 1) k :=
  ⟨by omega, by omega, fun e => by omega, fun x e => by
    obtain rfl : k = x := by omega
    refine ⟨hk, fun y hy hq => ?_⟩
    by_cases e' : y = k
    · exact .inl e'
    · right
      rcases hb with hb | ⟨x, hb, hc⟩
      · have := h.none (by have := h.lo; omega) y (by omega); rw [this] at hq; cases hq
      · obtain ⟨_, c⟩ := h.is x hb
        rcases c y (by omega) hq with e | hbf
        · rw [e]; exact .inl hc
        · unfold before at hbf; left; omega⟩
theorem BestI.worse {q : Nat → Bool} {k x : Nat} {b : Int} (h : BestI q k b) (hb : b = x) (hc : ¬ cnt k < cnt x) : BestI q (k + 1) b :=
  ⟨h.lo, by have := h.lt; omega, fun e => by omega, fun z e => by
    obtain rfl : x = z := by omega
    obtain ⟨a, c⟩ := h.is x hb
    refine ⟨a, fun y hy hq => ?_⟩
    by_cases e' : y = k
    · right
      have := h.lt
      rw [e']
      unfold before; omega
    · exact c y (by omega) hq⟩
theorem BestI.proof {p : PegsD} (hv : validB p = true) {i : Nat} (hi : i < p.ps.length) {b : Int} (h : BestI (fun y => provS p y i) (2 ^ p.ls.length) b) :
    proofR p i = if b < 0 then .error 4 else .ok b := by
  have hlo := h.lo
  rcases proofR_first hv hi with ⟨e, hno⟩ | ⟨x, e, hx, _, hq, hmin⟩
  · by_cases hb : b < 0
    · rw [if_pos hb, e]
    · obtain ⟨y, rfl⟩ := Int.eq_ofNat_of_zero_le (show 0 ≤ b by omega)
      have hlt := h.lt
      have h1 := (h.is y rfl).1
      rw [provS_iff hv, hno y (by omega)] at h1; cases h1
  · by_cases hb : b < 0
    · have h1 := h.none (by omega) x hx
      rw [provS_iff hv, hq] at h1; cases h1
    · obtain ⟨y, rfl⟩ := Int.eq_ofNat_of_zero_le (show 0 ≤ b by omega)
      have hlt := h.lt
      obtain ⟨h1, h2⟩ := h.is y rfl
      rw [provS_iff hv] at h1
      have a1 := hmin y (by omega) h1
      have a2 := h2 x hx (by rw [provS_iff hv]; exact hq)
      have exy : x = y := by
        rcases a1 with a1 | a1
        · exact a1.symm
        · rcases a2 with a2 | a2
          · exact a2
          · exfalso; unfold before at a1 a2; omega
      rw [if_neg hb, e, exy]
end Go.Proofs.Ytkjciobphbcknaa
namespace Go.Proofs.Ytkjciobphbcknaa
open Go.RowKit En

theorem En.Del.ex {x : Nat × Obj} : ∀ {H : Heap}, x ∈ H → ∃ H1, Del H x H1
  | y :: r, h => by
    rcases List.mem_cons.1 h with rfl | h
    · exact ⟨r, .here⟩
    · obtain ⟨H1, h1⟩ := En.Del.ex h
      exact ⟨y :: H1, .there h1⟩
theorem En.Pick.of {H' : Heap} : ∀ {H : Heap} (X : Heap), H.Perm (H' ++ X) → Pick H H' := by
  induction H' with
  | nil => intro H X _; exact .nil
  | cons x r ih =>
    intro H X h
    obtain ⟨H1, h1⟩ := En.Del.ex (x := x) (H := H) (h.symm.subset (by simp))
    exact .cons h1 (ih X ((h1.perm.symm.trans h).cons_inv))
section
variable {P : Program} {E : Env} {w0 w w' : World} {T : Nat → Prop} {H R A : Heap}
theorem En.LR.runsP {o : Oper} {X : Type} {F : X → Prop} {v : X → Value} {B : X → Heap} {H2 : Heap} (h : LR P E w0 T R A o F v B) (hR : Pick H R) (hA : H.Perm (A ++ H2)) : Runs P E w0 T H o F v (fun x => B x ++ H2) := fun ρ w hρ hS => by
  have hp := hS.perm hA.symm
  have hr := hS.pick hR
  refine (h ρ w hρ (hS.pick .nil) (fun x hx => (hr.own x hx).1) (fun x hx => (hp.own x (List.mem_append_left _ hx)).1) hr (List.pairwise_append.1 hp.apart).1).mono ?_
  rintro u w' ⟨x, h1, h2, h3⟩
  refine ⟨x, h1, h2, ?_⟩
  have hd : ∀ {A H2 : Heap}, Dels (A ++ H2) A H2 := fun {A} => by
    induction A with
    | nil => intro H2; exact .nil
    | cons a r ih => intro H2; exact .cons .here ih
  exact hp.tr hd h3
end
section
variable {P : Program} {w0 : World} {T : Nat → Prop} {R : Heap} {E : Env} {x y : Operand} {d : Option Tmp} {ty t : TypeId} {pos : String} {af : Array Edge} {g : Option (Nat × Bool)}
/-- An append of what lies anywhere, or nowhere. -/
theorem lr_append_in {e sz by_ : Nat} (ht : appB P t e sz by_ = true) {k n cap m c : Nat} {cur xs news : List Value} {A : Option Addr} (hx : Ev E x (.slice (some ⟨k, 0, none⟩) n cap)) (hrow : InRow sz n cap cur xs) (hy : Ev E y (.slice A m c)) (hl : news.length = m * sz) (hsz : 0 < sz) (hp : news.all plainV = true)
    (hmax : (n + m) * by_ ≤ 140737488355328) (hmx : n + m ≤ maxLen) (hnews : ∀ w, St w0 T R w → CellsIn w A news) :
    LR P E w0 T R [(k, Obj.cells cur.toArray e (0, 0))] ⟨d, .call ⟨.builtin .append, [x, y].toArray, [t, t].toArray⟩, ty, pos, af, g⟩ (fun q : Nat × Nat × List Value => InRow sz (n + m) q.2.1 q.2.2 (xs ++ news)) (fun q => .slice (some ⟨q.1, 0, none⟩) (n + m) q.2.1) (fun q => [(q.1, Obj.cells q.2.2.toArray e (0, 0))]) := fun ρ w hρ h4 h5 hA hR h7 => by
  by_cases hm : m = 0
  · subst hm
    have hn : news = [] := List.eq_nil_of_length_eq_zero (by simpa using hl)
    subst hn
    have e1 := hρ x _ (by simp [Op.operands, Call.operands]) hx
    have e2 := hρ y _ (by simp [Op.operands, Call.operands]) hy
    obtain ⟨hsl, i, z, hi, hz, rfl, rfl, hzs⟩ := appT_of ht
    have hnc := hrow.1
    have hr : (Builtin.append_ #[t, t] ty #[.slice (some ⟨k, 0, none⟩) n cap, .slice A 0 c]).run P w = .ok (.slice (some ⟨k, 0, none⟩) n cap) w := by
      cases A <;> simp [Builtin.append_, run_underlying hsl, sizeOf, typeInfo, hi, Builtin.lenOf, Builtin.firstCells, loadCells, loadCellsFrom, storeCells, hnc]
    rw [done_append e1 e2 hr]
    refine ⟨(k, cap, cur), by simpa using hrow, rfl, rfl, rfl, rfl, Nat.le_refl _, fun _ _ _ => rfl, fun z hz => ?_, fun z hz => ?_, List.pairwise_singleton _ _⟩
    · exact hA z hz
    · exact .inl ⟨z, hz, rfl⟩
  · have h0 : 0 < news.length := by rw [hl]; exact Nat.mul_pos (Nat.pos_of_ne_zero hm) hsz
    obtain ⟨b, o, rfl, _⟩ := hnews w hR 0 _ (List.getElem?_eq_getElem h0)
    exact lr_append_row ht hx hrow hy hl hp hmax hmx (fun w hS j u hj => by
      obtain ⟨b', o', e, hc⟩ := hnews w hS j u hj
      cases e; exact hc) ρ w hρ h4 h5 hA hR h7
end
theorem inRow_none (sz : Nat) : InRow sz 0 0 [] [] := ⟨Nat.le_refl _, Nat.zero_le _, by simp, by simp⟩
theorem qlCells_plain (L : List Pl) : (qlCells L).all plainV = true := by
  simp only [qlCells, List.all_eq_true, List.mem_flatMap]
  rintro v ⟨q, _, h⟩
  simp only [List.mem_cons, List.not_mem_nil, or_false] at h
  rcases h with rfl | rfl <;> rfl
theorem QlsIn.cellsIn {w : World} {A : Option Addr} {L : List Pl} (h : QlsIn w A L) : CellsIn w A (qlCells L) := fun j u hj => by
  have hlt := (List.getElem?_eq_some_iff.1 hj).1
  rw [qlCells_length] at hlt
  have hi : j / 2 < L.length := by omega
  obtain ⟨b, o, e, _, c1, c2⟩ := h (j / 2) _ (List.getElem?_eq_getElem hi)
  obtain ⟨d1, d2⟩ := qlCells_at L (j / 2) _ (List.getElem?_eq_getElem hi)
  refine ⟨b, o, e, ?_⟩
  rcases Nat.mod_two_eq_zero_or_one j with hm | hm
  · have ej : j = j / 2 * 2 := by omega
    rw [ej, d1] at hj
    rw [ej]; cases hj; exact c1
  · have ej : j = j / 2 * 2 + 1 := by omega
    rw [ej, d2] at hj
    rw [ej]; cases hj; rw [← Nat.add_assoc]; exact c2
def LsAt (w : World) (b o : Nat) (L : List Len) : Prop := ∀ i s, L[i]? = some s → ∀ j v, [Value.int .i64 s.a, .int .i64 s.b, .int .i64 s.lo, .int .i64 s.hi][j]? = some v → w.cell? ⟨b, o + i * 4 + j, none⟩ = some v
theorem lensIn_at {w : World} {pa : Option Addr} {L : List Len} (h : LensIn w pa L) (hne : 0 < L.length) : ∃ b o, pa = some ⟨b, o, none⟩ ∧ b < w.heap.size ∧ LsAt w b o L := by
  obtain ⟨b, o, rfl, hb, _, _⟩ := h 0 _ (List.getElem?_eq_getElem hne)
  refine ⟨b, o, rfl, hb, fun i s hs j v hj => ?_⟩
  obtain ⟨b', o', e, _, c1, c2, c3, c4⟩ := h i s hs
  simp only [Option.some.injEq, Addr.mk.injEq] at e
  obtain ⟨rfl, rfl, _⟩ := e
  match j, hj with
  | 0, hj => simp only [List.getElem?_cons_zero] at hj; rw [← hj]; exact c1
  | 1, hj => simp only [List.getElem?_cons_succ, List.getElem?_cons_zero] at hj; rw [← hj]; exact c2
  | 2, hj => simp only [List.getElem?_cons_succ, List.getElem?_cons_zero] at hj; rw [← hj]; exact c3
  | 3, hj => simp only [List.getElem?_cons_succ, List.getElem?_cons_zero] at hj; rw [← hj]; exact c4
  | j + 4, hj => simp at hj
/-- Places at a block that is known. -/
def QlsAt (w : World) (b o : Nat) (L : List Pl) : Prop := ∀ i s, L[i]? = some s → ∀ j v, [Value.int .i64 s.x, .int .i64 s.y][j]? = some v → w.cell? ⟨b, o + i * 2 + j, none⟩ = some v
theorem QlsIn.at_ {w : World} {pa : Option Addr} {L : List Pl} (h : QlsIn w pa L) (hne : 0 < L.length) : ∃ b o, pa = some ⟨b, o, none⟩ ∧ b < w.heap.size ∧ QlsAt w b o L := by
  obtain ⟨b, o, rfl, hb, _, _⟩ := h 0 _ (List.getElem?_eq_getElem hne)
  refine ⟨b, o, rfl, hb, fun i s hs j v hj => ?_⟩
  obtain ⟨b', o', e, _, c1, c2⟩ := h i s hs
  simp only [Option.some.injEq, Addr.mk.injEq] at e
  obtain ⟨rfl, rfl, _⟩ := e
  match j, hj with
  | 0, hj => simp only [List.getElem?_cons_zero] at hj; rw [← hj]; exact c1
  | 1, hj => simp only [List.getElem?_cons_succ, List.getElem?_cons_zero] at hj; rw [← hj]; exact c2
  | j + 2, hj => simp at hj
def PsAt (w : World) (b o : Nat) (L : List Post) : Prop := ∀ i s, L[i]? = some s → ∀ j v, [Value.int .i64 s.xlo, .int .i64 s.xhi, .int .i64 s.ylo, .int .i64 s.yhi][j]? = some v → w.cell? ⟨b, o + i * 4 + j, none⟩ = some v
theorem postsIn_at {w : World} {pa : Option Addr} {L : List Post} (h : PostsIn w pa L) (hne : 0 < L.length) : ∃ b o, pa = some ⟨b, o, none⟩ ∧ b < w.heap.size ∧ PsAt w b o L := by
  obtain ⟨b, o, rfl, hb, _, _⟩ := h 0 _ (List.getElem?_eq_getElem hne)
  refine ⟨b, o, rfl, hb, fun i s hs j v hj => ?_⟩
  obtain ⟨b', o', e, _, c1, c2, c3, c4⟩ := h i s hs
  simp only [Option.some.injEq, Addr.mk.injEq] at e
  obtain ⟨rfl, rfl, _⟩ := e
  match j, hj with
  | 0, hj => simp only [List.getElem?_cons_zero] at hj; rw [← hj]; exact c1
  | 1, hj => simp only [List.getElem?_cons_succ, List.getElem?_cons_zero] at hj; rw [← hj]; exact c2
  | 2, hj => simp only [List.getElem?_cons_succ, List.getElem?_cons_zero] at hj; rw [← hj]; exact c3
  | 3, hj => simp only [List.getElem?_cons_succ, List.getElem?_cons_zero] at hj; rw [← hj]; exact c4
  | j + 4, hj => simp at hj
theorem below_two {w w1 w2 : World} (h : Below w.heap.size w w1) (k : Below w1.heap.size w1 w2) : Below w.heap.size w w2 :=
  ⟨k.os.trans h.os, k.tape.trans h.tape, k.output.trans h.output, Nat.le_trans h.size k.size, fun i hi => (k.block i (Nat.lt_of_lt_of_le hi h.size)).trans (h.block i hi)⟩
/-- A row of places, by what is known. -/
def Elem (K : Heap) (v : Value) (l : List Pl) : Prop := ∃ o : Option RowO, v = rowV o l.length ∧ rowIs o 2 l.length (qlCells l) ∧ ∀ z, z ∈ rowH o 52 → z ∈ K
inductive Elems (K : Heap) : List Value → List (List Pl × Int) → Prop
  | nil : Elems K [] []
  | cons {v : Value} {l : List Pl} {m : Int} {xs : List Value} {L : List (List Pl × Int)} : Elem K v l → Elems K xs L → Elems K (v :: .int .i64 m :: xs) ((l, m) :: L)
theorem Elem.mono {K K' : Heap} {v : Value} {l : List Pl} (h : Elem K v l) (hk : ∀ z, z ∈ K → z ∈ K') : Elem K' v l := by
  obtain ⟨o, a, b, c⟩ := h; exact ⟨o, a, b, fun z hz => hk z (c z hz)⟩
theorem Elems.mono {K K' : Heap} {xs : List Value} {L : List (List Pl × Int)} (h : Elems K xs L) (hk : ∀ z, z ∈ K → z ∈ K') : Elems K' xs L := by
  induction h with
  | nil => exact .nil
  | cons a _ ih => exact .cons (a.mono hk) ih
theorem Elems.append {K : Heap} {xs ys : List Value} {L M : List (List Pl × Int)} (h : Elems K xs L) (h' : Elems K ys M) : Elems K (xs ++ ys) (L ++ M) := by
  induction h with
  | nil => exact h'
  | cons a _ ih => exact .cons a ih
theorem Elems.len {K : Heap} {xs : List Value} {L : List (List Pl × Int)} (h : Elems K xs L) : xs.length = L.length * 2 := by
  induction h with
  | nil => rfl
  | cons _ _ ih => simp only [List.length_cons, ih]; omega
theorem Elems.get {K : Heap} {xs : List Value} {L : List (List Pl × Int)} (h : Elems K xs L) : ∀ {i : Nat} {x : List Pl × Int}, L[i]? = some x → ∃ v, xs[i * 2]? = some v ∧ xs[i * 2 + 1]? = some (.int .i64 x.2) ∧ Elem K v x.1 := by
  induction h with
  | nil => intro i x h; simp at h
  | @cons v l m xs L a _ ih =>
    intro i x h
    cases i with
    | zero => simp only [List.getElem?_cons_zero, Option.some.injEq] at h; subst h; exact ⟨v, rfl, rfl, a⟩
    | succ i =>
      simp only [List.getElem?_cons_succ] at h
      obtain ⟨u, h1, h2, h3⟩ := ih h
      refine ⟨u, ?_, ?_, h3⟩
      · rw [show (i + 1) * 2 = i * 2 + 1 + 1 by omega]; exact h1
      · rw [show (i + 1) * 2 + 1 = i * 2 + 1 + 1 + 1 by omega]; exact h2
/-- Truths that lie in memory. -/
def TruthsAt (w : World) (b : Nat) (L : List (List Pl × Int)) : Prop :=
  ∀ i x, L[i]? = some x → ∃ pa c, w.cell? ⟨b, i * 2, none⟩ = some (.slice pa x.1.length c) ∧ w.cell? ⟨b, i * 2 + 1, none⟩ = some (.int .i64 x.2) ∧ QlsIn w pa x.1
theorem TruthsAt.of {w : World} {K : Heap} {b cap n : Nat} {cur xs : List Value} {ty : TypeId} {L : List (List Pl × Int)} (hb : w.heap[b]? = some (Obj.cells cur.toArray ty (0, 0))) (hr : InRow 2 n cap cur xs) (h : Elems K xs L) (hK : ∀ z, z ∈ K → w.heap[z.1]? = some z.2) : TruthsAt w b L := fun i x hx => by
  obtain ⟨v, h1, h2, o, rfl, h4, h5⟩ := h.get hx
  have d1 := hr.get h1
  have d2 := hr.get h2
  refine ⟨rowA o, rowC o, ?_, ?_, pls_of_rowO rfl (fun z hz => hK z (h5 z hz)) h4⟩
  · simp only [World.cell?, hb]; rw [rowV_eq h4] at d1; simpa using d1
  · simp only [World.cell?, hb]; simpa using d2
/-! The truths found so far. -/
def stepS (p : PegsD) (set k : Nat) (L : List Pl) (m : Int) (s : Pl) : List (List Pl × Int) :=
  match nextM (postN p L.length) s L.length m with
  | some m' => if rightS set p.ls (L ++ [s]) then truthsS p set k (L ++ [s]) m' else []
  | none => []
def doneS (p : PegsD) (set k : Nat) (L : List Pl) (m : Int) (N x y : Nat) : List (List Pl × Int) := (colsL 0 0 N x ++ colL (x : Int) 0 y).flatMap (stepS p set k L m)
theorem truthsS_succ (p : PegsD) (set k : Nat) (L : List Pl) (m : Int) : truthsS p set (k + 1) L m = (fieldL p.side).flatMap (stepS p set k L m) := rfl
section
variable (p : PegsD) (set k : Nat) (L : List Pl) (m : Int) (N : Nat)
theorem doneS_zero : doneS p set k L m N 0 0 = [] := rfl
theorem doneS_y (x y : Nat) : doneS p set k L m N x (y + 1) = doneS p set k L m N x y ++ stepS p set k L m ⟨x, y⟩ := by
  simp [doneS, colL, List.range_succ, List.flatMap_append]
theorem doneS_x (x : Nat) : doneS p set k L m N (x + 1) 0 = doneS p set k L m N x N := by
  simp [doneS, colsL, colL, List.range_succ, List.flatMap_append]
theorem doneS_all (h0 : 0 ≤ p.side) (hN : N = (p.side + 1).toNat) : doneS p set k L m N N 0 = truthsS p set (k + 1) L m := by
  subst hN
  rw [truthsS_succ]
  simp [doneS, fieldL, rectL, colL]
theorem done_le (x y : Nat) (hx : x < N) (hy : y < N) (h0 : 0 ≤ p.side) (hN : N = (p.side + 1).toNat) : (doneS p set k L m N x y).length + (stepS p set k L m ⟨x, y⟩).length ≤ (truthsS p set (k + 1) L m).length := by
  rw [← doneS_all p set k L m N h0 hN]
  have hle : ∀ j, (doneS p set k L m N x (y + 1)).length ≤ (doneS p set k L m N x (y + 1 + j)).length := fun j => by
    induction j with
    | zero => exact Nat.le_refl _
    | succ j ih => refine Nat.le_trans ih ?_; rw [← Nat.add_assoc, doneS_y p set k L m N x (y + 1 + j), List.length_append]; omega
  have hlx : ∀ j, (doneS p set k L m N (x + 1) 0).length ≤ (doneS p set k L m N (x + 1 + j) 0).length := fun j => by
    induction j with
    | zero => exact Nat.le_refl _
    | succ j ih =>
      refine Nat.le_trans ih ?_
      rw [← Nat.add_assoc, doneS_x]
      have : ∀ i, (doneS p set k L m N (x + 1 + j) 0).length ≤ (doneS p set k L m N (x + 1 + j) i).length := fun i => by
        induction i with
        | zero => exact Nat.le_refl _
        | succ i ih => refine Nat.le_trans ih ?_; rw [doneS_y p set k L m N (x + 1 + j) i, List.length_append]; omega
      exact this N
  have h1 := hle (N - (y + 1))
  have h2 := hlx (N - (x + 1))
  rw [show y + 1 + (N - (y + 1)) = N by omega, ← doneS_x] at h1
  rw [show x + 1 + (N - (x + 1)) = N by omega] at h2
  rw [doneS_y, List.length_append] at h1
  omega
end
theorem truthsS_len (p : PegsD) (set : Nat) (h0 : 0 ≤ p.side) (h8 : p.side ≤ 8) : ∀ (k : Nat) (L : List Pl) (m : Int), (truthsS p set k L m).length ≤ 81 ^ k
  | 0, L, m => by simp [truthsS]
  | k + 1, L, m => by
    rw [truthsS_succ]
    have hs : ∀ s, (stepS p set k L m s).length ≤ 81 ^ k := fun s => by
      unfold stepS
      split
      · split
        · exact truthsS_len p set h0 h8 k _ _
        · simp
      · simp
    have hl : (fieldL p.side).length ≤ 81 := by
      rw [rect_length]
      have : (p.side + 1).toNat ≤ 9 := by omega
      exact Nat.mul_le_mul this this
    have key : ∀ l : List Pl, (l.flatMap (stepS p set k L m)).length ≤ l.length * 81 ^ k := fun l => by
      induction l with
      | nil => simp
      | cons a r ih => rw [List.flatMap_cons, List.length_append, List.length_cons, Nat.add_mul]; have := hs a; omega
    refine Nat.le_trans (key _) ?_
    rw [Nat.pow_succ, Nat.mul_comm (81 ^ k)]
    exact Nat.mul_le_mul_right _ hl
end Go.Proofs.Ytkjciobphbcknaa
