/- Package peg: proofs, and who was moved with some of the lengths. -/
import Derived.Test.YtkjciobphbcknaaAU
namespace Go.Proofs.Ytkjciobphbcknaa
open Go.RowKit

theorem lensB_part {n : Nat} {ls : List Len} (h : lensB n ls = true) (set : Nat) : lensB n (partL set ls) = true := by
  simp only [lensB, List.all_eq_true] at h ⊢
  intro l hl
  obtain ⟨k, _, c⟩ := mem_partL.1 hl
  exact h l (List.mem_of_getElem? c)
theorem validB_part {p : PegsD} (hv : validB p = true) (set : Nat) : validB (partP p set) = true := by
  have hlen : (partL set p.ls).length ≤ p.ls.length := partTo_length _ _ _
  simp only [validB, sizesB, partP, Bool.and_eq_true] at hv ⊢
  obtain ⟨⟨⟨⟨a, b⟩, c⟩, d⟩, e, f⟩ := hv
  exact ⟨⟨⟨⟨a, b⟩, c⟩, decide_eq_true (Nat.le_trans hlen (of_decide_eq_true d))⟩, e, lensB_part f set⟩
/-- Do the lengths of a set prove that a peg was moved, by who can have been? -/
def provesR (p : PegsD) (set i : Nat) : Bool :=
  match movedR (partP p set) with
  | .ok (_, S, b) => !b && decide (S = 2 ^ i)
  | .error _ => false
theorem provesR_iff {p : PegsD} (hv : validB p = true) (set i : Nat) : provesR p set i = true ↔ Proves p set i := by
  have hvp := validB_part hv set
  have hf := fit_of_valid hvp
  by_cases hE : truthsL (partP p set) = []
  · have e : movedR (partP p set) = .error 10 := by rw [movedR, if_neg (by simp [hvp]), if_pos hE]
    rw [provesR, e]
    constructor
    · intro h; cases h
    · rintro ⟨⟨t, m, h⟩, _⟩
      have := (mem_truthsL hf).2 h
      rw [hE] at this; cases this
  · obtain ⟨S, b, h1, h2, h3, h4⟩ := movedR_spec hvp hE
    rw [provesR, h1]
    simp only [Bool.and_eq_true, Bool.not_eq_true', decide_eq_true_eq]
    constructor
    · rintro ⟨rfl, h5⟩
      have h5 : S = 2 ^ i := by exact_mod_cast h5
      refine ⟨?_, fun t m ht => ?_⟩
      · obtain ⟨t, ht⟩ := (h4 i).1 (by rw [h5]; simp)
        exact ⟨t, i, ht⟩
      · by_cases hm : m = -1
        · subst hm
          have := h3.2 ⟨t, ht⟩
          cases this
        · obtain ⟨j, rfl⟩ := Int.eq_ofNat_of_zero_le (show 0 ≤ m by have := ht.1; omega)
          have := (h4 j).2 ⟨t, ht⟩
          rw [h5, Nat.testBit_two_pow, decide_eq_true_eq] at this
          rw [this]
    · rintro ⟨⟨t, m, ht⟩, hall⟩
      have hmi := hall t m ht
      subst hmi
      constructor
      · cases b with
        | false => rfl
        | true =>
          obtain ⟨t', ht'⟩ := h3.1 rfl
          have := hall t' (-1) ht'
          omega
      · have : S = 2 ^ i := by
          apply Nat.eq_of_testBit_eq
          intro j
          rw [Nat.testBit_two_pow, Bool.eq_iff_iff, h4 j, decide_eq_true_eq]
          constructor
          · rintro ⟨t', ht'⟩; have := hall t' j ht'; omega
          · rintro rfl; exact ⟨t, ht⟩
        rw [this]; push_cast; rfl
theorem none_proves {p : PegsD} (hv : validB p = true) (i : Nat) : ¬ Proves p 0 i := by
  intro h
  have hf := fit_of_valid hv
  obtain ⟨t, h1, _⟩ := bare_truth hf.bare rfl (-1) ⟨0, 0⟩ (by omega) (by have : (bare p).ps.length = p.ps.length := rfl; omega) (fun q h => by omega)
  have := h.2 t (-1) ((truth_part (Nat.two_pow_pos _)).2 ⟨h1, by simp⟩)
  omega

/-- One set comes before another one: it has fewer elements, or as many and is less. -/
def before (x y : Nat) : Prop := cnt x < cnt y ∨ cnt x = cnt y ∧ x < y
instance (x y : Nat) : Decidable (before x y) := by unfold before; infer_instance
theorem setsL_pairwise (n : Nat) (hn : n ≤ 6) : (setsL n).Pairwise before := (by decide +kernel : ∀ n : Fin 7, (setsL n.1).Pairwise before) ⟨n, by omega⟩
theorem mem_setsL (n : Nat) (hn : n ≤ 6) (y : Nat) (hy : y < 2 ^ n) : y ∈ setsL n := by
  have h64 : y < 64 := Nat.lt_of_lt_of_le hy (Nat.pow_le_pow_right (by omega) (show n ≤ 6 from hn))
  exact (by decide +kernel : ∀ n : Fin 7, ∀ y : Fin 64, y.1 < 2 ^ n.1 → y.1 ∈ setsL n.1) ⟨n, by omega⟩ ⟨y, h64⟩ hy
theorem setsL_lt2 (n : Nat) (y : Nat) (hy : y ∈ setsL n) : y < 2 ^ n := by
  simp only [setsL, setsTo, ofSize, List.mem_append, List.mem_flatMap, List.mem_filter, List.mem_range] at hy
  rcases hy with ⟨z, _, h, _⟩ | ⟨h, _⟩
  · exact h
  · omega
theorem find_first {α : Type} {R : α → α → Prop} {q : α → Bool} {l : List α} (hl : l.Pairwise R) {x : α} (h : l.find? q = some x) : x ∈ l ∧ q x = true ∧ ∀ y ∈ l, q y = true → y = x ∨ R x y := by
  obtain ⟨hq, u, v, rfl, hno⟩ := List.find?_eq_some_iff_append.1 h
  refine ⟨by simp, hq, fun y hy hqy => ?_⟩
  rcases List.mem_append.1 hy with h1 | h1
  · have := hno y h1; simp [hqy] at this
  · rcases List.mem_cons.1 h1 with h2 | h2
    · exact .inl h2
    · have h3 := (List.pairwise_append.1 hl).2.1
      exact .inr ((List.pairwise_cons.1 h3).1 y h2)
/-- What Proof tells is the first set that proves it, or that none does. -/
theorem proofR_first {p : PegsD} (hv : validB p = true) {i : Nat} (hi : i < p.ps.length) :
    (proofR p i = .error 4 ∧ ∀ y, y < 2 ^ p.ls.length → provesR p y i = false) ∨
    ∃ x : Nat, proofR p i = .ok (x : Int) ∧ x < 2 ^ p.ls.length ∧ 1 ≤ x ∧ provesR p x i = true ∧ ∀ y, y < 2 ^ p.ls.length → provesR p y i = true → y = x ∨ before x y := by
  have hf := fit_of_valid hv
  have h6 := hf.l6
  have key : ∀ y, y < 2 ^ p.ls.length → proveB (evRun (ev0 p i) (truthsL (bare p))) y = provesR p y i := fun y hy => by
    rw [Bool.eq_iff_iff, proveB_iff hf i y hy, provesR_iff hv]
  rw [proofR_spec hv hi]
  cases hF : (setsL p.ls.length).find? (proveB (evRun (ev0 p i) (truthsL (bare p)))) with
  | none =>
    left
    refine ⟨rfl, fun y hy => ?_⟩
    have := List.find?_eq_none.1 hF y (mem_setsL _ h6 y hy)
    rw [← key y hy]
    simpa using this
  | some x =>
    right
    obtain ⟨h1, h2, h3⟩ := find_first (setsL_pairwise _ h6) hF
    have hx := setsL_lt2 _ x h1
    rw [key x hx] at h2
    refine ⟨x, rfl, hx, ?_, h2, fun y hy hp => h3 y (mem_setsL _ h6 y hy) (by rw [key y hy]; exact hp)⟩
    apply Nat.pos_of_ne_zero
    rintro rfl
    exact none_proves hv i ((provesR_iff hv 0 i).1 h2)
/-- Without one of its elements a set has one less. -/
theorem cnt_without (s k : Nat) (hs : s < 64) (hk : k < 6) (h : s / 2 ^ k % 2 = 1) : 2 ^ k ≤ s ∧ cnt (s - 2 ^ k) + 1 = cnt s := 
  (by decide +kernel : ∀ s : Fin 64, ∀ k : Fin 6, s.1 / 2 ^ k.1 % 2 = 1 → 2 ^ k.1 ≤ s.1 ∧ cnt (s.1 - 2 ^ k.1) + 1 = cnt s.1) ⟨s, hs⟩ ⟨k, hk⟩ h
theorem proof_needs {p : PegsD} (hv : validB p = true) {i x k : Nat} (hx : x < 2 ^ p.ls.length) (hmin : ∀ y, y < 2 ^ p.ls.length → provesR p y i = true → y = x ∨ before x y) (hk : k < p.ls.length) (hb : x / 2 ^ k % 2 = 1) : provesR p (x - 2 ^ k) i = false := by
  have h6 := (fit_of_valid hv).l6
  have h64 : x < 64 := Nat.lt_of_lt_of_le hx (Nat.pow_le_pow_right (by omega) h6)
  obtain ⟨a, b⟩ := cnt_without x k h64 (by omega) hb
  have hp := Nat.two_pow_pos k
  cases h : provesR p (x - 2 ^ k) i with
  | false => rfl
  | true =>
    rcases hmin (x - 2 ^ k) (by omega) h with e | e | e
    · omega
    · omega
    · omega
/-- Two pegs can't both be proved to have been moved, if there is a truth. -/
theorem two_proofs {p : PegsD} (hv : validB p = true) {a b x y : Nat} (hx : x < 2 ^ p.ls.length) (hy : y < 2 ^ p.ls.length) (h1 : provesR p x a = true) (h2 : provesR p y b = true) (hab : a ≠ b) : truthsL p = [] := by
  have hf := fit_of_valid hv
  cases hE : truthsL p with
  | nil => rfl
  | cons z r =>
    obtain ⟨t, m⟩ := z
    have ht : IsTruth p t m := (mem_truthsL hf).1 (by rw [hE]; simp)
    have hfull : ∀ s, s < 2 ^ p.ls.length → IsTruth (partP p s) t m := fun s _ => ⟨ht.1, ht.2.1, ht.2.2.1, ht.2.2.2.1, fun l hl => by
      obtain ⟨k, _, c⟩ := mem_partL.1 hl
      exact ht.2.2.2.2 l (List.mem_of_getElem? c)⟩
    have e1 := ((provesR_iff hv x a).1 h1).2 t m (hfull x hx)
    have e2 := ((provesR_iff hv y b).1 h2).2 t m (hfull y hy)
    omega
end Go.Proofs.Ytkjciobphbcknaa
