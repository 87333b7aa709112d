/- Furrow: what is told wrong is the smallest set that saves. -/
import Derived.Test.YtjdeplehhmhpcaaGI
namespace Go.Proofs.Ytjdeplehhmhpcaa
open Go.RowKit En

theorem setsL_ordered (n : Nat) : (setsL n).Pairwise fun a b => sizeN a < sizeN b ∨ sizeN a = sizeN b ∧ a < b := by
  have e : setsL n = (List.range (n + 1)).flatMap (fun z => (List.range (2 ^ n)).filter fun s => decide (sizeN s = z)) := by simp [setsL, setsU]
  rw [e, List.pairwise_flatMap]
  refine ⟨fun z _ => ?_, ?_⟩
  · refine (List.Pairwise.filter _ List.pairwise_lt_range).imp_of_mem ?_
    intro a b ha hb h
    have h1 := of_decide_eq_true (List.mem_filter.1 ha).2
    have h2 := of_decide_eq_true (List.mem_filter.1 hb).2
    exact .inr ⟨h1.trans h2.symm, h⟩
  · refine List.pairwise_lt_range.imp ?_
    intro z1 z2 hz x hx y hy
    have h1 := of_decide_eq_true (List.mem_filter.1 hx).2
    have h2 := of_decide_eq_true (List.mem_filter.1 hy).2
    exact .inl (by omega)
/-- Nothing smaller saves. -/
theorem sets_first {l : List SpanD} {most : Int} {s : Nat} {A B : List Nat} (hn : l.length ≤ 8) (h : setsL l.length = A ++ s :: B) (hA : ∀ x ∈ A, savedB l most x = false) {u : Nat} (hu : u < 2 ^ l.length) (hs : savedB l most u = true) : ¬ (sizeN u < sizeN s ∨ sizeN u = sizeN s ∧ u < s) := by
  have hm := sets_mem hn hu
  have hp := setsL_ordered l.length
  rw [h] at hm hp
  rcases List.mem_append.1 hm with hm | hm
  · rw [hA u hm] at hs; cases hs
  · rcases List.mem_cons.1 hm with rfl | hm
    · omega
    · have h2 := (List.pairwise_cons.1 (List.pairwise_append.1 hp).2.1).1 u hm
      omega
theorem size_but_one : ∀ n : Fin 9, 1 ≤ n.1 → sizeN (2 ^ n.1 - 2) = n.1 - 1 := by decide +kernel
theorem testBit_but_one {n j : Nat} (hj : j < n) (h0 : 1 ≤ j) : (2 ^ n - 2).testBit j = true := by
  obtain ⟨m, rfl⟩ : ∃ m, n = m + 1 := ⟨n - 1, by omega⟩
  obtain ⟨i, rfl⟩ : ∃ i, j = i + 1 := ⟨j - 1, by omega⟩
  rw [show 2 ^ (m + 1) - 2 = 2 * (2 ^ m - 1) by rw [Nat.pow_succ]; omega, Nat.testBit_succ]
  rw [show 2 * (2 ^ m - 1) / 2 = 2 ^ m - 1 by omega, Nat.testBit_two_pow_sub_one]
  simpa using hj
theorem testBit_but_zero (n : Nat) (hn : 1 ≤ n) : (2 ^ n - 2).testBit 0 = false := by
  obtain ⟨m, rfl⟩ : ∃ m, n = m + 1 := ⟨n - 1, by omega⟩
  have : 2 ^ (m + 1) - 2 = 2 * (2 ^ m - 1) := by rw [Nat.pow_succ]; omega
  rw [this, Nat.testBit_zero]
  simp
/-- With all stations but one wrong the furrow can be straight. -/
theorem saved_but_one {f : FurrowD} (hv : ValidF f) (h1 : 1 ≤ f.offs.length) {most : Int} (hm : 0 ≤ most) : savedB f.offs most (2 ^ f.offs.length - 2) = true := by
  have h0 := (hv.st h1).1
  obtain ⟨v, hvd⟩ : ∃ v, v = (f.offs.getD 0 default).lo := ⟨_, rfl⟩
  rw [← hvd] at h0
  have e2 : ∀ j, j < f.offs.length → (List.replicate f.offs.length v).getD j 0 = v := fun j hj => by rw [List.getD_eq_getElem?_getD, List.getElem?_replicate, if_pos hj]; rfl
  have h : canMost (freedL f.offs (2 ^ f.offs.length - 2)) most = true := canMost_iff.2 ⟨List.replicate f.offs.length v, ⟨by simp [freedL_length], fun j hj => by
    rw [freedL_length] at hj
    have e1 : (freedL f.offs (2 ^ f.offs.length - 2)).getD j default = freedS f.offs (2 ^ f.offs.length - 2) j := by rw [List.getD_eq_getElem?_getD, freedL_at hj]; rfl
    rw [e1, e2 j hj]
    unfold freedS
    rcases Nat.eq_zero_or_pos j with rfl | h
    · rw [testBit_but_zero _ h1]
      simp only [Bool.false_eq_true, if_false]
      rw [← hvd]
      omega
    · rw [testBit_but_one hj h]
      simp only [if_true]
      omega⟩, fun k hk => by
      have hk2 : k + 1 < f.offs.length := by have := hk.2; rw [freedL_length] at this; exact this
      have hk1 := hk.1
      unfold bentT bendI
      rw [e2 _ (by omega), e2 _ (by omega), e2 _ hk2]
      omega⟩
  exact h
theorem wrong_size {f : FurrowD} (hv : ValidF f) {most : Int} (hm : 0 ≤ most) {s : Nat} {A B : List Nat} (h : setsL f.offs.length = A ++ s :: B) (hA : ∀ x ∈ A, savedB f.offs most x = false) (hs : s < 2 ^ f.offs.length) : (sizeN s : Int) ≤ max 0 ((f.offs.length : Int) - 1) := by
  have hn := hv.len
  have e : 2 ^ f.offs.length ≤ 2 ^ 8 := Nat.pow_le_pow_right (by omega) hn
  rcases Nat.eq_zero_or_pos f.offs.length with h0 | h0
  · have := sizeN_bound ⟨f.offs.length, by omega⟩ ⟨s, by omega⟩ hs
    simp only at this
    omega
  · have h1 := sets_first hn h hA (u := 2 ^ f.offs.length - 2) (by have := Nat.two_pow_pos f.offs.length; omega) (saved_but_one hv h0 hm)
    have h2 := size_but_one ⟨f.offs.length, by omega⟩ h0
    simp only at h2
    omega
theorem withinB_of {s : SpanD} {lo hi : Int} (h : lo ≤ s.lo ∧ s.lo ≤ s.hi ∧ s.hi ≤ hi) : withinB s lo hi = true := by simpa [withinB] using h
/-- A freed furrow keeps the document. -/
theorem free_valid {f : FurrowD} (hv : ValidF f) {L : List SpanD} {s : Nat} (hF : FreeOf f.offs L s) : validB ⟨L, f.wids, f.deps⟩ = true := by
  have h1 := hv.len
  have h2 := hv.wids
  have h3 := hv.deps
  have h4 := hF.len
  simp only [validB, Bool.and_eq_true, Bool.not_eq_true', decide_eq_false_iff_not]
  refine ⟨⟨⟨by omega, by omega⟩, by omega⟩, List.all_eq_true.2 fun k hk => ?_⟩
  have hk := List.mem_range.1 hk
  rw [h4] at hk
  have hst := hv.st hk
  have ho : -12 ≤ (L.getD k default).lo ∧ (L.getD k default).lo ≤ (L.getD k default).hi ∧ (L.getD k default).hi ≤ 12 ∧ (L.getD k default).hi - (L.getD k default).lo ≤ 6 := by
    cases hb : s.testBit k
    · rw [hF.own k hk hb]; exact hst.1
    · have := hF.free k hk hb; omega
  simp only [okN, okSt, Bool.and_eq_true, Bool.not_eq_true', decide_eq_false_iff_not]
  exact ⟨⟨⟨withinB_of ⟨ho.1, ho.2.1, ho.2.2.1⟩, by omega⟩, withinB_of hst.2.1⟩, withinB_of hst.2.2⟩
theorem inn_free {l L : List SpanD} {s : Nat} {t : List Int} (hF : FreeOf l L s) (ht : Inn L t) : Inn (freedL l s) t := by
  refine ⟨by rw [freedL_length, ht.1, hF.len], fun j hj => ?_⟩
  rw [freedL_length] at hj
  have h := ht.2 j (by rw [hF.len]; exact hj)
  have e1 : (freedL l s).getD j default = freedS l s j := by rw [List.getD_eq_getElem?_getD, freedL_at hj]; rfl
  rw [e1]
  unfold freedS
  cases hb : s.testBit j
  · rw [hF.own j hj hb] at h
    simpa using h
  · have h2 := hF.free j hj hb
    simp only [if_true]
    omega
/-- What can be straight when some stations lie somewhere can be so when they lie anywhere. -/
theorem free_saved {f : FurrowD} (hv : ValidF f) {L : List SpanD} {s : Nat} (hF : FreeOf f.offs L s) {most : Int} (hm : 0 ≤ most) (h : (bendT L).lo ≤ most) : savedB f.offs most s = true := by
  have hfine : FineC L := (validF (free_valid hv hF)).fine
  obtain ⟨t, h1, h2⟩ := canMost_iff.1 ((canMost_bend hfine hm).2 h)
  have : canMost (freedL f.offs s) most = true := canMost_iff.2 ⟨t, inn_free hF h1, fun k hk => h2 k (by unfold Inner at hk ⊢; rw [freedL_length] at hk; rw [hF.len]; exact hk)⟩
  exact this
theorem size_without : ∀ s : Fin 256, ∀ k : Fin 8, s.1.testBit k.1 = true → sizeN (s.1 - 2 ^ k.1) < sizeN s.1 := by decide +kernel
theorem andNot_bit : ∀ s : Fin 256, ∀ k : Fin 8, s.1.testBit k.1 = true → IntKind.i64.wrap ((BitVec.ofInt IntKind.i64.bits (s.1 : Int) &&& ~~~ BitVec.ofInt IntKind.i64.bits ((2 ^ k.1 : Nat) : Int)).toNat) = ((s.1 - 2 ^ k.1 : Nat) : Int) := by decide +kernel
theorem and_mask : ∀ s : Fin 256, ∀ n : Fin 9, IntKind.i64.wrap ((BitVec.ofInt IntKind.i64.bits (s.1 : Int) &&& BitVec.ofInt IntKind.i64.bits ((2 ^ n.1 : Nat) - 1 : Int)).toNat) = ((s.1 % 2 ^ n.1 : Nat) : Int) := by decide +kernel
theorem shl_one : ∀ n : Fin 9, IntKind.i64.wrap (1 * 2 ^ (min (n.1 : Int).toNat IntKind.i64.bits)) = ((2 ^ n.1 : Nat) : Int) := by decide +kernel
/-- What is told wrong, and what smaller sets do. -/
theorem wrong_facts {f : FurrowD} (hv : ValidF f) {most : Int} (hm : 0 ≤ most) : ∃ s : Nat, wrongN f most = (s : Int) ∧ s < 2 ^ f.offs.length ∧ s < 256 ∧ (s = 0 ↔ (bendT f.offs).lo ≤ most) ∧ (sizeN s : Int) ≤ max 0 ((f.offs.length : Int) - 1) ∧ (∀ u L, u < 2 ^ f.offs.length → FreeOf f.offs L u → (bendT L).lo ≤ most → ¬ (sizeN u < sizeN s ∨ sizeN u = sizeN s ∧ u < s)) := by
  obtain ⟨s, h1, h2, h3, A, B, h4, h5⟩ := wrong_spec hv hm
  have hn := hv.len
  have e : 2 ^ f.offs.length ≤ 2 ^ 8 := Nat.pow_le_pow_right (by omega) hn
  refine ⟨s, h1, h2, by omega, ?_, wrong_size hv hm h4 h5 h2, fun u L hu hF hl => sets_first hn h4 h5 hu (free_saved hv hF hm hl)⟩
  rw [← wrong_zero hv hm, h1]
  omega
end Go.Proofs.Ytjdeplehhmhpcaa
