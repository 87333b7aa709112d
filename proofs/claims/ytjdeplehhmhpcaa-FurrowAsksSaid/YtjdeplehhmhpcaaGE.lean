/- Furrow: FurrowStraight's walk. -/
import Derived.Test.YtjdeplehhmhpcaaGD
namespace Go.Proofs.Ytjdeplehhmhpcaa
open Go.RowKit En

/-- Small numbers that lie in memory. -/
structure U8At (w : World) (ba : Option Addr) (m : List Int) : Prop where
  row : ∀ i x, m[i]? = some x → ∃ b o, ba = some ⟨b, o, none⟩ ∧ b < w.heap.size ∧ (0 ≤ x ∧ x ≤ 255) ∧ w.cell? ⟨b, o + i, none⟩ = some (.int .u8 x)
theorem U8At.kept {w w' : World} {ba : Option Addr} {m : List Int} (h : U8At w ba m) (hb : Below w.heap.size w w') : U8At w' ba m := ⟨fun i x hi => by
  obtain ⟨b, o, h1, h2, h3, h4⟩ := h.row i x hi
  exact ⟨b, o, h1, Nat.lt_of_lt_of_le h2 hb.size, h3, cell_kept' h4 hb⟩⟩
theorem sizeN_bound : ∀ n : Fin 9, ∀ s : Fin 256, s.1 < 2 ^ n.1 → sizeN s.1 ≤ n.1 := by decide +kernel
theorem sets_mem {n s : Nat} (hn : n ≤ 8) (hs : s < 2 ^ n) : s ∈ setsL n := by
  have e : 2 ^ n ≤ 2 ^ 8 := Nat.pow_le_pow_right (by omega) hn
  have hb := sizeN_bound ⟨n, by omega⟩ ⟨s, by omega⟩ hs
  exact List.mem_of_getElem? (sets_at hb hs rfl)
/-- With all stations wrong the furrow can be straight. -/
theorem saved_all {l : List SpanD} {most : Int} (hm : 0 ≤ most) : savedB l most (2 ^ l.length - 1) = true := by
  have h : canMost (freedL l (2 ^ l.length - 1)) most = true := canMost_iff.2 ⟨List.replicate l.length 0, ⟨by simp [freedL_length], fun j hj => by
    rw [freedL_length] at hj
    have e1 : (freedL l (2 ^ l.length - 1)).getD j default = ⟨-12, 12⟩ := by
      rw [List.getD_eq_getElem?_getD, freedL_at hj]
      have : (2 ^ l.length - 1).testBit j = true := by rw [Nat.testBit_two_pow_sub_one]; simpa using hj
      simp [freedS, this]
    have e2 : (List.replicate l.length (0 : Int)).getD j 0 = 0 := by rw [List.getD_eq_getElem?_getD, List.getElem?_replicate]; split <;> rfl
    rw [e1, e2]
    exact ⟨by decide, by decide⟩⟩, fun k hk => by
      have e2 : ∀ j, (List.replicate l.length (0 : Int)).getD j 0 = 0 := fun j => by rw [List.getD_eq_getElem?_getD, List.getElem?_replicate]; split <;> rfl
      unfold bentT
      rw [e2, e2, e2]
      exact hm⟩
  exact h
/-- What the stations are that are told to be wrong. -/
theorem wrong_spec {f : FurrowD} (hv : ValidF f) {most : Int} (hm : 0 ≤ most) : ∃ s : Nat, wrongN f most = (s : Int) ∧ s < 2 ^ f.offs.length ∧ savedB f.offs most s = true ∧ ∃ A B, setsL f.offs.length = A ++ s :: B ∧ ∀ x ∈ A, savedB f.offs most x = false := by
  have hn := hv.len
  have hall := saved_all (l := f.offs) hm
  have hmem := sets_mem (s := 2 ^ f.offs.length - 1) hn (by have := Nat.two_pow_pos f.offs.length; omega)
  obtain ⟨s, hs⟩ : ∃ s, (setsL f.offs.length).find? (savedB f.offs most) = some s := by
    rw [← Option.isSome_iff_exists, List.find?_isSome]
    exact ⟨_, hmem, hall⟩
  obtain ⟨h1, A, B, h2, h3⟩ := List.find?_eq_some_iff_append.1 hs
  have hsm : s ∈ setsL f.offs.length := by rw [h2]; simp
  refine ⟨s, ?_, mem_setsU (Nat.zero_le _) hsm, h1, A, B, h2, fun x hx => by simpa using h3 x hx⟩
  unfold wrongN
  rw [List.find?_map]
  have : ((fun x : Int => savedB f.offs most x.toNat) ∘ fun (s : Nat) => (s : Int)) = savedB f.offs most := by funext x; simp
  rw [this, hs]
  rfl
end Go.Proofs.Ytjdeplehhmhpcaa
