/- Furrow: FurrowStraight's walk. -/
import Derived.Test.YtjdeplehhmhpcaaGD
namespace Go.Proofs.Ytjdeplehhmhpcaa
open Go.RowKit En

/-- Small numbers that lie in memory. -/
structure U8At (w : World) (ba : Option Addr) (m : List Int) : Prop where
  row : ∀ i x, m[i]? = some x → ∃ b o, ba = some ⟨b, o, none⟩ ∧ b < w.heap.size ∧ (0 ≤ x ∧ x ≤ 255) ∧ w.cell? ⟨b, o + i, none⟩ = some (.int .u8 x)
theorem U8At.kept {w w' : World} {ba : Option Addr} {m : List Int} (h : U8At w ba m) (hb : Below w.heap.size w w') : U8At w' ba m := ⟨fun i x hi => by
  obtain ⟨b, o, h1, h2, h3, h4⟩ := h.row i x hi
  exact ⟨b, o, h1, Nat.lt_of_lt_of_le h2 hb.size, h3, cell_kept' h4 hb⟩⟩
theorem inn_small {f : FurrowD} (hv : ValidF f) {t : List Int} (ht : Inn f.offs t) : SmallL t := fun x hx => by
  obtain ⟨k, hk, rfl⟩ := List.getElem_of_mem hx
  have h1 := ht.2 k (by rw [← ht.1]; exact hk)
  have h2 := (hv.st (k := k) (by rw [← ht.1]; exact hk)).1
  have e : t.getD k 0 = t[k] := by rw [List.getD_eq_getElem?_getD, List.getElem?_eq_getElem hk]; rfl
  rw [e] at h1
  omega
end Go.Proofs.Ytjdeplehhmhpcaa
