/- Furrow: what is told wrong is the smallest set that saves. -/
import Derived.Test.YtjdeplehhmhpcaaGI
namespace Go.Proofs.Ytjdeplehhmhpcaa
open Go.RowKit En

theorem setsL_ordered (n : Nat) : (setsL n).Pairwise fun a b => sizeN a < sizeN b ∨ sizeN a = sizeN b ∧ a < b := by
  have e : setsL n = (List.range (n + 1)).flatMap (fun z => (List.range (2 ^ n)).filter fun s => decide (sizeN s = z)) := by simp [setsL, setsU]
  rw [e, List.pairwise_flatMap]
  refine ⟨fun z _ => ?_, ?_⟩
  · refine (List.Pairwise.filter _ List.pairwise_lt_range).imp_of_mem ?_
    intro a b ha hb h
    have h1 := of_decide_eq_true (List.mem_filter.1 ha).2
    have h2 := of_decide_eq_true (List.mem_filter.1 hb).2
    exact .inr ⟨h1.trans h2.symm, h⟩
  · refine List.pairwise_lt_range.imp ?_
    intro z1 z2 hz x hx y hy
    have h1 := of_decide_eq_true (List.mem_filter.1 hx).2
    have h2 := of_decide_eq_true (List.mem_filter.1 hy).2
    exact .inl (by omega)
/-- Nothing smaller saves. -/
theorem sets_first {l : List SpanD} {most : Int} {s : Nat} {A B : List Nat} (hn : l.length ≤ 8) (h : setsL l.length = A ++ s :: B) (hA : ∀ x ∈ A, savedB l most x = false) {u : Nat} (hu : u < 2 ^ l.length) (hs : savedB l most u = true) : ¬ (sizeN u < sizeN s ∨ sizeN u = sizeN s ∧ u < s) := by
  have hm := sets_mem hn hu
  have hp := setsL_ordered l.length
  rw [h] at hm hp
  rcases List.mem_append.1 hm with hm | hm
  · rw [hA u hm] at hs; cases hs
  · rcases List.mem_cons.1 hm with rfl | hm
    · omega
    · have h2 := (List.pairwise_cons.1 (List.pairwise_append.1 hp).2.1).1 u hm
      omega
end Go.Proofs.Ytjdeplehhmhpcaa
