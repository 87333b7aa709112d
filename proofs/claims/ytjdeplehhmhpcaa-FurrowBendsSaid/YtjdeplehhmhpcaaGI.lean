/- Furrow: free, and what sets save. -/
import Derived.Test.YtjdeplehhmhpcaaGH
namespace Go.Proofs.Ytjdeplehhmhpcaa
open Go.RowKit En

section
variable {P : Program} {E : Env} {w0 : World} {T : Nat → Prop} {H : Heap} {x y : Operand} {d : Option Tmp} {t tx ty tyy : TypeId} {pos : String} {af : Array Edge} {gd : Option (Nat × Bool)}
theorem run_append_empty {e sz by_ : Nat} {a1 a2 : Option Addr} {m cap c : Nat} (ht : appB P t e sz by_ = true) (hx : Ev E x (.slice a1 m cap)) {m2 : Nat} (hm : m ≤ cap) (hy : Ev E y (.slice a2 m2 c)) (hm2 : m2 = 0) :
    RunB P E w0 T H ⟨d, .call ⟨.builtin .append, [x, y].toArray, [t, t].toArray⟩, ty, pos, af, gd⟩ (.slice a1 m cap) := fun ρ w hρ hS => by
  subst hm2
  refine doneO rfl ?_
  have e1 := hρ x _ (by simp [Op.operands, Call.operands]) hx
  have e2 := hρ y _ (by simp [Op.operands, Call.operands]) hy
  obtain ⟨hsl, i, z, hi, hz, rfl, rfl, hzs⟩ := appT_of ht
  have hf : (Builtin.firstCells i.size 0 (.slice a2 0 c)).run P w = .ok #[] w := by
    cases a2 with
    | none => simp [run_firstCells_none]
    | some a =>
      have := run_firstCells_some (P := P) w i.size 0 a 0 c [] (by simp) (by simp)
      simpa using this
  have hr : (Builtin.append_ #[t, t] ty #[.slice a1 m cap, .slice a2 0 c]).run P w = .ok (.slice a1 m cap) w := by
    cases a1 <;> simp [Builtin.append_, run_underlying hsl, sizeOf, typeInfo, hi, Builtin.lenOf, hf, hm, storeCells]
  rw [done_append e1 e2 hr]
  exact ⟨rfl, Below.refl _ _⟩
end
/-- Stations of a set lie at some offset. -/
structure FreeOf (l L : List SpanD) (s : Nat) : Prop where
  len : L.length = l.length
  free : ∀ k, k < l.length → s.testBit k = true → -12 ≤ (L.getD k default).lo ∧ (L.getD k default).hi = (L.getD k default).lo ∧ (L.getD k default).lo ≤ 12
  own : ∀ k, k < l.length → s.testBit k = false → L.getD k default = l.getD k default
end Go.Proofs.Ytjdeplehhmhpcaa
