/- Furrow: free, and what sets save. -/
import Derived.Test.YtjdeplehhmhpcaaGH
namespace Go.Proofs.Ytjdeplehhmhpcaa
open Go.RowKit En

section
variable {P : Program} {E : Env} {w0 : World} {T : Nat → Prop} {H : Heap} {x y : Operand} {d : Option Tmp} {t tx ty tyy : TypeId} {pos : String} {af : Array Edge} {gd : Option (Nat × Bool)}
end
/-- Stations of a set lie at some offset. -/
structure FreeOf (l L : List SpanD) (s : Nat) : Prop where
  len : L.length = l.length
  free : ∀ k, k < l.length → s.testBit k = true → -12 ≤ (L.getD k default).lo ∧ (L.getD k default).hi = (L.getD k default).lo ∧ (L.getD k default).lo ≤ 12
  own : ∀ k, k < l.length → s.testBit k = false → L.getD k default = l.getD k default
end Go.Proofs.Ytjdeplehhmhpcaa
