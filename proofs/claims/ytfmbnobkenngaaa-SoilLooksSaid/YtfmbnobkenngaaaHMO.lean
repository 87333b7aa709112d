/- Soil: further operations (shifts, bits, an append of nothing). -/
import Derived.Test.YtfmbnobkenngaaaHE
namespace Go.Proofs.Ytfmbnobkenngaaa
open Go.RowKit En

section
variable {P : Program} {E : Env} {w0 : World} {T : Nat → Prop} {H : Heap} {x y : Operand} {d : Option Tmp} {t tx ty tyy : TypeId} {pos : String} {af : Array Edge} {gd : Option (Nat × Bool)}
end
end Go.Proofs.Ytfmbnobkenngaaa
