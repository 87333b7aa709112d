/- Furrow: FurrowWorst's walk. -/
import Derived.Test.YtjdeplehhmhpcaaGG
namespace Go.Proofs.Ytjdeplehhmhpcaa
open Go.RowKit En

section
variable {P : Program} {E : Env} {w0 : World} {T : Nat → Prop} {H : Heap} {x y : Operand} {d : Option Tmp} {t tx ty tyy : TypeId} {pos : String} {af : Array Edge} {gd : Option (Nat × Bool)}
end
/-- A bit of a set, as a program asks for it. -/
def bitN (a k : Nat) : Nat := a / 2 ^ k % 2
end Go.Proofs.Ytjdeplehhmhpcaa
