/- Soil: what the laws' calls give, on a ground that is valid. -/
import Derived.Test.YtfmbnobkenngaaaHF
import Derived.Test.YtfmbnobkenngaaaGX
namespace Go.Proofs.Ytfmbnobkenngaaa
open Go.RowKit En

section
variable {P : Program} {E : Env} {w0 : World} {T : Nat → Prop} {H : Heap} {x y z : Operand} {d : Option Tmp} {ty : TypeId} {pos : String} {af : Array Edge} {gd : Option (Nat × Bool)}
end
/-- The work from a place to another one, where there is a truth. -/
def sumR (g : GroundD) (x y : Int) : SpanD := sumS (midS (hardL g) x.toNat (y.toNat + 1))
def hardC (g : GroundD) (k : Int) : SpanD := commonS (voicesL g) ((k.toNat : Nat) : Int)
section
variable {g : GroundD}
theorem hardL_get (k : Nat) (hk : k < placesN g) : (hardL g)[k]? = some (commonS (voicesL g) (k : Int)) := hardL_at hk
end
end Go.Proofs.Ytfmbnobkenngaaa
