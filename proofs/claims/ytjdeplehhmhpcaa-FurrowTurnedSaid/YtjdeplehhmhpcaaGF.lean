/- Furrow: arguments as data: small numbers. -/
import Derived.Test.YtjdeplehhmhpcaaGC
import Derived.Test.YtjdeplehhmhpcaaGE
import Derived.Test.YtjdeplehhmhpcaaLaw
namespace Go.Proofs.Ytjdeplehhmhpcaa
open Go.ChangeShapes Go.WideShapes Go.ChangeAt Go.RowKit Go.Joins Go.Deep

section
variable {H : Type} {enc : TypeId × Value → H} {w : World} {base : Nat} {held : Bool}
end
end Go.Proofs.Ytjdeplehhmhpcaa
