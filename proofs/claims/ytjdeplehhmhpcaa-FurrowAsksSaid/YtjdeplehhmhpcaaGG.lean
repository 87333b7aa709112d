/- Furrow: where the furrow bends most, in words of truths. -/
import Derived.Test.YtjdeplehhmhpcaaGE
namespace Go.Proofs.Ytjdeplehhmhpcaa
open Go.RowKit En

/-- The stations that surely bend most, and those that can. -/
abbrev sureN (l : List SpanD) : Nat := (worstN l (l.length - 2)).1
abbrev canN (l : List SpanD) : Nat := (worstN l (l.length - 2)).2
/-- The inner stations. -/
def innerN : Nat → Nat
  | 0 => 0
  | k + 1 => innerN k ||| 2 ^ (k + 1)
end Go.Proofs.Ytjdeplehhmhpcaa
