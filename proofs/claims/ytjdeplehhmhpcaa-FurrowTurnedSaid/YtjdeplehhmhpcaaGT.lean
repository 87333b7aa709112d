/- Furrow: small numbers as data. -/
import Derived.Test.YtjdeplehhmhpcaaGS
import Derived.Test.YtjdeplehhmhpcaaLaw
namespace Go.Proofs.Ytjdeplehhmhpcaa
open Go.ChangeShapes Go.WideShapes Go.ChangeAt Go.RowKit
theorem i8_wf {n : Int} (h : (Lit.int .i8 n).wf = true) : -128 ≤ n ∧ n ≤ 127 := by
  simp [Lit.wf, IntKind.min, IntKind.max, IntKind.bits, IntKind.signed] at h
  omega
end Go.Proofs.Ytjdeplehhmhpcaa
