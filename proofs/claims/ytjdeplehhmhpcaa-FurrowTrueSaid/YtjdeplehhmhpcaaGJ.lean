/- Furrow: what is told wrong is the smallest set that saves. -/
import Derived.Test.YtjdeplehhmhpcaaGI
namespace Go.Proofs.Ytjdeplehhmhpcaa
open Go.RowKit En

theorem withinB_of {s : SpanD} {lo hi : Int} (h : lo ≤ s.lo ∧ s.lo ≤ s.hi ∧ s.hi ≤ hi) : withinB s lo hi = true := by simpa [withinB] using h
end Go.Proofs.Ytjdeplehhmhpcaa
