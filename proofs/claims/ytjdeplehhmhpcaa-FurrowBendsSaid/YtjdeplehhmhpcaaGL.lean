/- Furrow: what is told of a furrow of which more is known. -/
import Derived.Test.YtjdeplehhmhpcaaGJ
import Derived.Test.YtjdeplehhmhpcaaGH
namespace Go.Proofs.Ytjdeplehhmhpcaa
open Go.RowKit En

/-- A span within a span. -/
def SubS (a b : SpanD) : Prop := b.lo ≤ a.lo ∧ a.lo ≤ a.hi ∧ a.hi ≤ b.hi
structure Narrow (f x : FurrowD) : Prop where
  len : x.offs.length = f.offs.length
  wids : x.wids.length = f.wids.length
  deps : x.deps.length = f.deps.length
  at_ : ∀ k, k < f.offs.length → SubS (x.offs.getD k default) (f.offs.getD k default) ∧ SubS (x.wids.getD k default) (f.wids.getD k default) ∧ SubS (x.deps.getD k default) (f.deps.getD k default)
/-- A span that is narrower by a number. -/
def narS (b : Bool) (s : SpanD) : SpanD := if b then ⟨min s.hi (s.lo + 1), s.hi⟩ else ⟨s.lo, max s.lo (s.hi - 2)⟩
def narF (f : FurrowD) (k : Nat) (b0 b1 b2 : Bool) : FurrowD := ⟨f.offs.set k (narS b0 (f.offs.getD k default)), f.wids.set k (narS b1 (f.wids.getD k default)), f.deps.set k (narS b2 (f.deps.getD k default))⟩
/-- A row of which one span is narrower. -/
def narR (b : Bool) (r : List Value) (k : Nat) (s : SpanD) : List Value := if b then r.set (k * 2) (.int .i64 (min s.hi (s.lo + 1))) else r.set (k * 2 + 1) (.int .i64 (max s.lo (s.hi - 2)))
section
variable {oa wa da : Option Addr} {oc wc dc n1 n2 n3 : Nat}
end
def inSpB (a b : SpanD) : Bool := decide (b.lo ≤ a.lo) && decide (a.hi ≤ b.hi)
end Go.Proofs.Ytjdeplehhmhpcaa
