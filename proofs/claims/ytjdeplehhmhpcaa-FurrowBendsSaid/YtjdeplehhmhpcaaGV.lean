/- Furrow: the document's own Free, can, Wrong. -/
import Derived.Test.YtjdeplehhmhpcaaGU
import Derived.Test.YtjdeplehhmhpcaaGJ
namespace Go.Proofs.Ytjdeplehhmhpcaa
open Go.RowKit En

inductive FreR where
  | zero
  | one (a : Nat × Nat × List Value)
structure FreS where
  k : Nat
  rows : FreR
/-- Can the bend be at most so much, with some offsets to begin with? -/
def canF (L : List SpanD) (m : Int) : Nat → List Int → Bool
  | 0, _ => true
  | d + 1, t => (upL (L.getD t.length default).lo (L.getD t.length default).hi).any fun o => (decide (t.length < 2) || decide (bentT (t ++ [o]) (t.length - 1) ≤ m)) && canF L m d (t ++ [o])
def ExtF (L : List SpanD) (m : Int) (t u : List Int) : Prop := Inn L u ∧ u.take t.length = t ∧ ∀ k, Inner L k → t.length ≤ k + 1 → bentT u k ≤ m
/-- One offset more: does it go on? -/
def testO (L : List SpanD) (m : Int) (d : Nat) (t : List Int) (o : Int) : Bool := (decide (t.length < 2) || decide (bentT (t ++ [o]) (t.length - 1) ≤ m)) && canF L m d (t ++ [o])
theorem ints_plain (l : List Int) : (intsV l).all plainV = true := by
  rw [List.all_eq_true]
  intro v hv
  obtain ⟨x, _, rfl⟩ := List.mem_map.1 hv
  rfl
theorem ints_at {l : List Int} {j : Nat} {v : Value} (h : (intsV l)[j]? = some v) : ∃ x, l[j]? = some x ∧ .int .i64 x = v := by
  rw [intsV, List.getElem?_map] at h
  exact Option.map_eq_some_iff.1 h
end Go.Proofs.Ytjdeplehhmhpcaa
