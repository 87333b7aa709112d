/- Furrow: what is told of a furrow of which more is known. -/
import Derived.Test.YtjdeplehhmhpcaaGJ
import Derived.Test.YtjdeplehhmhpcaaGH
namespace Go.Proofs.Ytjdeplehhmhpcaa
open Go.RowKit En

/-- A span within a span. -/
def SubS (a b : SpanD) : Prop := b.lo ≤ a.lo ∧ a.lo ≤ a.hi ∧ a.hi ≤ b.hi
structure Narrow (f x : FurrowD) : Prop where
  len : x.offs.length = f.offs.length
  wids : x.wids.length = f.wids.length
  deps : x.deps.length = f.deps.length
  at_ : ∀ k, k < f.offs.length → SubS (x.offs.getD k default) (f.offs.getD k default) ∧ SubS (x.wids.getD k default) (f.wids.getD k default) ∧ SubS (x.deps.getD k default) (f.deps.getD k default)
theorem shallowN_bit (l : List SpanD) (least : Int) (j : Nat) : ∀ n : Nat, (shallowN l least n).1.testBit j = decide (j < n ∧ (l.getD j default).hi < least) ∧ (shallowN l least n).2.testBit j = decide (j < n ∧ (l.getD j default).lo < least)
  | 0 => by simp [shallowN]
  | n + 1 => by
    obtain ⟨h1, h2⟩ := shallowN_bit l least j n
    simp only [shallowN, noteN_bit, h1, h2]
    by_cases e : n = j
    · subst e
      constructor
      · simp
      · simp
    · have h3 : (j < n + 1) ↔ j < n := by omega
      simp [e, h3]
theorem mul_sub {a b c d : Int} (ha : 0 ≤ a) (hb : 0 ≤ b) (h1 : a ≤ c) (h2 : b ≤ d) : a * b ≤ c * d := Int.mul_le_mul h1 h2 hb (Int.le_trans ha h1)
/-- A span that is narrower by a number. -/
def narS (b : Bool) (s : SpanD) : SpanD := if b then ⟨min s.hi (s.lo + 1), s.hi⟩ else ⟨s.lo, max s.lo (s.hi - 2)⟩
def narF (f : FurrowD) (k : Nat) (b0 b1 b2 : Bool) : FurrowD := ⟨f.offs.set k (narS b0 (f.offs.getD k default)), f.wids.set k (narS b1 (f.wids.getD k default)), f.deps.set k (narS b2 (f.deps.getD k default))⟩
/-- A row of which one span is narrower. -/
def narR (b : Bool) (r : List Value) (k : Nat) (s : SpanD) : List Value := if b then r.set (k * 2) (.int .i64 (min s.hi (s.lo + 1))) else r.set (k * 2 + 1) (.int .i64 (max s.lo (s.hi - 2)))
section
variable {oa wa da : Option Addr} {oc wc dc n1 n2 n3 : Nat}
theorem bendQn (f : FurrowD) (h1 : f.offs.length = n1) (h2 : f.wids.length = n2) (h3 : f.deps.length = n3) (w : World) (hm : Lens f) (hf : FurrowAt w f oa wa da) (hv : validB f = true) : Gives Try.prog 14 [.agg [.slice oa n1 oc, .slice wa n2 wc, .slice da n3 dc].toArray] w (.tuple #[spanV (bendT f.offs), .int .i64 0]) := by
  subst h1 h2 h3
  have h := bendQ f oa wa da oc wc dc w hm hf
  rw [show bendR f = (bendT f.offs, 0) by unfold bendR; rw [hv]; rfl] at h
  exact h
theorem worstQn (f : FurrowD) (h1 : f.offs.length = n1) (h2 : f.wids.length = n2) (h3 : f.deps.length = n3) (w : World) (hm : Lens f) (hf : FurrowAt w f oa wa da) (hv : validB f = true) : Gives Try.prog 20 [.agg [.slice oa n1 oc, .slice wa n2 wc, .slice da n3 dc].toArray] w (.tuple #[.int .i64 ((sureN f.offs : Nat) : Int), .int .i64 ((canN f.offs : Nat) : Int), .int .i64 0]) := by
  subst h1 h2 h3
  have h := worstQ f oa wa da oc wc dc w hm hf
  rw [show worstR f = (worstN f.offs (f.offs.length - 2), 0) by unfold worstR; rw [hv]; rfl] at h
  exact h
theorem soilQn (f : FurrowD) (h1 : f.offs.length = n1) (h2 : f.wids.length = n2) (h3 : f.deps.length = n3) (w : World) (hm : Lens f) (hf : FurrowAt w f oa wa da) (hv : validB f = true) : Gives Try.prog 27 [.agg [.slice oa n1 oc, .slice wa n2 wc, .slice da n3 dc].toArray] w (.tuple #[spanV (soilS f), .int .i64 0]) := by
  subst h1 h2 h3
  have h := soilQ f oa wa da oc wc dc w hm hf
  rw [show soilR f = (soilS f, 0) by unfold soilR; rw [hv]; rfl] at h
  exact h
theorem shallowQn (f : FurrowD) (h1 : f.offs.length = n1) (h2 : f.wids.length = n2) (h3 : f.deps.length = n3) (least : Int) (w : World) (hm : Lens f) (hf : FurrowAt w f oa wa da) {a b : Nat} {e : Int} (hr : shallowR f least = ((a, b), e)) : Gives Try.prog 25 [.agg [.slice oa n1 oc, .slice wa n2 wc, .slice da n3 dc].toArray, .int .i64 least] w (.tuple #[.int .i64 (a : Int), .int .i64 (b : Int), .int .i64 e]) := by
  subst h1 h2 h3
  have h := shallowQ f oa wa da oc wc dc least w hm hf
  rw [hr] at h
  exact h
theorem wrongQn (f : FurrowD) (h1 : f.offs.length = n1) (h2 : f.wids.length = n2) (h3 : f.deps.length = n3) (most : Int) (w : World) (hm : Lens f) (hf : FurrowAt w f oa wa da) {s e : Int} (hr : wrongR f most = (s, e)) : Gives Try.prog 23 [.agg [.slice oa n1 oc, .slice wa n2 wc, .slice da n3 dc].toArray, .int .i64 most] w (.tuple #[.int .i64 s, .int .i64 e]) := by
  subst h1 h2 h3
  have h := wrongQ f oa wa da oc wc dc most w hm hf
  rw [hr] at h
  exact h
end
def inSpB (a b : SpanD) : Bool := decide (b.lo ≤ a.lo) && decide (a.hi ≤ b.hi)
end Go.Proofs.Ytjdeplehhmhpcaa
