/- Furrow: what is told of a furrow of which more is known. -/
import Derived.Test.YtjdeplehhmhpcaaGJ
import Derived.Test.YtjdeplehhmhpcaaGH
namespace Go.Proofs.Ytjdeplehhmhpcaa
open Go.RowKit En

/-- A span within a span. -/
def SubS (a b : SpanD) : Prop := b.lo ≤ a.lo ∧ a.lo ≤ a.hi ∧ a.hi ≤ b.hi
structure Narrow (f x : FurrowD) : Prop where
  len : x.offs.length = f.offs.length
  wids : x.wids.length = f.wids.length
  deps : x.deps.length = f.deps.length
  at_ : ∀ k, k < f.offs.length → SubS (x.offs.getD k default) (f.offs.getD k default) ∧ SubS (x.wids.getD k default) (f.wids.getD k default) ∧ SubS (x.deps.getD k default) (f.deps.getD k default)
theorem narrow_valid {f x : FurrowD} (hv : ValidF f) (h : Narrow f x) : validB x = true := by
  have h1 := hv.len
  have h2 := hv.wids
  have h3 := hv.deps
  have h4 := h.len
  have h5 := h.wids
  have h6 := h.deps
  simp only [validB, Bool.and_eq_true, Bool.not_eq_true', decide_eq_false_iff_not]
  refine ⟨⟨⟨by omega, by omega⟩, by omega⟩, List.all_eq_true.2 fun k hk => ?_⟩
  have hk := List.mem_range.1 hk
  rw [h4] at hk
  obtain ⟨⟨a1, a2, a3, a4⟩, ⟨b1, b2, b3⟩, c1, c2, c3⟩ := hv.st hk
  obtain ⟨⟨d1, d2, d3⟩, ⟨e1, e2, e3⟩, f1, f2, f3⟩ := h.at_ k hk
  simp only [okN, okSt, Bool.and_eq_true, Bool.not_eq_true', decide_eq_false_iff_not]
  exact ⟨⟨⟨withinB_of ⟨by omega, by omega, by omega⟩, by omega⟩, withinB_of ⟨by omega, by omega, by omega⟩⟩, withinB_of ⟨by omega, by omega, by omega⟩⟩
/-- A span that is narrower by a number. -/
def narS (b : Bool) (s : SpanD) : SpanD := if b then ⟨min s.hi (s.lo + 1), s.hi⟩ else ⟨s.lo, max s.lo (s.hi - 2)⟩
def narF (f : FurrowD) (k : Nat) (b0 b1 b2 : Bool) : FurrowD := ⟨f.offs.set k (narS b0 (f.offs.getD k default)), f.wids.set k (narS b1 (f.wids.getD k default)), f.deps.set k (narS b2 (f.deps.getD k default))⟩
theorem spansC_two : ∀ {L : List SpanD} {k : Nat}, k < L.length → (spansC L)[k * 2]? = some (.int .i64 (L.getD k default).lo) ∧ (spansC L)[k * 2 + 1]? = some (.int .i64 (L.getD k default).hi)
  | [], k, h => absurd h (Nat.not_lt_zero k)
  | a :: r, 0, _ => ⟨rfl, rfl⟩
  | a :: r, k + 1, h => by
    have ih := spansC_two (L := r) (k := k) (by simpa using h)
    rw [show (k + 1) * 2 = k * 2 + 2 by omega]
    exact ih
/-- A row of which one span is narrower. -/
def narR (b : Bool) (r : List Value) (k : Nat) (s : SpanD) : List Value := if b then r.set (k * 2) (.int .i64 (min s.hi (s.lo + 1))) else r.set (k * 2 + 1) (.int .i64 (max s.lo (s.hi - 2)))
section
variable {oa wa da : Option Addr} {oc wc dc n1 n2 n3 : Nat}
theorem bendQn (f : FurrowD) (h1 : f.offs.length = n1) (h2 : f.wids.length = n2) (h3 : f.deps.length = n3) (w : World) (hm : Lens f) (hf : FurrowAt w f oa wa da) (hv : validB f = true) : Gives Try.prog 14 [.agg [.slice oa n1 oc, .slice wa n2 wc, .slice da n3 dc].toArray] w (.tuple #[spanV (bendT f.offs), .int .i64 0]) := by
  subst h1 h2 h3
  have h := bendQ f oa wa da oc wc dc w hm hf
  rw [show bendR f = (bendT f.offs, 0) by unfold bendR; rw [hv]; rfl] at h
  exact h
theorem worstQn (f : FurrowD) (h1 : f.offs.length = n1) (h2 : f.wids.length = n2) (h3 : f.deps.length = n3) (w : World) (hm : Lens f) (hf : FurrowAt w f oa wa da) (hv : validB f = true) : Gives Try.prog 20 [.agg [.slice oa n1 oc, .slice wa n2 wc, .slice da n3 dc].toArray] w (.tuple #[.int .i64 ((sureN f.offs : Nat) : Int), .int .i64 ((canN f.offs : Nat) : Int), .int .i64 0]) := by
  subst h1 h2 h3
  have h := worstQ f oa wa da oc wc dc w hm hf
  rw [show worstR f = (worstN f.offs (f.offs.length - 2), 0) by unfold worstR; rw [hv]; rfl] at h
  exact h
theorem soilQn (f : FurrowD) (h1 : f.offs.length = n1) (h2 : f.wids.length = n2) (h3 : f.deps.length = n3) (w : World) (hm : Lens f) (hf : FurrowAt w f oa wa da) (hv : validB f = true) : Gives Try.prog 27 [.agg [.slice oa n1 oc, .slice wa n2 wc, .slice da n3 dc].toArray] w (.tuple #[spanV (soilS f), .int .i64 0]) := by
  subst h1 h2 h3
  have h := soilQ f oa wa da oc wc dc w hm hf
  rw [show soilR f = (soilS f, 0) by unfold soilR; rw [hv]; rfl] at h
  exact h
theorem wrongQn (f : FurrowD) (h1 : f.offs.length = n1) (h2 : f.wids.length = n2) (h3 : f.deps.length = n3) (most : Int) (w : World) (hm : Lens f) (hf : FurrowAt w f oa wa da) {s e : Int} (hr : wrongR f most = (s, e)) : Gives Try.prog 23 [.agg [.slice oa n1 oc, .slice wa n2 wc, .slice da n3 dc].toArray, .int .i64 most] w (.tuple #[.int .i64 s, .int .i64 e]) := by
  subst h1 h2 h3
  have h := wrongQ f oa wa da oc wc dc most w hm hf
  rw [hr] at h
  exact h
end
def inSpB (a b : SpanD) : Bool := decide (b.lo ≤ a.lo) && decide (a.hi ≤ b.hi)
end Go.Proofs.Ytjdeplehhmhpcaa
