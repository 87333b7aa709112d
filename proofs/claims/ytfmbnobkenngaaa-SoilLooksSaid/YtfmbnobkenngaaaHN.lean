/- Soil: arguments as data: a slice of pits is no longer than its room. -/
import Derived.Test.YtfmbnobkenngaaaGX
namespace Go.Proofs.Ytfmbnobkenngaaa
open Go.ChangeShapes Go.WideShapes Go.ChangeAt Go.RowKit Go.Joins Go.Deep
section
variable {H : Type} {enc : TypeId × Value → H} {w : World} {base : Nat} {spare : Nat → Bool} {held : Bool}
set_option maxRecDepth 100000 in
theorem open_cap {r : Reach} {b0 : Nat} {v x0 x1 x2 : Value} {d : DataW H} {ps : List MemPlace} {pa : Option Addr} {k pc : Nat} (hv : Value.okWide Try.prog w r b0 24 v) (h : DataW.Trod enc Try.prog w base (fun _ => true) held 24 v d ps) (e : v = .agg #[x0, x1, x2, .slice pa k pc]) : k ≤ pc := by
  obtain ⟨v0, v1, v2, v3, y0, y1, y2, y3, n, e1, _, _, h0, h1, h2, h3⟩ := open_agg4 Try.underlying24 (by kernel_rfl) cellsOf24 hv (show DataW.Trod enc Try.prog w base (fun _ => true) held 24 v d ps from h)
  rw [e1] at e
  simp only [Value.agg.injEq, Array.mk.injEq, List.cons.injEq, and_true] at e
  obtain ⟨_, _, _, e4⟩ := e
  rcases open_slice Try.underlying22 h3 with ⟨q, _⟩ | ⟨a, len, cap, m, n', D, Pl, q, _, hle, _⟩
  · rw [e4] at q
    simp only [List.cons.injEq, and_true, Value.slice.injEq] at q
    omega
  · rw [e4] at q
    simp only [List.cons.injEq, and_true, Value.slice.injEq] at q
    omega
end
end Go.Proofs.Ytfmbnobkenngaaa
