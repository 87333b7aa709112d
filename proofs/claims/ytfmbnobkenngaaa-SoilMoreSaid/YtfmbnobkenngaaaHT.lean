/- Soil: arguments as data: a pit. -/
import Derived.Test.YtfmbnobkenngaaaGX
namespace Go.Proofs.Ytfmbnobkenngaaa
open Go.ChangeShapes Go.WideShapes Go.ChangeAt Go.RowKit Go.Joins Go.Deep
section
variable {H : Type} {enc : TypeId × Value → H} {w : World} {base : Nat} {spare : Nat → Bool} {held : Bool}
set_option maxRecDepth 100000 in
theorem open_pit {r : Reach} {b0 : Nat} {v : Value} {d : DataW H} {ps : List MemPlace} (hv : Value.okWide Try.prog w r b0 55 v) (h : DataW.Trod enc Try.prog w base spare held 55 v d ps) : ∃ p : PitD, v = .agg (pitC p).toArray := by
  obtain ⟨cs, rfl, hsz⟩ := okWide_struct Try.underlying55 hv
  obtain ⟨fuel, hf⟩ := h
  obtain ⟨p, hp⟩ := trod_pit hf
  refine ⟨p, ?_⟩
  have e : cs.toList = pitC p := hp
  rw [← e]
end
end Go.Proofs.Ytfmbnobkenngaaa
