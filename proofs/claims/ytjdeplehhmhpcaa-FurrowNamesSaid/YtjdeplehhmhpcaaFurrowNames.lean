/- FurrowNames returns true, whatever the world in which it is called: errors and limits have the document's values, and the chapter's examples hold. No condition. -/
import Derived.Test.YtjdeplehhmhpcaaGA
import Derived.Test.YtjdeplehhmhpcaaLaw
import Derived.Test.YtjdeplehhmhpcaaRows
namespace Go.Proofs.Ytjdeplehhmhpcaa.furrowNames
open Go.ChangeShapes Go.WideShapes Go.ChangeAt Go.RowKit

theorem own : ownKnob Try.prog.godebug = none := by kernel_rfl
theorem laidOut : laidOutB Try.prog = true := by kernel_rfl

set_option maxRecDepth 100000 in
theorem lifted (os : Os) (started : os.Started) (H : Type) (enc : TypeId × Value → H) :
    ReturnsInHanded {} Try.checked os 5 .any (Rows.furrowNamesSpec.pre6 enc Try.prog Try.f5 Rows.furrowNamesRow.domain false) (Rows.furrowNamesSpec.post enc Try.prog Try.f5 false true false false) := by
  refine returnsInHanded_of_change (C := Try.checked) own started (by kernel_rfl) Try.func5
    (ChangeSpec.witness6 (enc := enc) (C := Try.checked) false ⟨#[], #[], []⟩ 8 (by kernel_rfl) (by kernel_rfl) (by kernel_rfl) (by kernel_rfl)) ?_
  intro W base args ds gs before _ hW _ _
  have hW' := hW
  obtain ⟨p, q, hA0, hV, rfl, _, _⟩ := hW
  have hA : DataW.TrodAll enc Try.prog W 0 (fun _ => true) true Try.f5.params.toList args.toList ds p := hA0
  rw [Try.params5] at hA
  obtain ⟨rfl, rfl, rfl⟩ := trodAll_none hA
  refine ((furrowNames_any W).out.calls).mono fun e W' ⟨he, hk⟩ => ?_
  subst he
  exact ⟨_, rfl, law_post (ts := []) laidOut Try.underlying4 rfl (by rw [Try.params5]) (by simp) rfl hW' (fun h => by subst h; rfl) hk⟩

theorem over : Rows.furrowNamesRow.holds Try.pinned (OpenSpec.ofChange Rows.furrowNamesSpec) :=
  OpenClaim.holds_of_wide 5 Try.f5 rfl rfl rfl rfl rfl rfl rfl ⟨rfl, rfl, rfl, rfl, rfl⟩ rfl rfl rfl rfl rfl (by kernel_rfl) Try.func5 (by kernel_rfl)
    (of_decide_eq_true (by kernel_rfl)) (by unfold Func.isWrapper; first | (rw [if_pos (by decide +kernel)]; kernel_rfl) | (rw [if_neg (by decide +kernel)]; exact ⟨rfl, rfl⟩))
    (fun os started H enc _ => lifted os started H enc)

theorem proved : Rows.FurrowNamesSaid := over
end Go.Proofs.Ytjdeplehhmhpcaa.furrowNames
