/- FurrowBends returns true, and leaves its arguments as they were, whatever furrow and number it is called with: Bend, At, Straightest and Worst return what the document's own functions do. No condition. -/
import Derived.Test.YtjdeplehhmhpcaaGC
import Derived.Test.YtjdeplehhmhpcaaHB
import Derived.Test.YtjdeplehhmhpcaaLaw
import Derived.Test.YtjdeplehhmhpcaaRows
namespace Go.Proofs.Ytjdeplehhmhpcaa.furrowBends
open Go.ChangeShapes Go.WideShapes Go.ChangeAt Go.RowKit Go.Joins Go.Deep

theorem own : ownKnob Try.prog.godebug = none := by kernel_rfl
theorem laidOut : laidOutB Try.prog = true := by kernel_rfl

set_option maxRecDepth 100000 in
theorem lifted (os : Os) (started : os.Started) (H : Type) (enc : TypeId × Value → H) :
    ReturnsInHanded {} Try.checked os 3 .any (Rows.furrowBendsSpec.pre6 enc Try.prog Try.f3 Rows.furrowBendsRow.domain false) (Rows.furrowBendsSpec.post enc Try.prog Try.f3 false true false false) := by
  refine returnsInHanded_of_change (C := Try.checked) own started (by kernel_rfl) Try.func3
    (ChangeSpec.witness6 (enc := enc) (C := Try.checked) false ⟨#[], #[.agg #[.slice none 0 0, .slice none 0 0, .slice none 0 0], .int .i64 0], []⟩ 8 (by kernel_rfl) (by kernel_rfl) (by kernel_rfl) (by kernel_rfl)) ?_
  intro W base args ds gs before hval0 hW _ _
  have hval : ∀ (j : Nat) t v, Try.f3.params[j]? = some t → args[j]? = some v → Value.okWide Try.prog W .any base t v := hval0
  have hW' := hW
  obtain ⟨q, r, hA0, hV, rfl, _, _⟩ := hW
  have hA : DataW.TrodAll enc Try.prog W 0 (fun _ => true) true Try.f3.params.toList args.toList ds q := hA0
  rw [Try.params3] at hA hval
  obtain ⟨v0, v1, d0, d1, p0, p1, rfl, rfl, rfl, h0, h1⟩ := trodAll_two hA
  obtain ⟨f, oa, wa, da, oc, wc, dc, rfl, hf, hbnd⟩ := open_furrow (hval 0 24 v0 rfl rfl) h0
  obtain ⟨st, rfl, rfl, rfl, _⟩ := open_int Try.underlying3 (hval 1 3 v1 rfl rfl) h1
  refine (furrowBends_any f oa wa da oc wc dc st W hbnd hf).out.calls.mono fun e W' ⟨he, hk⟩ => ?_
  subst he
  exact ⟨_, rfl, law_post (ts := [24, 3]) laidOut Try.underlying4 rfl (by rw [Try.params3]) (by intro t ht; simp at ht; rcases ht with rfl | rfl <;> exact ⟨by kernel_rfl, of_decide_eq_true (by kernel_rfl)⟩) rfl hW' (fun h => by subst h; rfl) hk⟩

theorem over : Rows.furrowBendsRow.holds Try.pinned (OpenSpec.ofChange Rows.furrowBendsSpec) :=
  OpenClaim.holds_of_wide 3 Try.f3 rfl rfl rfl rfl rfl rfl rfl ⟨rfl, rfl, rfl, rfl, rfl⟩ rfl rfl rfl rfl rfl (by kernel_rfl) Try.func3 (by kernel_rfl)
    (of_decide_eq_true (by kernel_rfl)) (by unfold Func.isWrapper; first | (rw [if_pos (by decide +kernel)]; kernel_rfl) | (rw [if_neg (by decide +kernel)]; exact ⟨rfl, rfl⟩))
    (fun os started H enc _ => lifted os started H enc)

theorem proved : Rows.FurrowBendsSaid := over
end Go.Proofs.Ytjdeplehhmhpcaa.furrowBends
