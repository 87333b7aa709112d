/- SoilReads returns true, and leaves its arguments as they were, whatever ground and places it is called with: Hard, Parts, Class and Work return the document's own spans, classes and errors. No condition. -/
import Derived.Test.YtfmbnobkenngaaaII
import Derived.Test.YtfmbnobkenngaaaLaw
import Derived.Test.YtfmbnobkenngaaaRows
namespace Go.Proofs.Ytfmbnobkenngaaa.soilReads
open Go.ChangeShapes Go.WideShapes Go.ChangeAt Go.RowKit Go.Joins Go.Deep

theorem own : ownKnob Try.prog.godebug = none := by kernel_rfl
theorem laidOut : laidOutB Try.prog = true := by kernel_rfl

set_option maxRecDepth 100000 in
theorem lifted (os : Os) (started : os.Started) (H : Type) (enc : TypeId × Value → H) :
    ReturnsInHanded {} Try.checked os 3 .any (Rows.soilReadsSpec.pre6 enc Try.prog Try.f3 Rows.soilReadsRow.domain false) (Rows.soilReadsSpec.post enc Try.prog Try.f3 false true false false) := by
  refine returnsInHanded_of_change (C := Try.checked) own started (by kernel_rfl) Try.func3
    (ChangeSpec.witness6 (enc := enc) (C := Try.checked) false ⟨#[], #[.agg #[.int .i64 0, .int .i64 0, .int .i64 0, .slice none 0 0], .int .i64 0, .int .i64 0], []⟩ 8 (by kernel_rfl) (by kernel_rfl) (by kernel_rfl) (by kernel_rfl)) ?_
  intro W base args ds gs before hval0 hW _ _
  have hval : ∀ (j : Nat) t v, Try.f3.params[j]? = some t → args[j]? = some v → Value.okWide Try.prog W .any base t v := hval0
  have hW' := hW
  obtain ⟨q, r, hA0, hV, rfl, _, _⟩ := hW
  have hA : DataW.TrodAll enc Try.prog W 0 (fun _ => true) true Try.f3.params.toList args.toList ds q := hA0
  rw [Try.params3] at hA hval
  obtain ⟨v0, v1, v2, d0, d1, d2, p0, p1, p2, rfl, rfl, rfl, h0, h1, h2⟩ := trodAll_three hA
  obtain ⟨g, pa, pc, rfl, hp, _⟩ := open_ground (hval 0 24 v0 rfl rfl) h0
  obtain ⟨x, rfl, e2, e3, _⟩ := open_int Try.underlying3 (hval 1 3 v1 rfl rfl) h1
  obtain ⟨y, rfl, e4, e5, _⟩ := open_int Try.underlying3 (hval 2 3 v2 rfl rfl) h2
  refine (soilReads_any g x y pa pc W hp).out.calls.mono fun e W' ⟨he, hk⟩ => ?_
  subst he
  exact ⟨_, rfl, law_post (ts := [24, 3, 3]) laidOut Try.underlying4 rfl (by rw [Try.params3]) (by intro t ht; simp at ht; rcases ht with rfl | rfl <;> exact ⟨by kernel_rfl, of_decide_eq_true (by kernel_rfl)⟩) rfl hW' (fun h => by subst h; rfl) hk⟩

theorem over : Rows.soilReadsRow.holds Try.pinned (OpenSpec.ofChange Rows.soilReadsSpec) :=
  OpenClaim.holds_of_wide 3 Try.f3 rfl rfl rfl rfl rfl rfl rfl ⟨rfl, rfl, rfl, rfl, rfl⟩ rfl rfl rfl rfl rfl (by kernel_rfl) Try.func3 (by kernel_rfl)
    (of_decide_eq_true (by kernel_rfl)) (by unfold Func.isWrapper; first | (rw [if_pos (by decide +kernel)]; kernel_rfl) | (rw [if_neg (by decide +kernel)]; exact ⟨rfl, rfl⟩))
    (fun os started H enc _ => lifted os started H enc)

theorem proved : Rows.SoilReadsSaid := over
end Go.Proofs.Ytfmbnobkenngaaa.soilReads
