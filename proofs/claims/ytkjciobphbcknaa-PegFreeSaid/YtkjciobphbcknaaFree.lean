/- PegFree returns true, and leaves its arguments as they were, whatever pegs and number it is called with: without lengths each peg can have been moved that has somewhere to go, or none; it has every place of the field, and nobody is proved to have been moved. No condition. -/
import Derived.Test.YtkjciobphbcknaaFA
import Derived.Test.YtkjciobphbcknaaOpen
namespace Go.Proofs.Ytkjciobphbcknaa.pegFree
open Go.ChangeShapes Go.WideShapes Go.ChangeAt Go.RowKit

section
variable (p : PegsD) (n : Int) (pa la : Option Addr) (pc lc : Nat) (w : World) (hm : p.ps.length ≤ 9223372036854775807) (hm2 : p.ls.length ≤ 9223372036854775807) (hp : PegsIn w p pa la)
set_option maxHeartbeats 2000000 in
include hm hm2 hp in
theorem heavy (hh : heavyB p 4 15 = true) :
    Calls Try.prog 10 #[.agg #[.int .i64 p.side, .slice pa p.ps.length pc, .slice la p.ls.length lc], .int .i64 n] w fun e w' => e = .returned (.bool true) ∧ Kept w w' := by
  have HP := Lib.hid hp
  have HH := Lib.hid hh
  clear hp hh
  go_enter Try.func10, Try.ntmps10
  go_wp2_with (first
    | (go_at_call 11; refine (heavy_any p _ _ _ _ _ _ _ hm hm2 (HP.out.kept ((Kept.refl _).alloc _))).mono ?_; rintro e f1 ⟨rfl, k1⟩; have kk1 := Kept.step1 (Kept.refl w) k1; have B1 := (pbox_new w _ _ _ _).kept k1; obtain ⟨l1, a10, a11, a12, z10, z11, z12⟩ := id B1; rw [HH.out])
    | (go_at_call 12; refine (alive_any _).mono ?_; rintro e wa ⟨rfl, ka⟩))
  go_ret
  exact ⟨rfl, kk1.step0 ka⟩
set_option maxHeartbeats 2000000 in
include hm hm2 hp in
theorem notValid (hh : heavyB p 4 15 = false) (hv : validB p = false) :
    Calls Try.prog 10 #[.agg #[.int .i64 p.side, .slice pa p.ps.length pc, .slice la p.ls.length lc], .int .i64 n] w fun e w' => e = .returned (.bool true) ∧ Kept w w' := by
  have HP := Lib.hid hp
  have HH := Lib.hid hh
  have HV := Lib.hid hv
  clear hp hh hv
  go_enter Try.func10, Try.ntmps10
  go_wp2_with (first
    | (go_at_call 11; refine (heavy_any p _ _ _ _ _ _ _ hm hm2 (HP.out.kept ((Kept.refl _).alloc _))).mono ?_; rintro e f1 ⟨rfl, k1⟩; have kk1 := Kept.step1 (Kept.refl w) k1; have B1 := (pbox_new w _ _ _ _).kept k1; obtain ⟨l1, a10, a11, a12, z10, z11, z12⟩ := id B1; rw [HH.out])
    | (go_at_call 35; refine (rvalid_any p _ _ _ _ _ hm hm2 (HP.out.kept kk1)).mono ?_; rintro e f2 ⟨rfl, k2⟩; have kk2 := kk1.step0 k2; have B2 := B1.kept k2; obtain ⟨l2, a20, a21, a22, z20, z21, z22⟩ := id B2; rw [HV.out])
    | (go_at_call 12; refine (alive_any _).mono ?_; rintro e wa ⟨rfl, ka⟩))
  go_ret
  exact ⟨rfl, kk2.step0 ka⟩
set_option maxHeartbeats 2000000 in
include hm hm2 hp in
theorem noPeg (hh : heavyB p 4 15 = false) (hv : validB p = true) (hn : isPegB p.ps.length n = false) :
    Calls Try.prog 10 #[.agg #[.int .i64 p.side, .slice pa p.ps.length pc, .slice la p.ls.length lc], .int .i64 n] w fun e w' => e = .returned (.bool true) ∧ Kept w w' := by
  have HP := Lib.hid hp
  have HH := Lib.hid hh
  have HV := Lib.hid hv
  have HI := Lib.hid hn
  clear hp hh hv hn
  go_enter Try.func10, Try.ntmps10
  go_wp2_with (first
    | (go_at_call 11; refine (heavy_any p _ _ _ _ _ _ _ hm hm2 (HP.out.kept ((Kept.refl _).alloc _))).mono ?_; rintro e f1 ⟨rfl, k1⟩; have kk1 := Kept.step1 (Kept.refl w) k1; have B1 := (pbox_new w _ _ _ _).kept k1; obtain ⟨l1, a10, a11, a12, z10, z11, z12⟩ := id B1; rw [HH.out])
    | (go_at_call 35; refine (rvalid_any p _ _ _ _ _ hm hm2 (HP.out.kept kk1)).mono ?_; rintro e f2 ⟨rfl, k2⟩; have kk2 := kk1.step0 k2; have B2 := B1.kept k2; obtain ⟨l2, a20, a21, a22, z20, z21, z22⟩ := id B2; rw [HV.out])
    | (go_at_call 36; refine (rPeg_any _ _ _ _ _ _ _ _ _ hm).mono ?_; rintro e f3 ⟨rfl, k3⟩; have kk3 := kk2.step0 k3; have B3 := B2.kept k3; obtain ⟨l3, a30, a31, a32, z30, z31, z32⟩ := id B3; rw [HI.out])
    | (go_at_call 12; refine (alive_any _).mono ?_; rintro e wa ⟨rfl, ka⟩))
  go_ret
  exact ⟨rfl, kk3.step0 ka⟩
set_option maxHeartbeats 2000000 in
include hm hm2 hp in
theorem large (hh : heavyB p 4 15 = false) (hv : validB p = true) (hn : isPegB p.ps.length n = true) (hd : ¬ (p.ps.length ≤ 3 ∨ p.side ≤ 9)) :
    Calls Try.prog 10 #[.agg #[.int .i64 p.side, .slice pa p.ps.length pc, .slice la p.ls.length lc], .int .i64 n] w fun e w' => e = .returned (.bool true) ∧ Kept w w' := by
  have HP := Lib.hid hp
  have HH := Lib.hid hh
  have HV := Lib.hid hv
  have HI := Lib.hid hn
  have g1 : decide ((3 : Int) < (p.ps.length : Int)) = true := by simp; omega
  have g2 : decide (9 < p.side) = true := by simp; omega
  clear hp hh hv hn hd
  go_enter Try.func10, Try.ntmps10
  go_wp2_with (first
    | (go_at_call 11; refine (heavy_any p _ _ _ _ _ _ _ hm hm2 (HP.out.kept ((Kept.refl _).alloc _))).mono ?_; rintro e f1 ⟨rfl, k1⟩; have kk1 := Kept.step1 (Kept.refl w) k1; have B1 := (pbox_new w _ _ _ _).kept k1; obtain ⟨l1, a10, a11, a12, z10, z11, z12⟩ := id B1; rw [HH.out])
    | (go_at_call 35; refine (rvalid_any p _ _ _ _ _ hm hm2 (HP.out.kept kk1)).mono ?_; rintro e f2 ⟨rfl, k2⟩; have kk2 := kk1.step0 k2; have B2 := B1.kept k2; obtain ⟨l2, a20, a21, a22, z20, z21, z22⟩ := id B2; rw [HV.out])
    | (go_at_call 36; refine (rPeg_any _ _ _ _ _ _ _ _ _ hm).mono ?_; rintro e f3 ⟨rfl, k3⟩; have kk3 := kk2.step0 k3; have B3 := B2.kept k3; obtain ⟨l3, a30, a31, a32, z30, z31, z32⟩ := id B3; rw [HI.out])
    | (go_at_call 12; refine (alive_any _).mono ?_; rintro e wa ⟨rfl, ka⟩))
  go_ret
  exact ⟨rfl, kk3.step0 ka⟩
include hm hm2 hp in
theorem walk :
    Calls Try.prog 10 #[.agg #[.int .i64 p.side, .slice pa p.ps.length pc, .slice la p.ls.length lc], .int .i64 n] w fun e w' => e = .returned (.bool true) ∧ Kept w w' := by
  cases hh : heavyB p 4 15 with
  | true => exact heavy p n pa la pc lc w hm hm2 hp hh
  | false =>
    cases hv : validB p with
    | false => exact notValid p n pa la pc lc w hm hm2 hp hh hv
    | true =>
      cases hn : isPegB p.ps.length n with
      | false => exact noPeg p n pa la pc lc w hm hm2 hp hh hv hn
      | true =>
        by_cases hd : p.ps.length ≤ 3 ∨ p.side ≤ 9
        · simp only [isPegB, Bool.and_eq_true, decide_eq_true_eq] at hn
          obtain ⟨k, rfl⟩ := Int.eq_ofNat_of_zero_le hn.1
          exact pegFree_main p k pa la pc lc w hp hv (by omega) hh hd
        · exact large p n pa la pc lc w hm hm2 hp hh hv hn hd
end

theorem own : ownKnob Try.prog.godebug = none := by kernel_rfl
theorem laidOut : laidOutB Try.prog = true := by kernel_rfl

set_option maxRecDepth 100000 in
theorem lifted (os : Os) (started : os.Started) (H : Type) (enc : TypeId × Value → H) :
    ReturnsInHanded {} Try.checked os 10 .any (Rows.pegFreeSpec.pre6 enc Try.prog Try.f10 Rows.pegFreeRow.domain false) (Rows.pegFreeSpec.post enc Try.prog Try.f10 false true false false) := by
  refine returnsInHanded_of_change (C := Try.checked) own started (by kernel_rfl) Try.func10
    (ChangeSpec.witness6 (enc := enc) (C := Try.checked) false ⟨#[], #[.agg #[.int .i64 0, .slice none 0 0, .slice none 0 0], .int .i64 0], []⟩ 8 (by kernel_rfl) (by kernel_rfl) (by kernel_rfl) (by kernel_rfl)) ?_
  intro W base args ds gs before hval0 hW _ _
  have hval : ∀ (j : Nat) t v, Try.f10.params[j]? = some t → args[j]? = some v → Value.okWide Try.prog W .any base t v := hval0
  have hW' := hW
  obtain ⟨q, r, hA0, hV, rfl, _, _⟩ := hW
  have hA : DataW.TrodAll enc Try.prog W 0 (fun _ => true) true Try.f10.params.toList args.toList ds q := hA0
  rw [Try.params10] at hA hval
  obtain ⟨v0, v1, d0, d1, p0, p1, rfl, rfl, rfl, h0, h1⟩ := trodAll_two hA
  obtain ⟨p, pa, la, pc, lc, rfl, hp, hm, hm2⟩ := open_pegs (hval 0 25 v0 rfl rfl) h0
  obtain ⟨n, rfl, rfl, rfl, _⟩ := open_int Try.underlying3 (hval 1 3 v1 rfl rfl) h1
  refine (walk p n pa la pc lc W hm hm2 hp).mono fun e W' ⟨he, hk⟩ => ?_
  subst he
  exact ⟨_, rfl, law_post (ts := [25, 3]) laidOut Try.underlying4 rfl (by rw [Try.params10]) (by intro t ht; simp at ht; rcases ht with rfl | rfl <;> exact ⟨by kernel_rfl, of_decide_eq_true (by kernel_rfl)⟩) rfl hW' (fun h => by subst h; rfl) hk⟩

theorem over : Rows.pegFreeRow.holds Try.pinned (OpenSpec.ofChange Rows.pegFreeSpec) :=
  OpenClaim.holds_of_wide 10 Try.f10 rfl rfl rfl rfl rfl rfl rfl ⟨rfl, rfl, rfl, rfl, rfl⟩ rfl rfl rfl rfl rfl (by kernel_rfl) Try.func10 (by kernel_rfl)
    (of_decide_eq_true (by kernel_rfl)) (by unfold Func.isWrapper; first | (rw [if_pos (by decide +kernel)]; kernel_rfl) | (rw [if_neg (by decide +kernel)]; exact ⟨rfl, rfl⟩))
    (fun os started H enc _ => lifted os started H enc)

theorem proved : Rows.PegFreeSaid := over
end Go.Proofs.Ytkjciobphbcknaa.pegFree
