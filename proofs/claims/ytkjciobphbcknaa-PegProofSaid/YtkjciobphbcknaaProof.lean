/- PegProof returns true, and leaves its arguments as they were, whatever pegs, numbers and bits it is called with: the lengths that prove that a peg was moved do, each of them is needed, no fewer do, and two pegs are not both proved to have been moved if there is a truth. No condition. -/
import Derived.Test.YtkjciobphbcknaaPD
import Derived.Test.YtkjciobphbcknaaOpen
namespace Go.Proofs.Ytkjciobphbcknaa.pegProof
open Go.ChangeShapes Go.WideShapes Go.ChangeAt Go.RowKit

section
variable (p : PegsD) (n b : Int) (x : Nat) (pa la : Option Addr) (pc lc : Nat) (w : World) (hm : p.ps.length ≤ 9223372036854775807) (hm2 : p.ls.length ≤ 9223372036854775807) (hp : PegsIn w p pa la)
set_option maxRecDepth 100000 in
set_option maxHeartbeats 2000000 in
include hm hm2 hp in
theorem heavy (hh : heavyB p 3 9 = true) :
    Calls Try.prog 7 #[.agg #[.int .i64 p.side, .slice pa p.ps.length pc, .slice la p.ls.length lc], .int .i64 n, .int .i64 b, .int .u8 x] w fun e w' => e = .returned (.bool true) ∧ Kept w w' := by
  have HP := Lib.hid hp
  have HH := Lib.hid hh
  clear hp hh
  go_enter Try.func7, Try.ntmps7
  go_wp2_with (first
    | (go_at_call 11; refine (heavy_any p _ _ _ _ _ _ _ hm hm2 (HP.out.kept ((Kept.refl _).alloc _))).mono ?_; rintro e f1 ⟨rfl, k1⟩; have kk1 := Kept.step1 (Kept.refl w) k1; have B1 := (pbox_new w _ _ _ _).kept k1; obtain ⟨l1, a10, a11, a12, z10, z11, z12⟩ := id B1; rw [HH.out])
    | (go_at_call 12; refine (alive_any _).mono ?_; rintro e wa ⟨rfl, ka⟩))
  go_ret
  exact ⟨rfl, kk1.step0 ka⟩
set_option maxRecDepth 100000 in
set_option maxHeartbeats 4000000 in
include hm hm2 hp in
theorem notValid (hh : heavyB p 3 9 = false) (hv : validB p = false) :
    Calls Try.prog 7 #[.agg #[.int .i64 p.side, .slice pa p.ps.length pc, .slice la p.ls.length lc], .int .i64 n, .int .i64 b, .int .u8 x] w fun e w' => e = .returned (.bool true) ∧ Kept w w' := by
  have HP := Lib.hid hp
  have HH := Lib.hid hh
  have HV := Lib.hid hv
  have HN : Hid (∀ w', PegsIn w' p pa la → Calls Try.prog 25 #[.agg #[.int .i64 p.side, .slice pa p.ps.length pc, .slice la p.ls.length lc], .int .i64 n] w' fun e w'' => e = .returned (.tuple #[.int .i64 0, .int .i64 1]) ∧ Kept w' w'') := fun w' h' => by
    have h := proof_any p n pa la pc lc w' hm hm2 h'
    have e : proofR p n = .error 1 := by rw [proofR, checkR, if_pos hv]
    rw [e] at h
    exact h
  clear hp hh hv
  go_enter Try.func7, Try.ntmps7
  go_wp2_with (first
    | (go_at_call 11; refine (heavy_any p _ _ _ _ _ _ _ hm hm2 (HP.out.kept ((Kept.refl _).alloc _))).mono ?_; rintro e f1 ⟨rfl, k1⟩; have kk1 := Kept.step1 (Kept.refl w) k1; have B1 := (pbox_new w _ _ _ _).kept k1; obtain ⟨l1, a10, a11, a12, z10, z11, z12⟩ := id B1; rw [HH.out])
    | (go_at_call 25; refine (HN.out _ (HP.out.kept kk1)).mono ?_; rintro e f2 ⟨rfl, k2⟩; have kk2 := kk1.step0 k2; have B2 := B1.kept k2; obtain ⟨l2, a20, a21, a22, z20, z21, z22⟩ := id B2)
    | (go_at_call 35; have kq := kk3; refine (rvalid_any p _ _ _ _ _ hm hm2 (HP.out.kept kk3)).mono ?_; rintro e f4 ⟨rfl, k4⟩; have kk4 := kk3.step0 k4; rw [HV.out])
    | (go_at_call 35; refine (rvalid_any p _ _ _ _ _ hm hm2 (HP.out.kept kk2)).mono ?_; rintro e f3 ⟨rfl, k3⟩; have kk3 := kk2.step0 k3; have B3 := B2.kept k3; obtain ⟨l3, a30, a31, a32, z30, z31, z32⟩ := id B3; rw [HV.out])
    | (go_at_call 12; refine (alive_any _).mono ?_; rintro e wa ⟨rfl, ka⟩))
  go_ret
  exact ⟨rfl, kk4.step0 ka⟩
set_option maxRecDepth 100000 in
set_option maxHeartbeats 4000000 in
include hm hm2 hp in
theorem noPeg (hh : heavyB p 3 9 = false) (hv : validB p = true) (hn : isPegB p.ps.length n = false) :
    Calls Try.prog 7 #[.agg #[.int .i64 p.side, .slice pa p.ps.length pc, .slice la p.ls.length lc], .int .i64 n, .int .i64 b, .int .u8 x] w fun e w' => e = .returned (.bool true) ∧ Kept w w' := by
  have HP := Lib.hid hp
  have HH := Lib.hid hh
  have HV := Lib.hid hv
  have HI := Lib.hid hn
  have HN : Hid (∀ w', PegsIn w' p pa la → Calls Try.prog 25 #[.agg #[.int .i64 p.side, .slice pa p.ps.length pc, .slice la p.ls.length lc], .int .i64 n] w' fun e w'' => e = .returned (.tuple #[.int .i64 0, .int .i64 2]) ∧ Kept w' w'') := fun w' h' => by
    have h := proof_any p n pa la pc lc w' hm hm2 h'
    have e : proofR p n = .error 2 := by rw [proofR, checkR, if_neg (by simp [hv]), if_pos (by simp [hn])]
    rw [e] at h
    exact h
  clear hp hh hv hn
  go_enter Try.func7, Try.ntmps7
  go_wp2_with (first
    | (go_at_call 11; refine (heavy_any p _ _ _ _ _ _ _ hm hm2 (HP.out.kept ((Kept.refl _).alloc _))).mono ?_; rintro e f1 ⟨rfl, k1⟩; have kk1 := Kept.step1 (Kept.refl w) k1; have B1 := (pbox_new w _ _ _ _).kept k1; obtain ⟨l1, a10, a11, a12, z10, z11, z12⟩ := id B1; rw [HH.out])
    | (go_at_call 25; refine (HN.out _ (HP.out.kept kk1)).mono ?_; rintro e f2 ⟨rfl, k2⟩; have kk2 := kk1.step0 k2; have B2 := B1.kept k2; obtain ⟨l2, a20, a21, a22, z20, z21, z22⟩ := id B2)
    | (go_at_call 35; have kq := kk5; refine (rvalid_any p _ _ _ _ _ hm hm2 (HP.out.kept kk5)).mono ?_; rintro e f4 ⟨rfl, k4⟩; have kk4 := kk5.step0 k4; rw [HV.out])
    | (go_at_call 35; refine (rvalid_any p _ _ _ _ _ hm hm2 (HP.out.kept kk2)).mono ?_; rintro e f3 ⟨rfl, k3⟩; have kk3 := kk2.step0 k3; have B3 := B2.kept k3; obtain ⟨l3, a30, a31, a32, z30, z31, z32⟩ := id B3; rw [HV.out])
    | (go_at_call 36; refine (rPeg_any _ _ _ _ _ _ _ _ _ hm).mono ?_; rintro e f5 ⟨rfl, k5⟩; have kk5 := kk3.step0 k5; have B5 := B3.kept k5; obtain ⟨l5, a50, a51, a52, z50, z51, z52⟩ := id B5; rw [HI.out])
    | (go_at_call 12; refine (alive_any _).mono ?_; rintro e wa ⟨rfl, ka⟩))
  go_ret
  exact ⟨rfl, kk4.step0 ka⟩
include hm hm2 hp in
theorem walk (hx : x < 256) :
    Calls Try.prog 7 #[.agg #[.int .i64 p.side, .slice pa p.ps.length pc, .slice la p.ls.length lc], .int .i64 n, .int .i64 b, .int .u8 x] w fun e w' => e = .returned (.bool true) ∧ Kept w w' := by
  cases hh : heavyB p 3 9 with
  | true => exact heavy p n b x pa la pc lc w hm hm2 hp hh
  | false =>
    cases hv : validB p with
    | false => exact notValid p n b x pa la pc lc w hm hm2 hp hh hv
    | true =>
      cases hn : isPegB p.ps.length n with
      | false => exact noPeg p n b x pa la pc lc w hm hm2 hp hh hv hn
      | true =>
        simp only [isPegB, Bool.and_eq_true, decide_eq_true_eq] at hn
        obtain ⟨k, rfl⟩ := Int.eq_ofNat_of_zero_le hn.1
        have hk : k < p.ps.length := by omega
        rcases proofR_first hv hk with ⟨h1, h2⟩ | ⟨s, h1, h2, h3, h4, h5⟩
        · exact pegProof_none p k b x pa la pc lc w hp hv hk hh hx h1 h2
        · exact pegProof_some p k b x s pa la pc lc w hp hv hk hh hx h1 h2 h3 h4 h5
end

theorem own : ownKnob Try.prog.godebug = none := by kernel_rfl
theorem laidOut : laidOutB Try.prog = true := by kernel_rfl

set_option maxRecDepth 100000 in
theorem lifted (os : Os) (started : os.Started) (H : Type) (enc : TypeId × Value → H) :
    ReturnsInHanded {} Try.checked os 7 .any (Rows.pegProofSpec.pre6 enc Try.prog Try.f7 Rows.pegProofRow.domain false) (Rows.pegProofSpec.post enc Try.prog Try.f7 false true false false) := by
  refine returnsInHanded_of_change (C := Try.checked) own started (by kernel_rfl) Try.func7
    (ChangeSpec.witness6 (enc := enc) (C := Try.checked) false ⟨#[], #[.agg #[.int .i64 0, .slice none 0 0, .slice none 0 0], .int .i64 0, .int .i64 0, .int .u8 0], []⟩ 8 (by kernel_rfl) (by kernel_rfl) (by kernel_rfl) (by kernel_rfl)) ?_
  intro W base args ds gs before hval0 hW _ _
  have hval : ∀ (j : Nat) t v, Try.f7.params[j]? = some t → args[j]? = some v → Value.okWide Try.prog W .any base t v := hval0
  have hW' := hW
  obtain ⟨q, r, hA0, hV, rfl, _, _⟩ := hW
  have hA : DataW.TrodAll enc Try.prog W 0 (fun _ => true) true Try.f7.params.toList args.toList ds q := hA0
  rw [Try.params7] at hA hval
  obtain ⟨v0, v1, v2, v3, d0, d1, d2, d3, p0, p1, p2, p3, rfl, rfl, rfl, h0, h1, h2, h3⟩ := trodAll_four hA
  obtain ⟨p, pa, la, pc, lc, rfl, hp, hm, hm2⟩ := open_pegs (hval 0 25 v0 rfl rfl) h0
  obtain ⟨n, rfl, rfl, rfl, _⟩ := open_int Try.underlying3 (hval 1 3 v1 rfl rfl) h1
  obtain ⟨b, rfl, rfl, rfl, _⟩ := open_int Try.underlying3 (hval 2 3 v2 rfl rfl) h2
  obtain ⟨x, rfl, rfl, rfl, hwf⟩ := open_int Try.underlying5 (hval 3 5 v3 rfl rfl) h3
  have hx : 0 ≤ x ∧ x < 256 := by simp [Lit.wf, IntKind.min, IntKind.max, IntKind.signed, IntKind.bits] at hwf; omega
  obtain ⟨x, rfl⟩ := Int.eq_ofNat_of_zero_le hx.1
  refine (walk p n b x pa la pc lc W hm hm2 hp (by omega)).mono fun e W' ⟨he, hk⟩ => ?_
  subst he
  exact ⟨_, rfl, law_post (ts := [25, 3, 3, 5]) laidOut Try.underlying4 rfl (by rw [Try.params7]) (by intro t ht; simp at ht; rcases ht with rfl | rfl | rfl <;> exact ⟨by kernel_rfl, of_decide_eq_true (by kernel_rfl)⟩) rfl hW' (fun h => by subst h; rfl) hk⟩

theorem over : Rows.pegProofRow.holds Try.pinned (OpenSpec.ofChange Rows.pegProofSpec) :=
  OpenClaim.holds_of_wide 7 Try.f7 rfl rfl rfl rfl rfl rfl rfl ⟨rfl, rfl, rfl, rfl, rfl⟩ rfl rfl rfl rfl rfl (by kernel_rfl) Try.func7 (by kernel_rfl)
    (of_decide_eq_true (by kernel_rfl)) (by unfold Func.isWrapper; first | (rw [if_pos (by decide +kernel)]; kernel_rfl) | (rw [if_neg (by decide +kernel)]; exact ⟨rfl, rfl⟩))
    (fun os started H enc _ => lifted os started H enc)

theorem proved : Rows.PegProofSaid := over
end Go.Proofs.Ytkjciobphbcknaa.pegProof
