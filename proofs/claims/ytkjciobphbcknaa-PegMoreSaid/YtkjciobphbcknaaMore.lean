/- PegMore returns true, and leaves its arguments as they were, whatever pegs, length, numbers and bits it is called with: with a length more, or a narrower length or post, nothing is told less exactly, unless there is no truth then. No condition. -/
import Derived.Test.YtkjciobphbcknaaMA
import Derived.Test.YtkjciobphbcknaaOpen
import Derived.Carry
namespace Go.Proofs.Ytkjciobphbcknaa.pegMore
open Go.ChangeShapes Go.WideShapes Go.ChangeAt Go.RowKit Go.Joins Go.Deep
set_option maxRecDepth 100000 in
theorem open_len {H : Type} {enc : TypeId × Value → H} {w : World} {base : Nat} {spare : Nat → Bool} {held : Bool} {r : Reach} {b0 : Nat} {v : Value} {d : DataW H} {ps : List MemPlace} (hv : Value.okWide Try.prog w r b0 65 v) (h : DataW.Trod enc Try.prog w base spare held 65 v d ps) :
    ∃ l : Len, v = .agg #[.int .i64 l.a, .int .i64 l.b, .int .i64 l.lo, .int .i64 l.hi] := by
  obtain ⟨cs, rfl, hsz⟩ := okWide_struct Try.underlying65 hv
  obtain ⟨fuel, hf⟩ := h
  obtain ⟨a, b, c, e, hc⟩ := trod_len hf
  refine ⟨⟨a, b, c, e⟩, ?_⟩
  simp only [Value.cells] at hc
  have : cs = #[.int .i64 a, .int .i64 b, .int .i64 c, .int .i64 e] := by
    cases cs; simp at hc; rw [hc]
  rw [this]
theorem trodAll_six {H : Type} {enc : TypeId × Value → H} {P : Program} {w : World} {base : Nat} {spare : Nat → Bool} {held : Bool} {t0 t1 t2 t3 t4 t5 : TypeId} {args : Array Value} {ds : List (DataW H)} {ps : List MemPlace} (h : DataW.TrodAll enc P w base spare held [t0, t1, t2, t3, t4, t5] args.toList ds ps) :
    ∃ v0 v1 v2 v3 v4 v5 d0 d1 d2 d3 d4 d5 p0 p1 p2 p3 p4 p5, args = #[v0, v1, v2, v3, v4, v5] ∧ ds = [d0, d1, d2, d3, d4, d5] ∧ ps = p0 ++ (p1 ++ (p2 ++ (p3 ++ (p4 ++ p5)))) ∧ DataW.Trod enc P w base spare held t0 v0 d0 p0 ∧ DataW.Trod enc P w base spare held t1 v1 d1 p1 ∧ DataW.Trod enc P w base spare held t2 v2 d2 p2 ∧
      DataW.Trod enc P w base spare held t3 v3 d3 p3 ∧ DataW.Trod enc P w base spare held t4 v4 d4 p4 ∧ DataW.Trod enc P w base spare held t5 v5 d5 p5 := by
  obtain ⟨v0, vs, d0, ds0, p0, q0, hargs, rfl, rfl, h0, r0⟩ := trodAll_cons h
  obtain ⟨v1, vs1, d1, ds1, p1, q1, rfl, rfl, rfl, h1, r1⟩ := trodAll_cons r0
  obtain ⟨v2, vs2, d2, ds2, p2, q2, rfl, rfl, rfl, h2, r2⟩ := trodAll_cons r1
  obtain ⟨v3, vs3, d3, ds3, p3, q3, rfl, rfl, rfl, h3, r3⟩ := trodAll_cons r2
  obtain ⟨v4, vs4, d4, ds4, p4, q4, rfl, rfl, rfl, h4, r4⟩ := trodAll_cons r3
  obtain ⟨v5, vs5, d5, ds5, p5, q5, rfl, rfl, rfl, h5, r5⟩ := trodAll_cons r4
  obtain ⟨rfl, rfl, rfl⟩ := trodAll_nil r5
  exact ⟨v0, v1, v2, v3, v4, v5, d0, d1, d2, d3, d4, d5, p0, p1, p2, p3, p4, p5, by cases args; simp_all, rfl, by simp, h0, h1, h2, h3, h4, h5⟩
section
variable (p : PegsD) (l : Len) (i j k : Int) (x : Nat) (pa la : Option Addr) (pc lc : Nat) (w : World) (hm : p.ps.length ≤ 9223372036854775807) (hm2 : p.ls.length ≤ 9223372036854775807) (hp : PegsIn w p pa la)
set_option maxRecDepth 100000 in
set_option maxHeartbeats 4000000 in
include hm hm2 hp in
theorem heavy (hh : heavyB p 3 8 = true) :
    Calls Try.prog 8 #[.agg #[.int .i64 p.side, .slice pa p.ps.length pc, .slice la p.ls.length lc], .agg #[.int .i64 l.a, .int .i64 l.b, .int .i64 l.lo, .int .i64 l.hi], .int .i64 i, .int .i64 j, .int .i64 k, .int .u8 x] w fun e w' => e = .returned (.bool true) ∧ Kept w w' := by
  have HP := Lib.hid hp
  have HH := Lib.hid hh
  clear hp hh
  go_enter Try.func8, Try.ntmps8
  go_wp2_with (first
    | (go_at_call 11; refine (heavy_any p _ _ _ _ _ _ _ hm hm2 (HP.out.kept (((Kept.refl _).alloc _).alloc _))).mono ?_; rintro e f1 ⟨rfl, k1⟩; have kk1 := Kept.step2 (Kept.refl w) k1; have B1 := ((pbox_new w _ _ _ _).kept ((Kept.refl _).alloc _)).kept k1; obtain ⟨l1, a10, a11, a12, z10, z11, z12⟩ := id B1; rw [HH.out])
    | (go_at_call 12; refine (alive_any _).mono ?_; rintro e wa ⟨rfl, ka⟩))
  go_ret
  exact ⟨rfl, kk1.step0 ka⟩
set_option maxRecDepth 100000 in
set_option maxHeartbeats 4000000 in
include hm hm2 hp in
theorem notValid (hh : heavyB p 3 8 = false) (hv : validB p = false) :
    Calls Try.prog 8 #[.agg #[.int .i64 p.side, .slice pa p.ps.length pc, .slice la p.ls.length lc], .agg #[.int .i64 l.a, .int .i64 l.b, .int .i64 l.lo, .int .i64 l.hi], .int .i64 i, .int .i64 j, .int .i64 k, .int .u8 x] w fun e w' => e = .returned (.bool true) ∧ Kept w w' := by
  have HP := Lib.hid hp
  have HH := Lib.hid hh
  have HV := Lib.hid hv
  clear hp hh hv
  go_enter Try.func8, Try.ntmps8
  go_wp2_with (first
    | (go_at_call 11; refine (heavy_any p _ _ _ _ _ _ _ hm hm2 (HP.out.kept (((Kept.refl _).alloc _).alloc _))).mono ?_; rintro e f1 ⟨rfl, k1⟩; have kk1 := Kept.step2 (Kept.refl w) k1; have B1 := ((pbox_new w _ _ _ _).kept ((Kept.refl _).alloc _)).kept k1; obtain ⟨l1, a10, a11, a12, z10, z11, z12⟩ := id B1; rw [HH.out])
    | (go_at_call 35; refine (rvalid_any p _ _ _ _ _ hm hm2 (HP.out.kept kk1)).mono ?_; rintro e f2 ⟨rfl, k2⟩; have kk2 := kk1.step0 k2; rw [HV.out])
    | (go_at_call 12; refine (alive_any _).mono ?_; rintro e wa ⟨rfl, ka⟩))
  go_ret
  exact ⟨rfl, kk2.step0 ka⟩
include hm hm2 hp in
theorem walk (hx : x < 256) :
    Calls Try.prog 8 #[.agg #[.int .i64 p.side, .slice pa p.ps.length pc, .slice la p.ls.length lc], .agg #[.int .i64 l.a, .int .i64 l.b, .int .i64 l.lo, .int .i64 l.hi], .int .i64 i, .int .i64 j, .int .i64 k, .int .u8 x] w fun e w' => e = .returned (.bool true) ∧ Kept w w' := by
  cases hh : heavyB p 3 8 with
  | true => exact heavy p l i j k x pa la pc lc w hm hm2 hp hh
  | false =>
    cases hv : validB p with
    | false => exact notValid p l i j k x pa la pc lc w hm hm2 hp hh hv
    | true => exact pegMore_main p l i j k x pa la pc lc w hp hv hh hx
end

theorem own : ownKnob Try.prog.godebug = none := by kernel_rfl
theorem laidOut : laidOutB Try.prog = true := by kernel_rfl

set_option maxRecDepth 100000 in
theorem lifted (os : Os) (started : os.Started) (H : Type) (enc : TypeId × Value → H) :
    ReturnsInHanded {} Try.checked os 8 .any (Rows.pegMoreSpec.pre6 enc Try.prog Try.f8 Rows.pegMoreRow.domain false) (Rows.pegMoreSpec.post enc Try.prog Try.f8 false true false false) := by
  refine returnsInHanded_of_change (C := Try.checked) own started (by kernel_rfl) Try.func8
    (ChangeSpec.witness6 (enc := enc) (C := Try.checked) false ⟨#[], #[.agg #[.int .i64 0, .slice none 0 0, .slice none 0 0], .agg #[.int .i64 0, .int .i64 0, .int .i64 0, .int .i64 0], .int .i64 0, .int .i64 0, .int .i64 0, .int .u8 0], []⟩ 8 (by kernel_rfl) (by kernel_rfl) (by kernel_rfl) (by kernel_rfl)) ?_
  intro W base args ds gs before hval0 hW _ _
  have hval : ∀ (j : Nat) t v, Try.f8.params[j]? = some t → args[j]? = some v → Value.okWide Try.prog W .any base t v := hval0
  have hW' := hW
  obtain ⟨q, r, hA0, hV, rfl, _, _⟩ := hW
  have hA : DataW.TrodAll enc Try.prog W 0 (fun _ => true) true Try.f8.params.toList args.toList ds q := hA0
  rw [Try.params8] at hA hval
  obtain ⟨v0, v1, v2, v3, v4, v5, d0, d1, d2, d3, d4, d5, p0, p1, p2, p3, p4, p5, rfl, rfl, rfl, h0, h1, h2, h3, h4, h5⟩ := trodAll_six hA
  obtain ⟨p, pa, la, pc, lc, rfl, hp, hm, hm2⟩ := open_pegs (hval 0 25 v0 rfl rfl) h0
  obtain ⟨l, rfl⟩ := open_len (hval 1 65 v1 rfl rfl) h1
  obtain ⟨i, rfl, rfl, rfl, _⟩ := open_int Try.underlying3 (hval 2 3 v2 rfl rfl) h2
  obtain ⟨j, rfl, rfl, rfl, _⟩ := open_int Try.underlying3 (hval 3 3 v3 rfl rfl) h3
  obtain ⟨k, rfl, rfl, rfl, _⟩ := open_int Try.underlying3 (hval 4 3 v4 rfl rfl) h4
  obtain ⟨x, rfl, rfl, rfl, hwf⟩ := open_int Try.underlying5 (hval 5 5 v5 rfl rfl) h5
  have hx : 0 ≤ x ∧ x < 256 := by simp [Lit.wf, IntKind.min, IntKind.max, IntKind.signed, IntKind.bits] at hwf; omega
  obtain ⟨x, rfl⟩ := Int.eq_ofNat_of_zero_le hx.1
  refine (walk p l i j k x pa la pc lc W hm hm2 hp (by omega)).mono fun e W' ⟨he, hk⟩ => ?_
  subst he
  exact ⟨_, rfl, law_post (ts := [25, 65, 3, 3, 3, 5]) laidOut Try.underlying4 rfl (by rw [Try.params8]) (by intro t ht; simp at ht; rcases ht with rfl | rfl | rfl | rfl <;> exact ⟨by kernel_rfl, of_decide_eq_true (by kernel_rfl)⟩) rfl hW' (fun h => by subst h; rfl) hk⟩

theorem over : Rows.pegMoreRow.holds Try.pinned (OpenSpec.ofChange Rows.pegMoreSpec) :=
  OpenClaim.holds_of_wide 8 Try.f8 rfl rfl rfl rfl rfl rfl rfl ⟨rfl, rfl, rfl, rfl, rfl⟩ rfl rfl rfl rfl rfl (by kernel_rfl) Try.func8 (by kernel_rfl)
    (of_decide_eq_true (by kernel_rfl)) (by unfold Func.isWrapper; first | (rw [if_pos (by decide +kernel)]; kernel_rfl) | (rw [if_neg (by decide +kernel)]; exact ⟨rfl, rfl⟩))
    (fun os started H enc _ => lifted os started H enc)

theorem proved : Rows.PegMoreSaid := over
end Go.Proofs.Ytkjciobphbcknaa.pegMore
