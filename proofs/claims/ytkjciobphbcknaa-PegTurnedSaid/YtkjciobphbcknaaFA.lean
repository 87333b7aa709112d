/- PegFree: the walk. -/
import Derived.Test.YtkjciobphbcknaaAU
import Derived.Test.YtkjciobphbcknaaAP
import Derived.Test.YtkjciobphbcknaaRC
import Derived.BigQuiet
import Derived.Lib.QuietBelow
import Derived.IntWalk
namespace Go.Proofs.Ytkjciobphbcknaa
open Go.RowKit Go.Sort

theorem run_neq_span (a b c d : Int) (w : World) : (binOp .neq 32 (.agg #[.int .i64 a, .int .i64 b]) (.agg #[.int .i64 c, .int .i64 d])).run Try.prog w = .ok (.bool (!plEqB a b c d)) w := by
  by_cases h1 : a = c <;> by_cases h2 : b = d <;> simp [go_sem, plEqB, h1, h2]
/-- Pegs without lengths lie where pegs lay. -/
theorem PegsIn.bare {w : World} {p : PegsD} {pa la : Option Addr} (h : PegsIn w p pa la) : PegsIn w (bare p) pa none := ⟨h.1, fun i l hl => by simp [Proofs.Ytkjciobphbcknaa.bare] at hl⟩
/-- 'span', met in a region whose order is open. -/
theorem spanQ (w : World) (a b : Int) (d : Nat) (os : Array Obj) : Calls Try.prog 28 #[.int .i64 a, .int .i64 b] (grow (redrawn w d) os) fun e w'' => e = .returned (.agg #[.int .i64 a, .int .i64 b]) ∧ ∃ p : Regrown, w'' = grow (redrawn w p.d) p.os :=
  Calls.regrown_of ((spanL_any a b _).mono fun e w' ⟨he, hw⟩ => ⟨he, by rw [hw]; exact (Below.refl _ _).alloc (Nat.le_refl _) _⟩)
/-- A struct of three cells at block b. (A plain definition.) -/
def PBox (W : World) (b : Nat) (v0 v1 v2 : Value) : Prop :=
  b < W.heap.size ∧ W.cell? ⟨b, 0, none⟩ = some v0 ∧ W.cell? ⟨b, 1, none⟩ = some v1 ∧ W.cell? ⟨b, 2, none⟩ = some v2 ∧ W.frozen? ⟨b, 0, none⟩ = false ∧ W.frozen? ⟨b, 1, none⟩ = false ∧ W.frozen? ⟨b, 2, none⟩ = false
theorem PBox.kept {W W' : World} {b : Nat} {v0 v1 v2 : Value} (h : PBox W b v0 v1 v2) (k : Kept W W') : PBox W' b v0 v1 v2 := by
  obtain ⟨l, h0, h1, h2, z0, z1, z2⟩ := h
  exact ⟨k.lt l, (k.cells _ _ l).trans h0, (k.cells _ _ l).trans h1, (k.cells _ _ l).trans h2, (k.frozens _ _ l).trans z0, (k.frozens _ _ l).trans z1, (k.frozens _ _ l).trans z2⟩
theorem PBox.set2 {W : World} {b : Nat} {v0 v1 v2 : Value} (h : PBox W b v0 v1 v2) (u : Value) : PBox (W.setCell ⟨b, 2, none⟩ u) b v0 v1 u := by
  obtain ⟨l, h0, h1, h2, z0, z1, z2⟩ := h
  exact ⟨by simpa using l, by rw [World.cell?_setCell_other _ _ _ _ (by simp)]; exact h0, by rw [World.cell?_setCell_other _ _ _ _ (by simp)]; exact h1, World.cell?_setCell_same' _ _ _ (by rw [h2]; rfl), by rw [World.frozen?_setCell]; exact z0, by rw [World.frozen?_setCell]; exact z1, by rw [World.frozen?_setCell]; exact z2⟩
theorem pbox_new (w : World) (v0 v1 v2 : Value) (ty : TypeId) : PBox (w.alloc (Obj.cells #[v0, v1, v2] ty)) w.heap.size v0 v1 v2 :=
  ⟨by simp, by simp [go_sem], by simp [go_sem], by simp [go_sem], by simp [go_sem], by simp [go_sem], by simp [go_sem]⟩
section
variable {p : PegsD} {pa : Option Addr} {pc : Nat} {w : World}
theorem free13 (hm : p.ps.length ≤ 9223372036854775807) (hp : PegsIn w (bare p) pa none) {S : Nat} {A : Int} (hS : movedR (bare p) = .ok (A, (S : Int), true)) :
    Calls Try.prog 13 #[.agg #[.int .i64 p.side, .slice pa p.ps.length pc, .slice none 0 0]] w fun e w' => e = .returned (.tuple #[.int .i64 S, .bool true, .int .i64 0]) ∧ Kept w w' := by
  have h := moved_any (bare p) pa none pc 0 w hm (by simp [bare]) hp
  rw [hS] at h
  exact h
theorem free15 (hm : p.ps.length ≤ 9223372036854775807) (hp : PegsIn w (bare p) pa none) {n : Int} (hS : whereR (bare p) n = .ok ((0, p.side), (0, p.side))) :
    Calls Try.prog 15 #[.agg #[.int .i64 p.side, .slice pa p.ps.length pc, .slice none 0 0], .int .i64 n] w fun e w' => e = .returned (.tuple #[.agg #[.int .i64 0, .int .i64 p.side], .agg #[.int .i64 0, .int .i64 p.side], .int .i64 0]) ∧ Kept w w' := by
  have h := where_any (bare p) n pa none pc 0 w hm (by simp [bare]) hp
  rw [hS] at h
  exact h
theorem free17 (hm : p.ps.length ≤ 9223372036854775807) (hp : PegsIn w (bare p) pa none) {n m : Int} (hS : placesR (bare p) n = .ok m) :
    Calls Try.prog 17 #[.agg #[.int .i64 p.side, .slice pa p.ps.length pc, .slice none 0 0], .int .i64 n] w fun e w' => e = .returned (.tuple #[.int .i64 m, .int .i64 0]) ∧ Kept w w' := by
  have h := places_any (bare p) n pa none pc 0 w hm (by simp [bare]) hp
  rw [hS] at h
  exact h
theorem free25 (hm : p.ps.length ≤ 9223372036854775807) (hp : PegsIn w (bare p) pa none) {n : Int} (hS : proofR (bare p) n = .error 4) :
    Calls Try.prog 25 #[.agg #[.int .i64 p.side, .slice pa p.ps.length pc, .slice none 0 0], .int .i64 n] w fun e w' => e = .returned (.tuple #[.int .i64 0, .int .i64 4]) ∧ Kept w w' := by
  have h := proof_any (bare p) n pa none pc 0 w hm (by simp [bare]) hp
  rw [hS] at h
  exact h
end

set_option maxRecDepth 100000 in
set_option maxHeartbeats 8000000 in
theorem pegFree_main (p : PegsD) (n : Nat) (pa la : Option Addr) (pc lc : Nat) (w : World) (hp : PegsIn w p pa la) (hv : validB p = true) (hn : n < p.ps.length) (hh : heavyB p 4 15 = false) (hd : p.ps.length ≤ 3 ∨ p.side ≤ 9) :
    Calls Try.prog 10 #[.agg #[.int .i64 p.side, .slice pa p.ps.length pc, .slice la p.ls.length lc], .int .i64 n] w fun e w' => e = .returned (.bool true) ∧ Kept w w' := by
  obtain ⟨s0, s1, l4, l6⟩ := validB_sizes hv
  have hvb := validB_bare hv
  obtain ⟨S, hS, hSlt, hSb⟩ := free_moved hvb rfl
  have hm : p.ps.length ≤ 9223372036854775807 := by omega
  have hm2 : p.ls.length ≤ 9223372036854775807 := by omega
  have HS := Lib.hid hS
  have HW : Hid (whereR (bare p) n = .ok ((0, p.side), (0, p.side))) := free_where hvb rfl n hn
  have HPl : Hid (placesR (bare p) n = .ok ((p.side + 1) * (p.side + 1))) := free_places hvb rfl n hn
  have HPr := Lib.hid (free_proof hvb rfl n hn)
  have HSB := Lib.hid hSb
  have HV := Lib.hid hv
  have HH := Lib.hid hh
  have HP := Lib.hid hp
  have HI : Hid (isPegB p.ps.length (n : Int) = true) := by simp [Hid, isPegB, hn]
  have hS16 : S < 64 := by
    have : (2 : Nat) ^ (bare p).ps.length ≤ 2 ^ 4 := Nat.pow_le_pow_right (by omega) l4
    omega
  have hq := run_neq_span
  have hq2 := run_eql_span
  clear hS hSb hv hh hp hvb
  have hg1 : decide ((3 : Int) < (p.ps.length : Int)) = false ∨ decide ((3 : Int) < (p.ps.length : Int)) = true ∧ decide (9 < p.side) = false := by
    rcases hd with h | h
    · left; simp; omega
    · by_cases h3 : 3 < p.ps.length
      · right; exact ⟨by simp; omega, by simp; omega⟩
      · left; simp; omega
  clear hd
  have main : ∀ (hgd : decide ((3 : Int) < (p.ps.length : Int)) = false ∨ decide ((3 : Int) < (p.ps.length : Int)) = true ∧ decide (9 < p.side) = false), Calls Try.prog 10 #[.agg #[.int .i64 p.side, .slice pa p.ps.length pc, .slice la p.ls.length lc], .int .i64 n] w fun e w' => e = .returned (.bool true) ∧ Kept w w' := by
    intro hgd
    rcases hgd with g1 | ⟨g1, g2⟩
    all_goals
      go_enter Try.func10, Try.ntmps10
      go_wp2_with (first
        | (go_at_call 11; refine (heavy_any p _ _ _ _ _ _ _ hm hm2 (HP.out.kept ((Kept.refl _).alloc _))).mono ?_; rintro e f1 ⟨rfl, k1⟩; have kk1 := Kept.step1 (Kept.refl w) k1; have B1 := (pbox_new w _ _ _ _).kept k1; obtain ⟨l1, a10, a11, a12, z10, z11, z12⟩ := id B1; rw [HH.out])
        | (go_at_call 35; refine (rvalid_any p _ _ _ _ _ hm hm2 (HP.out.kept kk1)).mono ?_; rintro e f2 ⟨rfl, k2⟩; have kk2 := kk1.step0 k2; have B2 := B1.kept k2; obtain ⟨l2, a20, a21, a22, z20, z21, z22⟩ := id B2; rw [HV.out])
        | (go_at_call 36; refine (rPeg_any _ _ _ _ _ _ _ _ _ hm).mono ?_; rintro e f3 ⟨rfl, k3⟩; have kk3 := kk2.step0 k3; have B3 := B2.kept k3; obtain ⟨l3, a30, a31, a32, z30, z31, z32⟩ := id B3; rw [HI.out]))
      have B4 := B3.set2 (Value.slice none 0 0)
      have kk4 : Kept w (f3.setCell ⟨w.heap.size, 2, none⟩ (Value.slice none 0 0)) := kk3.setCell (by simp) _
      clear a10 a11 a12 z10 z11 z12 a20 a21 a22 z20 z21 z22 a30 a31 a32 z30 z31 z32 l1 l2 l3 k1 k2 k3 B1 B2 B3 kk1 kk2 kk3
      generalize hW4 : f3.setCell ⟨w.heap.size, 2, none⟩ (Value.slice none 0 0) = W4 at *
      clear hW4
      obtain ⟨l4', a40, a41, a42, z40, z41, z42⟩ := id B4
      go_wp2_with (first
        | (go_at_call 13; refine (free13 hm (HP.out.bare.kept kk4) HS.out).mono ?_; rintro e f5 ⟨rfl, k5⟩; have kk5 := kk4.step0 k5; have B5 := B4.kept k5; obtain ⟨l5, a50, a51, a52, z50, z51, z52⟩ := id B5)
        | (go_at_call 15; refine (free15 hm (HP.out.bare.kept kk5) HW.out).mono ?_; rintro e f6 ⟨rfl, k6⟩; have kk6 := kk5.step0 k6; have B6 := B5.kept k6; obtain ⟨l6', a60, a61, a62, z60, z61, z62⟩ := id B6)
        | (go_at_call 17; refine (free17 hm (HP.out.bare.kept ((kk6.alloc _).alloc _)) HPl.out).mono ?_; rintro e f7 ⟨rfl, k7⟩; have kk7 := ((kk6.alloc _).alloc _).step0 k7; have B7 := (B6.kept (((Kept.refl _).alloc _).alloc _)).kept k7; obtain ⟨l7, a70, a71, a72, z70, z71, z72⟩ := id B7)
        | (go_at_call 25; refine (free25 hm (HP.out.bare.kept kk7) HPr.out).mono ?_; rintro e f8 ⟨rfl, k8⟩; have kk8 := kk7.step0 k8; have B8 := B7.kept k8; obtain ⟨l8, a80, a81, a82, z80, z81, z82⟩ := id B8))
      have kN := Kept.step0 k7 k8
      have HC : Hid (∀ w', Kept f8 w' → (w'.cell? ⟨f6.heap.size, 0, none⟩ = some (.int .i64 0) ∧ w'.cell? ⟨f6.heap.size, 1, none⟩ = some (.int .i64 p.side) ∧ w'.cell? ⟨f6.heap.size + 1, 0, none⟩ = some (.int .i64 0) ∧ w'.cell? ⟨f6.heap.size + 1, 1, none⟩ = some (.int .i64 p.side) ∧ w'.cell? ⟨w.heap.size, 0, none⟩ = some (.int .i64 p.side))) := by
        intro w' k
        refine ⟨?_, ?_, ?_, ?_, (k.cells _ _ l8).trans a80⟩ <;> (rw [(Kept.step0 kN k).cells _ _ (by simp <;> omega)]; simp [go_sem])
      have HK8 := Lib.hid kk8
      have HB8 := Lib.hid B8
      have hl8 : w.heap.size < f8.heap.size := l8
      have hs8 : f6.heap.size + 1 < f8.heap.size := Nat.lt_of_lt_of_le (by simp) (Kept.size kN)
      obtain ⟨x1, x2, x3, x4, x5⟩ := HC.out _ (Kept.refl f8)
      have y1 := cell_regrown x1
      have y2 := cell_regrown x2
      have y3 := cell_regrown x3
      have y4 := cell_regrown x4
      have y5 := cell_regrown x5
      clear x1 x2 x3 x4 x5
      clear k5 k7 k8 kk5 kk6 kk7 kk8 B4 B5 B6 B7 B8 a40 a41 a42 z40 z41 z42 a50 a51 a52 z50 z51 z52 a60 a61 a62 z60 z61 z62 a70 a71 a72 z70 z71 z72 a80 a81 a82 z80 z81 z82 l4' l5 l6' l7 l8 kN kk4
      have q1 : plEqB 0 p.side 0 p.side = true := by simp [plEqB]
      have HQ0 := Lib.hid q1
      have m1 : 0 ≤ (p.side + 1) * (p.side + 1) := Int.mul_nonneg (by omega) (by omega)
      have m2 : (p.side + 1) * (p.side + 1) ≤ 256 := Int.le_trans (Int.mul_le_mul (show p.side + 1 ≤ 16 by omega) (show p.side + 1 ≤ 16 by omega) (by omega) (by omega)) (by decide)
      have w1 : IntKind.i64.wrap (p.side + 1) = p.side + 1 := IntWalk.i64_in _ (by omega)
      have w2 : IntKind.i64.wrap ((p.side + 1) * (p.side + 1)) = (p.side + 1) * (p.side + 1) := IntWalk.i64_in _ (by omega)
      refine wp_region_quiet_below (by kernel_rfl) (by kernel_rfl) ?_
      repeat (first | go_big_quiet_step (exact spanQ _ _ _ _ _) | quiet_step (exact spanQ _ _ _ _ _))
      refine wpQuiet_nil ?_
      intro _ hw'
      obtain ⟨⟨dq, osq⟩, hw''⟩ := hw'
      subst hw''
      clear y1 y2 y3 y4 y5
      have kk9 : Kept w (grow (redrawn f8 dq) osq) := HK8.out.step0 (below_regrown _ _ _)
      have B9 := HB8.out.kept (below_regrown f8 dq osq)
      generalize hW9 : grow (redrawn f8 dq) osq = W9 at *
      clear hW9
      have HK9 := Lib.hid kk9
      have HB9 := Lib.hid B9
      obtain ⟨l9, a90, a91, a92, _, _, _⟩ := B9
      clear w1 w2 m1 m2 q1 hl8 hs8 kk9
      go_wp2
      go_loopw [113, 15, 16, 17] (fun i _ _ _ wr => ∃ k : Nat, k ≤ p.ps.length ∧ i = .int .i64 k ∧ Kept W9 wr) (fun i _ _ _ _ => p.ps.length - (intOf i).toNat)
      case atStart => exact ⟨0, Nat.zero_le _, rfl, Kept.refl _⟩
      case round =>
        obtain ⟨k, hk, rfl, kR⟩ := hrel
        clear l9 a90 a91 a92
        have BR := HB9.out.kept kR
        obtain ⟨lR, aR0, aR1, aR2, _, _, _⟩ := BR
        by_cases hlt : k < p.ps.length
        · obtain ⟨b, o, rfl, hbs, c1, c2, c3, c4⟩ := (HP.out.1.kept (HK9.out.step0 kR)) k (p.ps[k]) (by simp)
          have hbit := bit_run S k hS16 (by omega)
          have hb2 : Nat.testBit S k = !wholeB p.side p.ps[k] := HSB.out k _ (by simp [bare])
          rw [Nat.testBit_eq_decide_div_mod_eq] at hb2
          have hlt2 : S / 2 ^ k % 2 < 2 := Nat.mod_lt _ (by omega)
          have hk0 : (0 : Int) ≤ (k : Int) := by omega
          have HWh : Hid (wholeB p.side p.ps[k] = (decide (p.ps[k].xlo = 0) && decide (p.ps[k].xhi = p.side) && (decide (p.ps[k].ylo = 0) && decide (p.ps[k].yhi = p.side)))) := rfl
          generalize p.ps[k].xlo = xlo at *
          generalize p.ps[k].xhi = xhi at *
          generalize p.ps[k].ylo = ylo at *
          generalize p.ps[k].yhi = yhi at *
          have HKR := Lib.hid kR
          clear kR
          have kA : Kept wr (wr.alloc (Obj.cells #[Value.int IntKind.i64 xlo, Value.int IntKind.i64 xhi, Value.int IntKind.i64 ylo, Value.int IntKind.i64 yhi] 56)) := (Kept.refl wr).alloc _
          have HC2 : Hid (∀ w', Kept (wr.alloc (Obj.cells #[Value.int IntKind.i64 xlo, Value.int IntKind.i64 xhi, Value.int IntKind.i64 ylo, Value.int IntKind.i64 yhi] 56)) w' → (w'.cell? ⟨wr.heap.size, 0, none⟩ = some (.int .i64 xlo) ∧ w'.cell? ⟨wr.heap.size, 1, none⟩ = some (.int .i64 xhi) ∧ w'.cell? ⟨wr.heap.size, 2, none⟩ = some (.int .i64 ylo) ∧ w'.cell? ⟨wr.heap.size, 3, none⟩ = some (.int .i64 yhi) ∧ w'.cell? ⟨w.heap.size, 0, none⟩ = some (.int .i64 p.side))) := by
            intro w' kw
            refine ⟨?_, ?_, ?_, ?_, ((kA.step0 kw).cells _ _ lR).trans aR0⟩ <;> (rw [kw.cells _ _ (by simp)]; simp [go_sem])
          have HKA := Lib.hid kA
          clear kA
          obtain ⟨x1, x2, x3, x4, x5⟩ := HC2.out _ (Kept.refl _)
          have y1 := cell_regrown x1
          have y2 := cell_regrown x2
          have y3 := cell_regrown x3
          have y4 := cell_regrown x4
          have y5 := cell_regrown x5
          have HLT := Lib.hid hlt2
          clear hlt2 x1 x2 x3 x4 x5
          cases hx : plEqB xlo xhi 0 p.side with
          | false =>
            have e1 : S / 2 ^ k % 2 = 1 := by
              have : wholeB p.side p.ps[k] = false := by rw [HWh.out]; simp only [plEqB] at hx; rw [hx]; rfl
              rw [this] at hb2; simpa using hb2
            rw [e1] at hbit
            clear hb2 e1
            go_wp2_with fail
            refine wp_region_quiet_below (by kernel_rfl) (by kernel_rfl) ?_
            repeat (first | go_big_quiet_step (exact spanQ _ _ _ _ _) | quiet_step (exact spanQ _ _ _ _ _))
            refine wpQuiet_nil ?_
            intro _ hw'
            obtain ⟨⟨dq, osq⟩, hw''⟩ := hw'
            subst hw''
            go_wp2
            go_roundw
            case rel => exact ⟨k + 1, by omega, by go_num, HKR.out.step0 (HKA.out.step0 (below_regrown _ _ _))⟩
            case measure => simp [intOf]; omega
          | true =>
            cases hy : plEqB ylo yhi 0 p.side with
            | false =>
              have e1 : S / 2 ^ k % 2 = 1 := by
                have : wholeB p.side p.ps[k] = false := by rw [HWh.out]; simp only [plEqB] at hx hy; rw [hy, hx]; rfl
                rw [this] at hb2; simpa using hb2
              rw [e1] at hbit
              clear hb2 e1
              go_wp2_with fail
              refine wp_region_quiet_below (by kernel_rfl) (by kernel_rfl) ?_
              repeat (first | go_big_quiet_step (exact spanQ _ _ _ _ _) | quiet_step (exact spanQ _ _ _ _ _))
              refine wpQuiet_nil ?_
              intro _ hw'
              obtain ⟨⟨dq, osq⟩, hw''⟩ := hw'
              subst hw''
              go_wp2
              go_roundw
              case rel => exact ⟨k + 1, by omega, by go_num, HKR.out.step0 (HKA.out.step0 (below_regrown _ _ _))⟩
              case measure => simp [intOf]; omega
            | true =>
              have e1 : S / 2 ^ k % 2 = 0 := by
                have : wholeB p.side p.ps[k] = true := by rw [HWh.out]; simp only [plEqB] at hx hy; rw [hy, hx]; rfl
                rw [this] at hb2; have := HLT.out; simp at hb2; omega
              rw [e1] at hbit
              clear hb2 e1
              go_wp2_with fail
              refine wp_region_quiet_below (by kernel_rfl) (by kernel_rfl) ?_
              repeat (first | go_big_quiet_step (exact spanQ _ _ _ _ _) | quiet_step (exact spanQ _ _ _ _ _))
              refine wpQuiet_nil ?_
              intro _ hw'
              obtain ⟨⟨dq, osq⟩, hw''⟩ := hw'
              subst hw''
              go_wp2
              go_roundw
              case rel => exact ⟨k + 1, by omega, by go_num, HKR.out.step0 (HKA.out.step0 (below_regrown _ _ _))⟩
              case measure => simp [intOf]; omega
        · have e : k = p.ps.length := by omega
          subst e
          go_wp2_with (go_at_call 12; refine (alive_any _).mono ?_; rintro e wa ⟨rfl, ka⟩)
          go_ret
          exact ⟨rfl, (HK9.out.step0 kR).step0 ka⟩
  exact main hg1
end Go.Proofs.Ytkjciobphbcknaa
