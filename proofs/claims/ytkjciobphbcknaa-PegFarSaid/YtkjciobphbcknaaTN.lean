/- PegTrue: what is said of pegs as they are made. -/
import Derived.Test.YtkjciobphbcknaaEF
import Derived.Test.YtkjciobphbcknaaRB
import Derived.Test.YtkjciobphbcknaaAM
import Derived.Test.YtkjciobphbcknaaAS
import Derived.Test.YtkjciobphbcknaaEZ
import Derived.Test.YtkjciobphbcknaaG1
namespace Go.Proofs.Ytkjciobphbcknaa
open Go.RowKit En

theorem spanK (a b : Int) (w : World) : Gives Try.prog 28 [.int .i64 a, .int .i64 b] w (.agg [.int .i64 a, .int .i64 b].toArray) :=
  ⟨(spanL_any a b w).mono fun _ _ ⟨h, e⟩ => ⟨h, e ▸ (Below.refl _ _).alloc (Nat.le_refl _) _⟩⟩
theorem rinK (n lo hi : Int) (w : World) : Gives Try.prog 73 [.int .i64 n, .int .i64 lo, .int .i64 hi] w (.bool (inB n lo hi)) :=
  ⟨(rin_any n lo hi w).mono fun _ _ ⟨h, e⟩ => ⟨h, e ▸ Below.refl _ _⟩⟩
theorem inB_true {n lo hi : Int} (h : lo ≤ n ∧ n ≤ hi) : inB n lo hi = true := by simp [inB, h.1, h.2]
theorem inB_false {n lo hi : Int} (h : ¬ (lo ≤ n ∧ n ≤ hi)) : inB n lo hi = false := by
  cases hb : inB n lo hi with
  | false => rfl
  | true => simp [inB] at hb; exact absurd hb h
set_option maxRecDepth 100000 in
set_option maxHeartbeats 4000000 in
theorem inside_any (n lo hi : Int) (w : World) : Gives Try.prog 31 [.int .i64 n, .agg [.int .i64 lo, .int .i64 hi].toArray] w (.bool (inB n lo hi)) := by
  by_cases h1 : lo ≤ n <;> by_cases h2 : n ≤ hi
  all_goals
    refine .mk <| enter (n := 15) Try.func31 rfl rfl rfl (by repeat (first | exact Fill.nil | apply Fill.cons)) ?_
    refine cw_seq ?_
    refine cw_region ?_
    refine lstep rfl rfl rfl (run_boxN (.tmp rfl)) ?_
    intro b3 _
    refine lstepB rfl rfl rfl (run_assign .const) ?_
    refine lnil ?_
    refine xw_then ?_
    refine cw_seq ?_
    refine cw_region ?_
    refine lstepB rfl rfl rfl (run_fieldAddr (.tmp rfl) fa32_0 (by first | exact Nat.zero_add _ | exact rfl)) ?_
    refine lstepB rfl rfl rfl (run_load1 (.tmp rfl) kd3 (by repeat (first | exact List.Mem.head _ | apply List.Mem.tail)) (by exact rfl)) ?_
    refine lstepB rfl rfl rfl (run_move (.tmp rfl)) ?_
    refine lstepB rfl rfl rfl (run_leq (.tmp rfl) (.tmp rfl) (by first | exact decide_eq_true (by omega) | exact decide_eq_false (by omega) | exact rfl)) ?_
    refine lstepB rfl rfl rfl (run_move (.tmp rfl)) ?_
    first | (refine lyes rfl rfl rfl rfl ?_; refine gstepB rfl rfl (run_move (.tmp rfl)) ?_) | refine lskip rfl rfl rfl rfl rfl rfl rfl ?_
    first | (refine lyes rfl rfl rfl rfl ?_; refine gstepB rfl rfl (run_fieldAddr (.tmp rfl) fa32_1 (by first | exact Nat.zero_add _ | exact rfl)) ?_) | refine lskip rfl rfl rfl rfl rfl rfl rfl ?_
    first | (refine lyes rfl rfl rfl rfl ?_; refine gstepB rfl rfl (run_load1 (.tmp rfl) kd3 (by repeat (first | exact List.Mem.head _ | apply List.Mem.tail)) (by exact rfl)) ?_) | refine lskip rfl rfl rfl rfl rfl rfl rfl ?_
    first | (refine lyes rfl rfl rfl rfl ?_; refine gstepB rfl rfl (run_leq (.tmp rfl) (.tmp rfl) (by first | exact decide_eq_true (by omega) | exact decide_eq_false (by omega) | exact rfl)) ?_) | refine lskip rfl rfl rfl rfl rfl rfl rfl ?_
    refine lstepB rfl rfl rfl (by first | exact run_pick_true (.tmp rfl) (.tmp rfl) | exact run_pick_false (.tmp rfl) .const) ?_
    refine lstepB rfl rfl rfl (run_assign (.tmp rfl)) ?_
    refine lnil ?_
    refine xw_then ?_
    refine cw_ret ?_
    refine xw_ret1 Try.results31 rfl (fun w hS => ⟨by simp [inB, *], hS.kept⟩)
def sqI (a b c d : Int) : Int := (a - c) * (a - c) + (b - d) * (b - d)
theorem mulBd {x y m : Int} (h1 : -m ≤ x) (h2 : x ≤ m) (h3 : -m ≤ y) (h4 : y ≤ m) : -(m * m) ≤ x * y ∧ x * y ≤ m * m := by
  have e1 : x * y ≤ m * m := by
    rcases Int.le_total 0 y with hy | hy
    · exact Int.le_trans (Int.mul_le_mul_of_nonneg_right h2 hy) (Int.mul_le_mul_of_nonneg_left h4 (by omega))
    · have a := Int.mul_le_mul_of_nonneg_right (show -x ≤ m by omega) (show 0 ≤ -y by omega)
      have b := Int.mul_le_mul_of_nonneg_left (show -y ≤ m by omega) (show 0 ≤ m by omega)
      rw [Int.neg_mul_neg] at a
      exact Int.le_trans a b
  have e2 : -x * y ≤ m * m := by
    rcases Int.le_total 0 y with hy | hy
    · exact Int.le_trans (Int.mul_le_mul_of_nonneg_right (show -x ≤ m by omega) hy) (Int.mul_le_mul_of_nonneg_left h4 (by omega))
    · have a := Int.mul_le_mul_of_nonneg_right h2 (show 0 ≤ -y by omega)
      have b := Int.mul_le_mul_of_nonneg_left (show -y ≤ m by omega) (show 0 ≤ m by omega)
      have : -x * y = x * -y := by rw [Int.neg_mul, Int.mul_neg]
      rw [this]
      exact Int.le_trans a b
  rw [Int.neg_mul] at e2
  exact ⟨by omega, e1⟩
set_option maxRecDepth 100000 in
set_option maxHeartbeats 4000000 in
theorem square_any (a b c d : Int) (ha : -1000 ≤ a ∧ a ≤ 1000) (hb : -1000 ≤ b ∧ b ≤ 1000) (hc : -1000 ≤ c ∧ c ≤ 1000) (hd : -1000 ≤ d ∧ d ≤ 1000) (w : World) : Gives Try.prog 33 [.agg [.int .i64 a, .int .i64 b].toArray, .agg [.int .i64 c, .int .i64 d].toArray] w (.int .i64 (sqI a b c d)) := by
  have m1 := mulBd (x := a - c) (y := a - c) (m := 2000) (by omega) (by omega) (by omega) (by omega)
  have m2 := mulBd (x := b - d) (y := b - d) (m := 2000) (by omega) (by omega) (by omega) (by omega)
  refine .mk <| enter (n := 28) Try.func33 rfl rfl rfl (by repeat (first | exact Fill.nil | apply Fill.cons)) ?_
  refine cw_seq ?_
  refine cw_region ?_
  refine lstep rfl rfl rfl (run_boxN (.tmp rfl)) ?_
  intro b2 _
  refine lstep rfl rfl rfl (run_boxN (.tmp rfl)) ?_
  intro b3 _
  refine lstepB rfl rfl rfl (run_assign .const) ?_
  refine lnil ?_
  refine xw_then ?_
  refine cw_seq ?_
  refine cw_region ?_
  refine lstepB rfl rfl rfl (run_fieldAddr (.tmp rfl) fa52_0 (by first | exact Nat.zero_add _ | exact rfl)) ?_
  refine lstepB rfl rfl rfl (run_load1 (.tmp rfl) kd3 (by repeat (first | exact List.Mem.head _ | apply List.Mem.tail)) (by exact rfl)) ?_
  refine lstepB rfl rfl rfl (run_fieldAddr (.tmp rfl) fa52_0 (by first | exact Nat.zero_add _ | exact rfl)) ?_
  refine lstepB rfl rfl rfl (run_load1 (.tmp rfl) kd3 (by repeat (first | exact List.Mem.head _ | apply List.Mem.tail)) (by exact rfl)) ?_
  refine lstepB rfl rfl rfl (run_sub (.tmp rfl) (.tmp rfl) (by first | exact IntWalk.i64_in _ (by omega) | exact rfl)) ?_
  refine lstepB rfl rfl rfl (run_fieldAddr (.tmp rfl) fa52_0 (by first | exact Nat.zero_add _ | exact rfl)) ?_
  refine lstepB rfl rfl rfl (run_load1 (.tmp rfl) kd3 (by repeat (first | exact List.Mem.head _ | apply List.Mem.tail)) (by exact rfl)) ?_
  refine lstepB rfl rfl rfl (run_fieldAddr (.tmp rfl) fa52_0 (by first | exact Nat.zero_add _ | exact rfl)) ?_
  refine lstepB rfl rfl rfl (run_load1 (.tmp rfl) kd3 (by repeat (first | exact List.Mem.head _ | apply List.Mem.tail)) (by exact rfl)) ?_
  refine lstepB rfl rfl rfl (run_sub (.tmp rfl) (.tmp rfl) (by first | exact IntWalk.i64_in _ (by omega) | exact rfl)) ?_
  refine lstepB rfl rfl rfl (run_mul (.tmp rfl) (.tmp rfl) (by first | exact IntWalk.i64_in _ (by omega) | exact rfl)) ?_
  refine lstepB rfl rfl rfl (run_fieldAddr (.tmp rfl) fa52_1 (by first | exact Nat.zero_add _ | exact rfl)) ?_
  refine lstepB rfl rfl rfl (run_load1 (.tmp rfl) kd3 (by repeat (first | exact List.Mem.head _ | apply List.Mem.tail)) (by exact rfl)) ?_
  refine lstepB rfl rfl rfl (run_fieldAddr (.tmp rfl) fa52_1 (by first | exact Nat.zero_add _ | exact rfl)) ?_
  refine lstepB rfl rfl rfl (run_load1 (.tmp rfl) kd3 (by repeat (first | exact List.Mem.head _ | apply List.Mem.tail)) (by exact rfl)) ?_
  refine lstepB rfl rfl rfl (run_sub (.tmp rfl) (.tmp rfl) (by first | exact IntWalk.i64_in _ (by omega) | exact rfl)) ?_
  refine lstepB rfl rfl rfl (run_fieldAddr (.tmp rfl) fa52_1 (by first | exact Nat.zero_add _ | exact rfl)) ?_
  refine lstepB rfl rfl rfl (run_load1 (.tmp rfl) kd3 (by repeat (first | exact List.Mem.head _ | apply List.Mem.tail)) (by exact rfl)) ?_
  refine lstepB rfl rfl rfl (run_fieldAddr (.tmp rfl) fa52_1 (by first | exact Nat.zero_add _ | exact rfl)) ?_
  refine lstepB rfl rfl rfl (run_load1 (.tmp rfl) kd3 (by repeat (first | exact List.Mem.head _ | apply List.Mem.tail)) (by exact rfl)) ?_
  refine lstepB rfl rfl rfl (run_sub (.tmp rfl) (.tmp rfl) (by first | exact IntWalk.i64_in _ (by omega) | exact rfl)) ?_
  refine lstepB rfl rfl rfl (run_mul (.tmp rfl) (.tmp rfl) (by first | exact IntWalk.i64_in _ (by omega) | exact rfl)) ?_
  refine lstepB rfl rfl rfl (run_add (.tmp rfl) (.tmp rfl) (by first | exact IntWalk.i64_in _ (by omega) | exact rfl)) ?_
  refine lstepB rfl rfl rfl (run_assign (.tmp rfl)) ?_
  refine lnil ?_
  refine xw_then ?_
  refine cw_ret ?_
  refine xw_ret1 Try.results33 rfl (fun w hS => ⟨rfl, hS.kept⟩)
def twI (a b c : Pl) : Int := max ((b.x - a.x) * (c.y - a.y) - (c.x - a.x) * (b.y - a.y)) (-((b.x - a.x) * (c.y - a.y) - (c.x - a.x) * (b.y - a.y)))
def smallP (a : Pl) : Prop := 0 ≤ a.x ∧ a.x ≤ 1000 ∧ 0 ≤ a.y ∧ a.y ≤ 1000
set_option maxRecDepth 100000 in
set_option maxHeartbeats 4000000 in
theorem twice_any (a b c : Pl) (ha : smallP a) (hb : smallP b) (hc : smallP c) (w : World) : Gives Try.prog 34 [.agg [.int .i64 a.x, .int .i64 a.y].toArray, .agg [.int .i64 b.x, .int .i64 b.y].toArray, .agg [.int .i64 c.x, .int .i64 c.y].toArray] w (.int .i64 (twI a b c)) := by
  obtain ⟨a1, a2, a3, a4⟩ := ha
  obtain ⟨b1, b2, b3, b4⟩ := hb
  obtain ⟨c1, c2, c3, c4⟩ := hc
  have m1 := mulBd (x := b.x - a.x) (y := c.y - a.y) (m := 2000) (by omega) (by omega) (by omega) (by omega)
  have m2 := mulBd (x := c.x - a.x) (y := b.y - a.y) (m := 2000) (by omega) (by omega) (by omega) (by omega)
  refine .mk <| enter (n := 35) Try.func34 rfl rfl rfl (by repeat (first | exact Fill.nil | apply Fill.cons)) ?_
  refine cw_seq ?_
  refine cw_region ?_
  refine lstep rfl rfl rfl (run_boxN (.tmp rfl)) ?_
  intro b3 _
  refine lstep rfl rfl rfl (run_boxN (.tmp rfl)) ?_
  intro b4 _
  refine lstep rfl rfl rfl (run_boxN (.tmp rfl)) ?_
  intro b5 _
  refine lstepB rfl rfl rfl (run_assign .const) ?_
  refine lnil ?_
  refine xw_then ?_
  refine cw_seq ?_
  refine cw_region ?_
  refine lstepB rfl rfl rfl (run_fieldAddr (.tmp rfl) fa52_0 (by first | exact Nat.zero_add _ | exact rfl)) ?_
  refine lstepB rfl rfl rfl (run_load1 (.tmp rfl) kd3 (by repeat (first | exact List.Mem.head _ | apply List.Mem.tail)) (by exact rfl)) ?_
  refine lstepB rfl rfl rfl (run_fieldAddr (.tmp rfl) fa52_0 (by first | exact Nat.zero_add _ | exact rfl)) ?_
  refine lstepB rfl rfl rfl (run_load1 (.tmp rfl) kd3 (by repeat (first | exact List.Mem.head _ | apply List.Mem.tail)) (by exact rfl)) ?_
  refine lstepB rfl rfl rfl (run_sub (.tmp rfl) (.tmp rfl) (by first | exact IntWalk.i64_in _ (by omega) | exact rfl)) ?_
  refine lstepB rfl rfl rfl (run_fieldAddr (.tmp rfl) fa52_1 (by first | exact Nat.zero_add _ | exact rfl)) ?_
  refine lstepB rfl rfl rfl (run_load1 (.tmp rfl) kd3 (by repeat (first | exact List.Mem.head _ | apply List.Mem.tail)) (by exact rfl)) ?_
  refine lstepB rfl rfl rfl (run_fieldAddr (.tmp rfl) fa52_1 (by first | exact Nat.zero_add _ | exact rfl)) ?_
  refine lstepB rfl rfl rfl (run_load1 (.tmp rfl) kd3 (by repeat (first | exact List.Mem.head _ | apply List.Mem.tail)) (by exact rfl)) ?_
  refine lstepB rfl rfl rfl (run_sub (.tmp rfl) (.tmp rfl) (by first | exact IntWalk.i64_in _ (by omega) | exact rfl)) ?_
  refine lstepB rfl rfl rfl (run_mul (.tmp rfl) (.tmp rfl) (by first | exact IntWalk.i64_in _ (by omega) | exact rfl)) ?_
  refine lstepB rfl rfl rfl (run_fieldAddr (.tmp rfl) fa52_0 (by first | exact Nat.zero_add _ | exact rfl)) ?_
  refine lstepB rfl rfl rfl (run_load1 (.tmp rfl) kd3 (by repeat (first | exact List.Mem.head _ | apply List.Mem.tail)) (by exact rfl)) ?_
  refine lstepB rfl rfl rfl (run_fieldAddr (.tmp rfl) fa52_0 (by first | exact Nat.zero_add _ | exact rfl)) ?_
  refine lstepB rfl rfl rfl (run_load1 (.tmp rfl) kd3 (by repeat (first | exact List.Mem.head _ | apply List.Mem.tail)) (by exact rfl)) ?_
  refine lstepB rfl rfl rfl (run_sub (.tmp rfl) (.tmp rfl) (by first | exact IntWalk.i64_in _ (by omega) | exact rfl)) ?_
  refine lstepB rfl rfl rfl (run_fieldAddr (.tmp rfl) fa52_1 (by first | exact Nat.zero_add _ | exact rfl)) ?_
  refine lstepB rfl rfl rfl (run_load1 (.tmp rfl) kd3 (by repeat (first | exact List.Mem.head _ | apply List.Mem.tail)) (by exact rfl)) ?_
  refine lstepB rfl rfl rfl (run_fieldAddr (.tmp rfl) fa52_1 (by first | exact Nat.zero_add _ | exact rfl)) ?_
  refine lstepB rfl rfl rfl (run_load1 (.tmp rfl) kd3 (by repeat (first | exact List.Mem.head _ | apply List.Mem.tail)) (by exact rfl)) ?_
  refine lstepB rfl rfl rfl (run_sub (.tmp rfl) (.tmp rfl) (by first | exact IntWalk.i64_in _ (by omega) | exact rfl)) ?_
  refine lstepB rfl rfl rfl (run_mul (.tmp rfl) (.tmp rfl) (by first | exact IntWalk.i64_in _ (by omega) | exact rfl)) ?_
  refine lstepB rfl rfl rfl (run_sub (.tmp rfl) (.tmp rfl) (by first | exact IntWalk.i64_in _ (by omega) | exact rfl)) ?_
  refine lstepB rfl rfl rfl (run_assign (.tmp rfl)) ?_
  refine lnil ?_
  refine xw_then ?_
  refine cw_seq ?_
  refine cw_region ?_
  refine lstepB rfl rfl rfl (run_move (.tmp rfl)) ?_
  refine lstepB rfl rfl rfl (run_move (.tmp rfl)) ?_
  refine lstepB rfl rfl rfl (run_neg (.tmp rfl) (by first | exact IntWalk.i64_in _ (by omega) | exact rfl)) ?_
  refine lstepB rfl rfl rfl (run_max2 (.tmp rfl) (.tmp rfl)) ?_
  refine lstepB rfl rfl rfl (run_assign (.tmp rfl)) ?_
  refine lnil ?_
  refine xw_then ?_
  refine cw_ret ?_
  refine xw_ret1 Try.results34 rfl (fun w hS => ⟨rfl, hS.kept⟩)
def atPostB (q : Post) (s : Pl) : Bool := inB s.x q.xlo q.xhi && inB s.y q.ylo q.yhi
theorem atPostB_iff {q : Post} {s : Pl} : atPostB q s = true ↔ atPost q s := by
  simp only [atPostB, inB, Bool.and_eq_true, decide_eq_true_eq, atPost, and_assoc]
set_option maxRecDepth 100000 in
set_option maxHeartbeats 4000000 in
theorem at_any (s : Pl) (q : Post) (w : World) : Gives Try.prog 70 [.agg [.int .i64 s.x, .int .i64 s.y].toArray, .agg [.int .i64 q.xlo, .int .i64 q.xhi, .int .i64 q.ylo, .int .i64 q.yhi].toArray] w (.bool (atPostB q s)) := by
  cases h1 : inB s.x q.xlo q.xhi <;> cases h2 : inB s.y q.ylo q.yhi
  all_goals
    refine .mk <| enter (n := 25) Try.func70 rfl rfl rfl (by repeat (first | exact Fill.nil | apply Fill.cons)) ?_
    refine cw_seq ?_
    refine cw_region ?_
    refine lstep rfl rfl rfl (run_boxN (.tmp rfl)) ?_
    intro b2 _
    refine lstep rfl rfl rfl (run_boxN (.tmp rfl)) ?_
    intro b3 _
    refine lstepB rfl rfl rfl (run_assign .const) ?_
    refine lnil ?_
    refine xw_then ?_
    refine cw_seq ?_
    refine cw_region ?_
    refine lstepB rfl rfl rfl (run_fieldAddr (.tmp rfl) fa52_0 (by first | exact Nat.zero_add _ | exact rfl)) ?_
    refine lstepB rfl rfl rfl (run_load1 (.tmp rfl) kd3 (by repeat (first | exact List.Mem.head _ | apply List.Mem.tail)) (by exact rfl)) ?_
    refine lstepB rfl rfl rfl (run_fieldAddr (.tmp rfl) fa56_0 (by first | exact Nat.zero_add _ | exact rfl)) ?_
    refine lstepB rfl rfl rfl (run_fieldAddr (.tmp rfl) fa32_0 (by first | exact Nat.zero_add _ | exact rfl)) ?_
    refine lstepB rfl rfl rfl (run_load1 (.tmp rfl) kd3 (by repeat (first | exact List.Mem.head _ | apply List.Mem.tail)) (by exact rfl)) ?_
    refine lstepB rfl rfl rfl (run_fieldAddr (.tmp rfl) fa56_0 (by first | exact Nat.zero_add _ | exact rfl)) ?_
    refine lstepB rfl rfl rfl (run_fieldAddr (.tmp rfl) fa32_1 (by first | exact Nat.zero_add _ | exact rfl)) ?_
    refine lstepB rfl rfl rfl (run_load1 (.tmp rfl) kd3 (by repeat (first | exact List.Mem.head _ | apply List.Mem.tail)) (by exact rfl)) ?_
    refine lstepB rfl rfl rfl (run_call1 cb73 (.cons (.tmp rfl) (.cons (.tmp rfl) (.cons (.tmp rfl) .nil))) (fun w _ => (rinK _ _ _ w).as (by rw [h1]))) ?_
    refine lstepB rfl rfl rfl (run_move (.tmp rfl)) ?_
    first | (refine lyes rfl rfl rfl rfl ?_; refine gstepB rfl rfl (run_fieldAddr (.tmp rfl) fa52_1 (by first | exact Nat.zero_add _ | exact rfl)) ?_) | refine lskip rfl rfl rfl rfl rfl rfl rfl ?_
    first | (refine lyes rfl rfl rfl rfl ?_; refine gstepB rfl rfl (run_load1 (.tmp rfl) kd3 (by repeat (first | exact List.Mem.head _ | apply List.Mem.tail)) (by exact rfl)) ?_) | refine lskip rfl rfl rfl rfl rfl rfl rfl ?_
    first | (refine lyes rfl rfl rfl rfl ?_; refine gstepB rfl rfl (run_fieldAddr (.tmp rfl) fa56_1 (by first | exact Nat.zero_add _ | exact rfl)) ?_) | refine lskip rfl rfl rfl rfl rfl rfl rfl ?_
    first | (refine lyes rfl rfl rfl rfl ?_; refine gstepB rfl rfl (run_fieldAddr (.tmp rfl) fa32_0 (by first | exact Nat.zero_add _ | exact rfl)) ?_) | refine lskip rfl rfl rfl rfl rfl rfl rfl ?_
    first | (refine lyes rfl rfl rfl rfl ?_; refine gstepB rfl rfl (run_load1 (.tmp rfl) kd3 (by repeat (first | exact List.Mem.head _ | apply List.Mem.tail)) (by exact rfl)) ?_) | refine lskip rfl rfl rfl rfl rfl rfl rfl ?_
    first | (refine lyes rfl rfl rfl rfl ?_; refine gstepB rfl rfl (run_fieldAddr (.tmp rfl) fa56_1 (by first | exact Nat.zero_add _ | exact rfl)) ?_) | refine lskip rfl rfl rfl rfl rfl rfl rfl ?_
    first | (refine lyes rfl rfl rfl rfl ?_; refine gstepB rfl rfl (run_fieldAddr (.tmp rfl) fa32_1 (by first | exact Nat.zero_add _ | exact rfl)) ?_) | refine lskip rfl rfl rfl rfl rfl rfl rfl ?_
    first | (refine lyes rfl rfl rfl rfl ?_; refine gstepB rfl rfl (run_load1 (.tmp rfl) kd3 (by repeat (first | exact List.Mem.head _ | apply List.Mem.tail)) (by exact rfl)) ?_) | refine lskip rfl rfl rfl rfl rfl rfl rfl ?_
    first | (refine lyes rfl rfl rfl rfl ?_; refine gstepB rfl rfl (run_call1 cb73 (.cons (.tmp rfl) (.cons (.tmp rfl) (.cons (.tmp rfl) .nil))) (fun w _ => (rinK _ _ _ w).as (by rw [h2]))) ?_) | refine lskip rfl rfl rfl rfl rfl rfl rfl ?_
    refine lstepB rfl rfl rfl (by first | exact run_pick_true (.tmp rfl) (.tmp rfl) | exact run_pick_false (.tmp rfl) .const) ?_
    refine lstepB rfl rfl rfl (run_assign (.tmp rfl)) ?_
    refine lnil ?_
    refine xw_then ?_
    refine cw_ret ?_
    refine xw_ret1 Try.results70 rfl (fun w hS => ⟨by simp [atPostB, *], hS.kept⟩)
end Go.Proofs.Ytkjciobphbcknaa
namespace Go.Proofs.Ytkjciobphbcknaa
open Go.RowKit En

/-- What is drawn from: numbers, read at b0, o0. -/
def ByIn (w : World) (b0 o0 len : Nat) : Prop := ∀ i, i < len → ∃ x : Int, 0 ≤ x ∧ x ≤ 65535 ∧ w.cell? ⟨b0, o0 + i, none⟩ = some (.int .u16 x)
theorem ByIn.old {w w' : World} {T : Nat → Prop} {H : Heap} {b0 o0 len : Nat} (h : ByIn w b0 o0 len) (hS : St w T H w') (hT : ¬ T b0) : ByIn w' b0 o0 len := fun i hi => by
  obtain ⟨x, h1, h2, h3⟩ := h i hi
  exact ⟨x, h1, h2, hS.old_cell hT h3⟩
set_option maxRecDepth 100000 in
set_option maxHeartbeats 4000000 in
theorem draw_any (n : Int) (hn : 1 ≤ n) (hn2 : n ≤ 1000) (a : Nat) (ha : a ≤ 1000000) (cb yb b0 o0 len cap : Nat) (h0 : 0 < len) (hm : len ≤ 9223372036854775807) (hne : cb ≠ yb) (hT1 : b0 ≠ cb) (hT2 : b0 ≠ yb) (w : World)
    (hc : w.heap[cb]? = some (Obj.cells [.int .i64 (a : Int)].toArray 3 (0, 0))) (hy : w.heap[yb]? = some (Obj.cells [.slice (some ⟨b0, o0, none⟩) len cap].toArray 45 (0, 0))) (hby : ByIn w b0 o0 len) :
    Calls Try.prog 72 [.int .i64 n, .pointer (some ⟨cb, 0, none⟩), .pointer (some ⟨yb, 0, none⟩)].toArray w fun e w' => ∃ r : Int, (0 ≤ r ∧ r < n) ∧ e = .returned (.int .i64 r) ∧ Tr w w' [(cb, Obj.cells [.int .i64 (a : Int)].toArray 3 (0, 0))] [(cb, Obj.cells [.int .i64 ((a + 1 : Nat) : Int)].toArray 3 (0, 0))] := by
  have hlt := Nat.mod_lt (a + 1) h0
  obtain ⟨x, hx0, hx1, hx⟩ := hby ((a + 1) % len) hlt
  generalize hix : (a + 1) % len = ix at *
  refine enterT (n := 20) (T := fun k => k = cb ∨ k = yb) (H := [(cb, Obj.cells [.int .i64 (a : Int)].toArray 3 (0, 0)), (yb, Obj.cells [.slice (some ⟨b0, o0, none⟩) len cap].toArray 45 (0, 0))]) Try.func72 rfl rfl rfl (by repeat (first | exact Fill.nil | apply Fill.cons)) (fun z hz => ?_) (by simp [hne]) ?_
  · simp only [List.mem_cons, List.not_mem_nil, or_false] at hz
    rcases hz with rfl | rfl
    · exact ⟨hc, .inl rfl⟩
    · exact ⟨hy, .inr rfl⟩
  refine cw_seq ?_
  refine cw_region ?_
  refine lstepB rfl rfl rfl (run_assign .const) ?_
  refine lnil ?_
  refine xw_then ?_
  refine cw_seq ?_
  refine cw_region ?_
  refine lstepB rfl rfl rfl (run_load1 (.tmp rfl) kd3 (by repeat (first | exact List.Mem.head _ | apply List.Mem.tail)) (by exact rfl)) ?_
  refine lstepB rfl rfl rfl (run_add (.tmp rfl) .const (show IntKind.i64.wrap ((a : Int) + 1) = ((a + 1 : Nat) : Int) from (IntWalk.i64_in _ (by omega)).trans (by omega))) ?_
  refine lstep0 rfl rfl (run_store1 (.tmp rfl) (.tmp rfl) rfl sz3 (by repeat (first | exact Upd.here | apply Upd.there)) (by repeat (first | exact Put.done | apply Put.put | apply Put.skip))) ?_
  refine lnil ?_
  refine xw_then ?_
  refine cw_seq ?_
  refine cw_chain2 (σ := [0, 1, 2, 3, 4, 5, 6, 7, 8, 9, 10, 11, 12, 13]) [⟨0, [1], [], [], 0⟩, ⟨0, [0], [], [], 0⟩, ⟨0, [1], [], [], 0⟩, ⟨0, [], [], [], 4⟩, ⟨0, [], [], [], 14⟩, ⟨0, [], [], [], 31⟩, ⟨0, [], [], [], 63⟩, ⟨0, [], [], [], 127⟩, ⟨0, [0], [], [], 0⟩, ⟨0, [], [], [], 256⟩, ⟨0, [], [], [], 1023⟩, ⟨0, [], [], [], 0⟩, ⟨0, [], [], [], 4095⟩, ⟨0, [], [], [], 8191⟩] [(0, _), (1, _)] (by kernel_rfl) (by kernel_rfl) rfl ?_
  refine .det (B := []) rfl rfl (.inl rfl) (.cons rfl .nil) .nil rfl (RunB.lr (run_load1 (.tmp rfl) kd45 (by repeat (first | exact List.Mem.head _ | apply List.Mem.tail)) (by exact rfl))) ?_
  refine .det (B := []) rfl rfl (.inl rfl) (.cons rfl .nil) .nil rfl (RunB.lr (run_load1 (.tmp rfl) kd3 (by repeat (first | exact List.Mem.head _ | apply List.Mem.tail)) (by exact rfl))) ?_
  refine .det (B := []) rfl rfl (.inl rfl) (.cons rfl .nil) .nil rfl (RunB.lr (run_load1 (.tmp rfl) kd45 (by repeat (first | exact List.Mem.head _ | apply List.Mem.tail)) (by exact rfl))) ?_
  refine .det (B := []) rfl rfl (.inl rfl) .nil .nil rfl (RunB.lr (run_len (.tmp rfl) sl45)) ?_
  refine .det (B := []) rfl rfl (.inl rfl) .nil .nil rfl (RunB.lr ((run_rem_nat (.tmp rfl) (.tmp rfl) h0))) ?_
  simp only [hix]
  refine .det (B := []) rfl rfl (.inl rfl) .nil .nil rfl (RunB.lr (run_indexAddr (.tmp rfl) (.tmp rfl) el45 (by omega) (congrArg (_ + ·) (Nat.mul_one _)))) ?_
  refine .det (B := []) rfl rfl (.inl rfl) .nil .nil rfl (RunB.lr (run_load1_at (.tmp rfl) kd126 (fun w hS => hS.old_cell (by simp [hT1, hT2]) hx))) ?_
  refine .det (B := []) rfl rfl (.inl rfl) .nil .nil rfl (RunB.lr (run_convert_at (.tmp rfl) (fun w => cv126_3 (by first | exact IntWalk.i64_in _ (by omega) | exact rfl) w))) ?_
  refine .det (B := []) rfl rfl (.inl rfl) (.cons rfl .nil) .nil rfl (RunB.lr (run_load1 (.tmp rfl) kd3 (by repeat (first | exact List.Mem.head _ | apply List.Mem.tail)) (by exact rfl))) ?_
  refine .det (B := []) rfl rfl (.inl rfl) .nil .nil rfl (RunB.lr (run_mul .const (.tmp rfl) (by first | exact IntWalk.i64_in _ (by omega) | exact rfl))) ?_
  refine .det (B := []) rfl rfl (.inl rfl) .nil .nil rfl (RunB.lr (run_add (.tmp rfl) (.tmp rfl) (by first | exact IntWalk.i64_in _ (by omega) | exact rfl))) ?_
  refine .det (B := []) rfl rfl (.inl rfl) .nil .nil rfl (RunB.lr (run_move (.tmp rfl))) ?_
  refine .det (B := []) rfl rfl (.inl rfl) .nil .nil rfl (RunB.lr (run_rem (.tmp rfl) (.tmp rfl) (by omega) (by omega))) ?_
  refine .det (B := []) rfl rfl (.inl rfl) .nil .nil rfl (RunB.lr (run_assign (.tmp rfl))) ?_
  refine chain_nil (ts := [0, 1]) (.cons rfl (.cons rfl .nil)) (by decide) ?_
  refine xw_then ?_
  refine cw_ret ?_
  refine xw_ret1 Try.results72 rfl (fun w1 hS => ⟨(x + 19 * ((a + 1 : Nat) : Int)) % n, ⟨Int.emod_nonneg _ (by omega), Int.emod_lt_of_pos _ (by omega)⟩, rfl, ?_⟩)
  refine hS.toTr (fun k hk => ?_) (fun z hz => ?_) (fun z hz => ?_) (List.pairwise_singleton _ _)
  · rcases hk with rfl | rfl
    · exact .inl ⟨_, List.mem_singleton.2 rfl, rfl⟩
    · exact .inr ⟨_, by simp, hy⟩
  · rw [List.mem_singleton] at hz; subst hz; simp
  · rw [List.mem_singleton] at hz; subst hz; exact .inl ⟨_, List.mem_singleton.2 rfl, rfl⟩
end Go.Proofs.Ytkjciobphbcknaa
namespace Go.Proofs.Ytkjciobphbcknaa
open Go.RowKit En

/-! The root. -/
def rootTo (n : Nat) : Nat → Nat
  | 0 => 0
  | k + 1 => if (k + 1) * (k + 1) ≤ n then k + 1 else rootTo n k
def rootN (n : Nat) : Nat := rootTo n n
theorem rootTo_spec (n : Nat) : ∀ k, rootTo n k * rootTo n k ≤ n ∧ ∀ r, r ≤ k → r * r ≤ n → r ≤ rootTo n k
  | 0 => ⟨by simp [rootTo], fun r h _ => by simpa [rootTo] using h⟩
  | k + 1 => by
    obtain ⟨h1, h2⟩ := rootTo_spec n k
    unfold rootTo
    split
    · rename_i h
      exact ⟨h, fun r hr _ => hr⟩
    · rename_i h
      refine ⟨h1, fun r hr hrr => ?_⟩
      by_cases e : r = k + 1
      · subst e; exact absurd hrr h
      · exact h2 r (by omega) hrr
theorem root_of {k n : Nat} (h : k * k ≤ n) (h2 : ¬ (k + 1) * (k + 1) ≤ n) : rootN n = k := by
  obtain ⟨h3, h4⟩ := rootTo_spec n n
  have hk : k ≤ n := Nat.le_trans (Nat.le_mul_self k) h
  have h5 : k ≤ rootN n := h4 k hk h
  by_cases e : rootN n = k
  · exact e
  · have : k + 1 ≤ rootN n := by omega
    exact absurd (Nat.le_trans (Nat.mul_le_mul this this) h3) h2
theorem root_spec (n : Nat) : rootN n * rootN n ≤ n ∧ n < (rootN n + 1) * (rootN n + 1) := by
  obtain ⟨h3, h4⟩ := rootTo_spec n n
  refine ⟨h3, ?_⟩
  by_cases h : (rootN n + 1) * (rootN n + 1) ≤ n
  · have := h4 (rootN n + 1) (Nat.le_trans (Nat.le_mul_self _) h) h
    have : rootN n + 1 ≤ rootN n := this
    omega
  · omega

/-! Rows. -/
def qlCells (L : List Pl) : List Value := L.flatMap fun s => [.int .i64 s.x, .int .i64 s.y]
theorem qlCells_length (L : List Pl) : (qlCells L).length = L.length * 2 := by
  induction L with
  | nil => rfl
  | cons a l ih => simp only [qlCells, List.flatMap_cons, List.length_append, List.length_cons, List.length_nil] at *; omega
theorem qlCells_snoc (L : List Pl) (s : Pl) : qlCells (L ++ [s]) = qlCells L ++ [.int .i64 s.x, .int .i64 s.y] := by simp [qlCells]
theorem postCells_snoc (L : List Post) (p : Post) : postCells (L ++ [p]) = postCells L ++ [.int .i64 p.xlo, .int .i64 p.xhi, .int .i64 p.ylo, .int .i64 p.yhi] := by simp [postCells]
theorem qlCells_at : ∀ (L : List Pl) (i : Nat) (s : Pl), L[i]? = some s → (qlCells L)[i * 2]? = some (.int .i64 s.x) ∧ (qlCells L)[i * 2 + 1]? = some (.int .i64 s.y)
  | [], i, l, h => by simp at h
  | x :: r, 0, l, h => by simp at h; subst h; simp [qlCells]
  | x :: r, i + 1, l, h => by
    obtain ⟨h1, h2⟩ := qlCells_at r i l (by simpa using h)
    simp only [qlCells, List.flatMap_cons] at *
    rw [show (i + 1) * 2 = 2 + i * 2 by omega, show 2 + i * 2 + 1 = 2 + (i * 2 + 1) by omega]
    constructor
    · rw [List.getElem?_append_right (by simp)]; simpa using h1
    · rw [List.getElem?_append_right (by simp)]; simp only [List.length_cons, List.length_nil, Nat.zero_add]; rw [show 2 + (i * 2 + 1) - (1 + 1) = i * 2 + 1 by omega]; exact h2
theorem posts_of_row {w : World} {g cap : Nat} {cur : List Value} {L : List Post} (h : w.heap[g]? = some (Obj.cells cur.toArray 56 (0, 0))) (hr : InRow 4 L.length cap cur (postCells L)) : PostsIn w (some ⟨g, 0, none⟩) L := fun i s hi => by
  obtain ⟨c1, c2, c3, c4⟩ := postCells_at L i s hi
  refine ⟨g, 0, rfl, (Array.getElem?_eq_some_iff.1 h).1, ?_⟩
  have d1 := hr.get c1; have d2 := hr.get c2; have d3 := hr.get c3; have d4 := hr.get c4
  simp only [World.cell?, h]
  exact ⟨by simpa using d1, by simpa using d2, by simpa using d3, by simpa using d4⟩
theorem lens_of_row {w : World} {g cap : Nat} {cur : List Value} {L : List Len} (h : w.heap[g]? = some (Obj.cells cur.toArray 65 (0, 0))) (hr : InRow 4 L.length cap cur (lenCells L)) : LensIn w (some ⟨g, 0, none⟩) L := fun i s hi => by
  obtain ⟨c1, c2, c3, c4⟩ := lenCells_at L i s hi
  refine ⟨g, 0, rfl, (Array.getElem?_eq_some_iff.1 h).1, ?_⟩
  have d1 := hr.get c1; have d2 := hr.get c2; have d3 := hr.get c3; have d4 := hr.get c4
  simp only [World.cell?, h]
  exact ⟨by simpa using d1, by simpa using d2, by simpa using d3, by simpa using d4⟩
def QlsIn (w : World) (pa : Option Addr) (L : List Pl) : Prop :=
  ∀ i s, L[i]? = some s → ∃ b o, pa = some ⟨b, o, none⟩ ∧ b < w.heap.size ∧ w.cell? ⟨b, o + i * 2, none⟩ = some (.int .i64 s.x) ∧ w.cell? ⟨b, o + i * 2 + 1, none⟩ = some (.int .i64 s.y)
theorem pls_of_row {w : World} {g cap : Nat} {cur : List Value} {L : List Pl} (h : w.heap[g]? = some (Obj.cells cur.toArray 52 (0, 0))) (hr : InRow 2 L.length cap cur (qlCells L)) : QlsIn w (some ⟨g, 0, none⟩) L := fun i s hi => by
  obtain ⟨c1, c2⟩ := qlCells_at L i s hi
  refine ⟨g, 0, rfl, (Array.getElem?_eq_some_iff.1 h).1, ?_⟩
  have d1 := hr.get c1; have d2 := hr.get c2
  simp only [World.cell?, h]
  exact ⟨by simpa using d1, by simpa using d2⟩

/-! What is so of what was made. -/
structure MGood (side : Int) (ps : List Post) (qs : List Pl) (m : Int) : Prop where
  len : ps.length = qs.length
  m0 : -1 ≤ m
  m1 : m < ps.length
  each : ∀ (i : Nat) q s, ps[i]? = some q → qs[i]? = some s → postB side q = true ∧ inField side s ∧ (atPost q s ↔ (i : Int) ≠ m)
theorem MGood.nil (side : Int) : MGood side [] [] (-1) := ⟨rfl, Int.le_refl _, by simp, fun i q s h => by simp at h⟩
theorem MGood.snoc {side m m' : Int} {ps : List Post} {qs : List Pl} {q : Post} {s : Pl} (h : MGood side ps qs m) (hq : postB side q = true) (hs : inField side s) (hm : m' = m ∧ atPost q s ∨ m = -1 ∧ m' = ps.length ∧ ¬ atPost q s) : MGood side (ps ++ [q]) (qs ++ [s]) m' := by
  obtain ⟨h1, h2, h3, h4⟩ := h
  refine ⟨by simp [h1], by omega, by simp only [List.length_append, List.length_singleton]; omega, fun i q' s' hq' hs' => ?_⟩
  by_cases hi : i < ps.length
  · rw [List.getElem?_append_left hi] at hq'
    rw [List.getElem?_append_left (by omega)] at hs'
    obtain ⟨e1, e2, e3⟩ := h4 i q' s' hq' hs'
    refine ⟨e1, e2, e3.trans ?_⟩
    rcases hm with ⟨rfl, _⟩ | ⟨rfl, rfl, _⟩
    · exact Iff.rfl
    · exact ⟨fun _ => by omega, fun _ => by omega⟩
  · rw [List.getElem?_append_right (by omega)] at hq'
    rw [List.getElem?_append_right (by omega)] at hs'
    have e : i - ps.length = 0 := by
      have := (List.getElem?_eq_some_iff.1 hq').1
      simp at this; omega
    rw [e] at hq'
    rw [show i - qs.length = 0 by omega] at hs'
    simp only [List.getElem?_cons_zero, Option.some.injEq] at hq' hs'
    subst hq'; subst hs'
    refine ⟨hq, hs, ?_⟩
    have hi2 : i = ps.length := by omega
    rcases hm with ⟨rfl, hp⟩ | ⟨_, rfl, hp⟩
    · exact ⟨fun _ => by omega, fun _ => hp⟩
    · exact ⟨fun h => absurd h hp, fun h => absurd (by omega) h⟩
/-- A length that was told right. -/
def LenGood (qs : List Pl) (l : Len) : Prop := ∃ (a b : Nat) (s t : Pl), l.a = a ∧ l.b = b ∧ a ≠ b ∧ qs[a]? = some s ∧ qs[b]? = some t ∧ 0 ≤ l.lo ∧ l.lo ≤ l.hi ∧ l.hi ≤ 30 ∧ l.lo * l.lo ≤ apartI s t ∧ apartI s t ≤ l.hi * l.hi

/-! What is drawn, as it is called. -/
theorem drawC {w0 : World} {T : Nat → Prop} {n : Int} {a cb yb b0 o0 len cap : Nat} (hn : 1 ≤ n) (hn2 : n ≤ 1000) (ha : a ≤ 1000000) (h0 : 0 < len) (hm : len ≤ 9223372036854775807) (hne : cb ≠ yb) (hT : ¬ T b0) (hT1 : b0 ≠ cb) (hT2 : b0 ≠ yb) (hby : ByIn w0 b0 o0 len) :
    ∀ w, St w0 T [(yb, Obj.cells [.slice (some ⟨b0, o0, none⟩) len cap].toArray 45 (0, 0))] w → (∀ x, x ∈ [(cb, Obj.cells [.int .i64 (a : Int)].toArray 3 (0, 0))] → w.heap[x.1]? = some x.2) →
      Calls Try.prog 72 [.int .i64 n, .pointer (some ⟨cb, 0, none⟩), .pointer (some ⟨yb, 0, none⟩)].toArray w fun e w' => ∃ r : Int, (0 ≤ r ∧ r < n) ∧ e = .returned (.int .i64 r) ∧ Tr w w' [(cb, Obj.cells [.int .i64 (a : Int)].toArray 3 (0, 0))] [(cb, Obj.cells [.int .i64 ((a + 1 : Nat) : Int)].toArray 3 (0, 0))] :=
  fun w hS hA => draw_any n hn hn2 a ha cb yb b0 o0 len cap h0 hm hne hT1 hT2 w (hA (cb, _) (by simp)) (hS.own (yb, _) (by simp)).1 (hby.old hS hT)
end Go.Proofs.Ytkjciobphbcknaa
namespace Go.Proofs.Ytkjciobphbcknaa
open Go.RowKit En

set_option maxRecDepth 100000 in
set_option maxHeartbeats 4000000 in
theorem root_any (n : Nat) (hn : n ≤ 1000000) (w : World) : Gives Try.prog 71 [.int .i64 (n : Int)] w (.int .i64 (rootN n : Int)) := by
  refine .mk <| enter (n := 14) Try.func71 rfl rfl rfl (by repeat (first | exact Fill.nil | apply Fill.cons)) ?_
  refine cw_seq ?_
  refine cw_region ?_
  refine lstepB rfl rfl rfl (run_assign .const) ?_
  refine lnil ?_
  refine xw_then ?_
  refine cw_seq ?_
  refine cw_region ?_
  refine lstepB rfl rfl rfl (run_assign .const) ?_
  refine lnil ?_
  refine xw_then ?_
  refine cw_seq ?_
  refine cw_block ?_
  refine cw_loop (S := Nat) (fun k => [(3, .int .i64 (k : Int))]) [(0, _)] (fun k => []) (fun k => k * k ≤ n) (fun k => n - k) 0 (Nat.zero_le _) (by repeat (first | exact Less.nil | refine Less.cons rfl ?_)) (by repeat (first | exact Pick.nil | (apply Pick.cons; focus (repeat (first | exact Del.here | apply Del.there))))) ?_
  intro k hk
  have hk1 : k ≤ 1000 := by
    by_cases h : k ≤ 1000
    · exact h
    · have := Nat.mul_le_mul (show 1001 ≤ k by omega) (show 1001 ≤ k by omega); omega
  have h2 : (k + 1) * (k + 1) ≤ 1002001 := Nat.mul_le_mul (show k + 1 ≤ 1001 by omega) (show k + 1 ≤ 1001 by omega)
  have hm : ((k : Int) + 1) * ((k : Int) + 1) ≤ 1002001 := by have h3 := Int.ofNat_le.2 h2; simpa using h3
  have hm0 : 0 ≤ ((k : Int) + 1) * ((k : Int) + 1) := by exact_mod_cast Nat.zero_le ((k + 1) * (k + 1))
  refine cw_seq ?_
  refine cw_seq ?_
  refine cw_region ?_
  refine lstepB rfl rfl rfl (run_move (.tmp rfl)) ?_
  refine lstepB rfl rfl rfl (run_add (.tmp rfl) .const (by first | exact IntWalk.i64_in _ (by omega) | exact rfl)) ?_
  refine lstepB rfl rfl rfl (run_move (.tmp rfl)) ?_
  refine lstepB rfl rfl rfl (run_add (.tmp rfl) .const (by first | exact IntWalk.i64_in _ (by omega) | exact rfl)) ?_
  refine lstepB rfl rfl rfl (run_mul (.tmp rfl) (.tmp rfl) (by first | exact IntWalk.i64_in _ (by omega) | exact rfl)) ?_
  refine lstepB rfl rfl rfl (run_move (.tmp rfl)) ?_
  refine lstepB rfl rfl rfl (run_leq (.tmp rfl) (.tmp rfl) (by first | exact decide_eq_true (by omega) | exact decide_eq_false (by omega) | exact rfl)) ?_
  refine lnil ?_
  refine xw_then ?_
  refine cw_cond_p (.tmp rfl) (fun hc => ?_) (fun hc => ?_)
  ·
    refine cw_skip ?_
    refine xw_then ?_
    refine cw_block ?_
    refine cw_region ?_
    refine lstepB rfl rfl rfl (run_move (.tmp rfl)) ?_
    refine lstepB rfl rfl rfl (run_add (.tmp rfl) .const (by first | exact IntWalk.i64_in _ (by omega) | exact rfl)) ?_
    refine lstepB rfl rfl rfl (run_assign (.tmp rfl)) ?_
    refine lnil ?_
    refine xw_in ?_
    have hc2 : (k + 1) * (k + 1) ≤ n := by have := hc; exact_mod_cast this
    exact xw_round (k + 1) hc2 (by have := Nat.le_mul_self (k + 1); omega) (by repeat (first | exact Less.nil | refine Less.cons rfl ?_)) (by repeat (first | exact Pick.nil | (apply Pick.cons; focus (repeat (first | exact Del.here | apply Del.there)))))
  ·
    refine cw_exit ?_
    refine xw_then_exit ?_
    refine xw_then_exit ?_
    refine xw_in_exit ?_
    refine xw_then ?_
    refine cw_seq ?_
    refine cw_region ?_
    refine lstepB rfl rfl rfl (run_move (.tmp rfl)) ?_
    refine lstepB rfl rfl rfl (run_assign (.tmp rfl)) ?_
    refine lnil ?_
    refine xw_then ?_
    refine cw_ret ?_
    refine xw_ret1 Try.results71 rfl (fun w hS => ⟨by rw [root_of hk (fun h => hc (by exact_mod_cast h))], hS.kept⟩)
end Go.Proofs.Ytkjciobphbcknaa
namespace Go.Proofs.Ytkjciobphbcknaa
open Go.RowKit En
structure Made where
  p : PegsD
  qs : List Pl
  m : Int
  pa : Option Addr
  la : Option Addr
  qa : Option Addr
  pc : Nat
  lc : Nat
  qc : Nat
def MadeF (s : Made) (w : World) : Prop :=
  PegsIn w s.p s.pa s.la ∧ QlsIn w s.qa s.qs ∧ 4 ≤ s.p.side ∧ s.p.side ≤ 8 ∧ s.p.ps.length ≤ 3 ∧ s.p.ls.length ≤ 6 ∧ MGood s.p.side s.p.ps s.qs s.m ∧ ∀ l ∈ s.p.ls, LenGood s.qs l
structure RowO where
  g : Nat
  c : Nat
  r : List Value
def rowV (o : Option RowO) (n : Nat) : Value := match o with | none => .slice none 0 0 | some r => .slice (some ⟨r.g, 0, none⟩) n r.c
def rowH (o : Option RowO) (e : TypeId) : Heap := match o with | none => [] | some r => [(r.g, Obj.cells r.r.toArray e (0, 0))]
def rowIs (o : Option RowO) (sz n : Nat) (xs : List Value) : Prop := match o with | none => n = 0 ∧ xs = [] | some r => InRow sz n r.c r.r xs
/-- The pegs so far. -/
structure L1 where
  k : Nat
  a : Nat
  m : Int
  ps : List Post
  qs : List Pl
  o : Option (RowO × RowO)
def L1.p (s : L1) : Option RowO := s.o.map (·.1)
def L1.q (s : L1) : Option RowO := s.o.map (·.2)
def L1.ok (side : Int) (n : Nat) (s : L1) : Prop := s.k ≤ n ∧ s.ps.length = s.k ∧ s.a ≤ 100 + 20 * s.k ∧ MGood side s.ps s.qs s.m ∧ (s.o = none → s.k = 0) ∧ rowIs s.p 4 s.k (postCells s.ps) ∧ rowIs s.q 2 s.k (qlCells s.qs)
/-- Where a peg comes to stand. -/
structure M1 where
  a : Nat
  m : Int
  s : Pl
theorem posts_ne (ps : List Post) (q : Post) : postCells ps ++ [.int .i64 q.xlo, .int .i64 q.xhi, .int .i64 q.ylo, .int .i64 q.yhi] = postCells (ps ++ [q]) := (postCells_snoc ps q).symm
theorem qls_ne (qs : List Pl) (s : Pl) : qlCells qs ++ [.int .i64 s.x, .int .i64 s.y] = qlCells (qs ++ [s]) := (qlCells_snoc qs s).symm
theorem postB_of {side x y r1 r2 r3 r4 : Int} (hx : 0 ≤ x ∧ x ≤ side) (hy : 0 ≤ y ∧ y ≤ side) (h1 : 0 ≤ r1 ∧ r1 < 2) (h2 : 0 ≤ r2 ∧ r2 < 2) (h3 : 0 ≤ r3 ∧ r3 < 2) (h4 : 0 ≤ r4 ∧ r4 < 2) :
    postB side ⟨max 0 (x - r1), min side (x + r2), max 0 (y - r3), min side (y + r4)⟩ = true ∧ atPost ⟨max 0 (x - r1), min side (x + r2), max 0 (y - r3), min side (y + r4)⟩ ⟨x, y⟩ := by
  simp only [postB, narrowB, withinB, atPost, Bool.and_eq_true, decide_eq_true_eq]
  omega
def rowA (o : Option RowO) : Option Addr := o.map fun r => ⟨r.g, 0, none⟩
def rowC (o : Option RowO) : Nat := match o with | none => 0 | some r => r.c
theorem rowV_eq {sz n : Nat} {xs : List Value} {o : Option RowO} (h : rowIs o sz n xs) : rowV o n = .slice (rowA o) n (rowC o) := by
  cases o with
  | none => obtain ⟨rfl, _⟩ := h; rfl
  | some r => rfl
theorem posts_of_rowO {w : World} {o : Option RowO} {ps : List Post} {k : Nat} (hk : ps.length = k) (hH : ∀ z, z ∈ rowH o 56 → w.heap[z.1]? = some z.2) (hr : rowIs o 4 k (postCells ps)) : PostsIn w (rowA o) ps := by
  subst hk
  cases o with
  | none => obtain ⟨h, _⟩ := hr; intro i s hi; rw [List.eq_nil_of_length_eq_zero h] at hi; cases hi
  | some r => exact posts_of_row (hH (r.g, _) (by simp [rowH])) hr
theorem lens_of_rowO {w : World} {o : Option RowO} {ls : List Len} {k : Nat} (hk : ls.length = k) (hH : ∀ z, z ∈ rowH o 65 → w.heap[z.1]? = some z.2) (hr : rowIs o 4 k (lenCells ls)) : LensIn w (rowA o) ls := by
  subst hk
  cases o with
  | none => obtain ⟨h, _⟩ := hr; intro i s hi; rw [List.eq_nil_of_length_eq_zero h] at hi; cases hi
  | some r => exact lens_of_row (hH (r.g, _) (by simp [rowH])) hr
theorem pls_of_rowO {w : World} {o : Option RowO} {qs : List Pl} {k : Nat} (hk : qs.length = k) (hH : ∀ z, z ∈ rowH o 52 → w.heap[z.1]? = some z.2) (hr : rowIs o 2 k (qlCells qs)) : QlsIn w (rowA o) qs := by
  subst hk
  cases o with
  | none => obtain ⟨h, _⟩ := hr; intro i s hi; rw [List.eq_nil_of_length_eq_zero h] at hi; cases hi
  | some r => exact pls_of_row (hH (r.g, _) (by simp [rowH])) hr
theorem made_end {w w' : World} {cb yb a k j : Nat} {side m : Int} {ps : List Post} {qs : List Pl} {ls : List Len} {y : Obj} {H : Heap} (oP oQ oL : Option RowO) (hS : St w (fun k => k = cb ∨ k = yb) H w')
    (hcb : (cb, Obj.cells [.int .i64 (a : Int)].toArray 3 (0, 0)) ∈ H) (hyb : (yb, y) ∈ H) (hy : w.heap[yb]? = some y) (hP : ∀ z, z ∈ rowH oP 56 → z ∈ H) (hQ : ∀ z, z ∈ rowH oQ 52 → z ∈ H) (hL : ∀ z, z ∈ rowH oL 65 → z ∈ H)
    (iP : rowIs oP 4 k (postCells ps)) (iQ : rowIs oQ 2 k (qlCells qs)) (iL : rowIs oL 4 j (lenCells ls)) (hps : ps.length = k) (hls : ls.length = j) (hg : MGood side ps qs m) (hlen : ∀ l ∈ ls, LenGood qs l) (h4 : 4 ≤ side) (h8 : side ≤ 8) (hk : k ≤ 3) (hj : j ≤ 6) :
    ∃ s : Made, MadeF s w' ∧ Ending.returned (.tuple #[.agg #[.int .i64 side, rowV oP k, rowV oL j], rowV oQ k, .int .i64 m]) = .returned (.tuple #[.agg #[.int .i64 s.p.side, .slice s.pa s.p.ps.length s.pc, .slice s.la s.p.ls.length s.lc], .slice s.qa s.qs.length s.qc, .int .i64 s.m]) ∧
      ∃ a' : Nat, Tr w w' [(cb, Obj.cells [.int .i64 ((0 : Nat) : Int)].toArray 3 (0, 0))] [(cb, Obj.cells [.int .i64 (a' : Int)].toArray 3 (0, 0))] := by
  have hqs : qs.length = k := by rw [← hps, hg.len]
  refine ⟨⟨⟨side, ps, ls⟩, qs, m, rowA oP, rowA oL, rowA oQ, rowC oP, rowC oL, rowC oQ⟩, ⟨⟨posts_of_rowO hps (fun z hz => (hS.own z (hP z hz)).1) iP, lens_of_rowO hls (fun z hz => (hS.own z (hL z hz)).1) iL⟩, pls_of_rowO hqs (fun z hz => (hS.own z (hQ z hz)).1) iQ, h4, h8, by simp only; omega, by simp only; omega, hg, hlen⟩, ?_, a, ?_⟩
  · simp only [hps, hls, hqs]
    rw [rowV_eq iP, rowV_eq iQ, rowV_eq iL]
  · refine hS.toTr (fun k hk => ?_) (fun z hz => ?_) (fun z hz => ?_) (List.pairwise_singleton _ _)
    · rcases hk with rfl | rfl
      · exact .inl ⟨_, List.mem_singleton.2 rfl, rfl⟩
      · exact .inr ⟨_, hyb, hy⟩
    · rw [List.mem_singleton] at hz; subst hz; exact hcb
    · rw [List.mem_singleton] at hz; subst hz; exact .inl ⟨_, List.mem_singleton.2 rfl, rfl⟩
/-- The other peg. -/
theorem other_of {i k : Nat} {r : Int} (hi : i < k) (h0 : 0 ≤ r) (h1 : r < (k : Int) - 1) : ∃ d : Nat, ((i : Int) + 1 + r) % (k : Int) = d ∧ d < k ∧ d ≠ i := by
  by_cases h : (i : Int) + 1 + r < k
  · exact ⟨((i : Int) + 1 + r).toNat, by rw [Int.emod_eq_of_lt (by omega) h]; omega, by omega, by omega⟩
  · refine ⟨((i : Int) + 1 + r - k).toNat, ?_, by omega, by omega⟩
    have e : ((i : Int) + 1 + r) % (k : Int) = ((i : Int) + 1 + r - k) % (k : Int) := by
      conv => lhs; rw [show (i : Int) + 1 + r = ((i : Int) + 1 + r - k) + k * 1 by omega]
      rw [Int.add_mul_emod_self_left]
    rw [e, Int.emod_eq_of_lt (by omega) (by omega)]; omega
theorem MGood.field {side m : Int} {ps : List Post} {qs : List Pl} (h : MGood side ps qs m) {i : Nat} {s : Pl} (hs : qs[i]? = some s) : 0 ≤ s.x ∧ s.x ≤ side ∧ 0 ≤ s.y ∧ s.y ≤ side := by
  have hi := (List.getElem?_eq_some_iff.1 hs).1
  exact (h.each i (ps[i]'(by rw [h.len]; exact hi)) s (List.getElem?_eq_getElem _) hs).2.1
theorem sq_of {s t : Pl} {side : Int} (hs : 0 ≤ s.x ∧ s.x ≤ side ∧ 0 ≤ s.y ∧ s.y ≤ side) (ht : 0 ≤ t.x ∧ t.x ≤ side ∧ 0 ≤ t.y ∧ t.y ≤ side) (h8 : side ≤ 8) : ∃ N : Nat, sqI s.x s.y t.x t.y = (N : Int) ∧ N ≤ 128 := by
  have e : ∀ u : Int, -8 ≤ u → u ≤ 8 → 0 ≤ u * u ∧ u * u ≤ 64 := fun u h1 h2 => by
    have m := mulBd (x := u) (y := u) (m := 8) h1 h2 h1 h2
    refine ⟨?_, by omega⟩
    rcases Int.le_total 0 u with h | h
    · exact Int.mul_nonneg h h
    · have := Int.mul_nonneg (show 0 ≤ -u by omega) (show 0 ≤ -u by omega); rwa [Int.neg_mul_neg] at this
  have e1 := e (s.x - t.x) (by omega) (by omega)
  have e2 := e (s.y - t.y) (by omega) (by omega)
  refine ⟨(sqI s.x s.y t.x t.y).toNat, ?_, ?_⟩ <;> unfold sqI <;> omega
theorem root_le {R N : Nat} (h : R * R ≤ N) (hN : N ≤ 128) : R ≤ 11 := by
  by_cases h2 : R ≤ 11
  · exact h2
  · have := Nat.mul_le_mul (show 12 ≤ R by omega) (show 12 ≤ R by omega); omega
theorem lenGood_of {qs : List Pl} {i d N R : Nat} {s t : Pl} {u v : Int} (hs : qs[i]? = some s) (ht : qs[d]? = some t) (hne : d ≠ i) (hN : sqI s.x s.y t.x t.y = (N : Int)) (h1 : R * R ≤ N) (h2 : N < (R + 1) * (R + 1)) (h3 : R ≤ 11) (hu : 0 ≤ u ∧ u < 2) (hv : 0 ≤ v ∧ v < 2) : LenGood qs ⟨i, d, max 0 ((R : Int) - u), (R : Int) + 1 + v⟩ := by
  have hN' : apartI s t = (N : Int) := hN
  refine ⟨i, d, s, t, rfl, rfl, fun e => hne e.symm, hs, ht, by simp only; omega, by simp only; omega, by simp only; omega, ?_, ?_⟩
  · rw [hN']
    have h0 : 0 ≤ max 0 ((R : Int) - u) := by omega
    have hle : max 0 ((R : Int) - u) ≤ R := by omega
    have := Int.mul_le_mul hle hle h0 (by omega)
    have h4 := Int.ofNat_le.2 h1
    simp only [Int.natCast_mul] at h4
    exact Int.le_trans this h4
  · rw [hN']
    have hle : (R : Int) + 1 ≤ (R : Int) + 1 + v := by omega
    have := Int.mul_le_mul hle hle (by omega) (by omega)
    have h4 := Int.ofNat_lt.2 h2
    simp only [Int.natCast_mul, Int.natCast_add] at h4
    simp only at *
    exact Int.le_trans (Int.le_of_lt h4) this
theorem rowQ_get {k c i : Nat} {r : List Value} {qs : List Pl} {s : Pl} (hQ : InRow 2 k c r (qlCells qs)) (h : qs[i]? = some s) : ∀ j v, [Value.int .i64 s.x, .int .i64 s.y][j]? = some v → r[0 + i * 2 + j]? = some v := fun j v hj => by
  obtain ⟨c1, c2⟩ := qlCells_at qs i s h
  match j, hj with
  | 0, hj => simp only [List.getElem?_cons_zero] at hj; rw [← hj]; rw [show 0 + i * 2 + 0 = i * 2 by omega]; exact hQ.get c1
  | 1, hj => simp only [List.getElem?_cons_succ, List.getElem?_cons_zero] at hj; rw [← hj]; rw [show 0 + i * 2 + 1 = i * 2 + 1 by omega]; exact hQ.get c2
  | j + 2, hj => simp at hj
/-- The lengths so far. -/
structure L2 where
  j : Nat
  a : Nat
  ls : List Len
  o : Option RowO
def L2.ok (qs : List Pl) (r : Nat) (s : L2) : Prop := s.j ≤ r ∧ s.ls.length = s.j ∧ s.a ≤ 200 + 10 * s.j ∧ (∀ l ∈ s.ls, LenGood qs l) ∧ (s.o = none → s.j = 0) ∧ rowIs s.o 4 s.j (lenCells s.ls)
end Go.Proofs.Ytkjciobphbcknaa
