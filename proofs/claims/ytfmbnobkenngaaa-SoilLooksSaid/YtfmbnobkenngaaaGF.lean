/- Package soil: classes. -/
import Derived.Test.YtfmbnobkenngaaaGE
import Derived.Test.YtfmbnobkenngaaaET
namespace Go.Proofs.Ytfmbnobkenngaaa
open Go.RowKit En

theorem at145 : arrT Try.prog 145 = some (3, 144) := by kernel_rfl
theorem bd144 {a : Int} {f : FuncId} (w : World) : (Instr.build 144 [(0, .int .i64 a), (1, .func (.func f) #[] #[])].toArray).run Try.prog w = .ok (.agg [.int .i64 a, .func (.func f) #[] #[]].toArray) w := by simp [go_sem]
theorem bd145 {a b c : Int} {f g h : FuncId} (w : World) : (Instr.build 145 [(0, .agg [.int .i64 a, .func (.func f) #[] #[]].toArray), (1, .agg [.int .i64 b, .func (.func g) #[] #[]].toArray), (2, .agg [.int .i64 c, .func (.func h) #[] #[]].toArray)].toArray).run Try.prog w = .ok (.agg [.int .i64 a, .func (.func f) #[] #[], .int .i64 b, .func (.func g) #[] #[], .int .i64 c, .func (.func h) #[] #[]].toArray) w := by simp [go_sem]
def classN (sand silt clay : Int) : Nat := if 8 ≤ clay then 3 else if 14 ≤ sand then 1 else if 12 ≤ silt then 2 else 0
theorem classN_lt (a b c : Int) : classN a b c < 4 := by unfold classN; split <;> (try split) <;> (try split) <;> omega
set_option maxRecDepth 100000 in
set_option maxHeartbeats 4000000 in
theorem kind113K (sand silt clay : Int) (w : World) : Gives Try.prog 113 [.int .i64 sand, .int .i64 silt, .int .i64 clay] w (.bool (decide (8 ≤ clay))) := by
  refine .mk <| enter (n := 9) Try.func113 rfl rfl rfl (by repeat (first | exact Fill.nil | apply Fill.cons)) ?_
  refine cw_seq ?_
  refine cw_region ?_
  refine lstepB rfl rfl rfl (run_assign .const) ?_
  refine lnil ?_
  refine xw_then ?_
  refine cw_seq ?_
  refine cw_region ?_
  refine lstepB rfl rfl rfl (run_move (.tmp rfl)) ?_
  refine lstepB rfl rfl rfl (run_geq (.tmp rfl) .const rfl) ?_
  refine lstepB rfl rfl rfl (run_assign (.tmp rfl)) ?_
  refine lnil ?_
  refine xw_then ?_
  refine cw_ret ?_
  refine xw_ret1 Try.results113 rfl (fun w hS => ⟨rfl, hS.kept⟩)
set_option maxRecDepth 100000 in
set_option maxHeartbeats 4000000 in
theorem kind114K (sand silt clay : Int) (w : World) : Gives Try.prog 114 [.int .i64 sand, .int .i64 silt, .int .i64 clay] w (.bool (decide (14 ≤ sand))) := by
  refine .mk <| enter (n := 9) Try.func114 rfl rfl rfl (by repeat (first | exact Fill.nil | apply Fill.cons)) ?_
  refine cw_seq ?_
  refine cw_region ?_
  refine lstepB rfl rfl rfl (run_assign .const) ?_
  refine lnil ?_
  refine xw_then ?_
  refine cw_seq ?_
  refine cw_region ?_
  refine lstepB rfl rfl rfl (run_move (.tmp rfl)) ?_
  refine lstepB rfl rfl rfl (run_geq (.tmp rfl) .const rfl) ?_
  refine lstepB rfl rfl rfl (run_assign (.tmp rfl)) ?_
  refine lnil ?_
  refine xw_then ?_
  refine cw_ret ?_
  refine xw_ret1 Try.results114 rfl (fun w hS => ⟨rfl, hS.kept⟩)
set_option maxRecDepth 100000 in
set_option maxHeartbeats 4000000 in
theorem kind115K (sand silt clay : Int) (w : World) : Gives Try.prog 115 [.int .i64 sand, .int .i64 silt, .int .i64 clay] w (.bool (decide (12 ≤ silt))) := by
  refine .mk <| enter (n := 9) Try.func115 rfl rfl rfl (by repeat (first | exact Fill.nil | apply Fill.cons)) ?_
  refine cw_seq ?_
  refine cw_region ?_
  refine lstepB rfl rfl rfl (run_assign .const) ?_
  refine lnil ?_
  refine xw_then ?_
  refine cw_seq ?_
  refine cw_region ?_
  refine lstepB rfl rfl rfl (run_move (.tmp rfl)) ?_
  refine lstepB rfl rfl rfl (run_geq (.tmp rfl) .const rfl) ?_
  refine lstepB rfl rfl rfl (run_assign (.tmp rfl)) ?_
  refine lnil ?_
  refine xw_then ?_
  refine cw_ret ?_
  refine xw_ret1 Try.results115 rfl (fun w hS => ⟨rfl, hS.kept⟩)
set_option maxRecDepth 100000 in
set_option maxHeartbeats 4000000 in
theorem kindsK (w : World) : Gives Try.prog 104 [] w (.agg [.int .i64 3, .func (.func 113) #[] #[], .int .i64 1, .func (.func 114) #[] #[], .int .i64 2, .func (.func 115) #[] #[]].toArray) := by
  refine .mk <| enter (n := 5) Try.func104 rfl rfl rfl (by repeat (first | exact Fill.nil | apply Fill.cons)) ?_
  refine cw_seq ?_
  refine cw_region ?_
  refine lstep rfl rfl rfl (run_alloc zr145) ?_
  intro b0 _
  refine lnil ?_
  refine xw_then ?_
  refine cw_seq ?_
  refine cw_region ?_
  refine lstepB rfl rfl rfl (run_build_at (.cons .const (.cons .func .nil)) (fun w => bd144 w)) ?_
  refine lstepB rfl rfl rfl (run_build_at (.cons .const (.cons .func .nil)) (fun w => bd144 w)) ?_
  refine lstepB rfl rfl rfl (run_build_at (.cons .const (.cons .func .nil)) (fun w => bd144 w)) ?_
  refine lstepB rfl rfl rfl (run_build_at (.cons (.tmp rfl) (.cons (.tmp rfl) (.cons (.tmp rfl) .nil))) (fun w => bd145 w)) ?_
  refine lstep0 rfl rfl (run_storeN (.tmp rfl) (.tmp rfl) rfl sz145 rfl (by repeat (first | exact Upd.here | apply Upd.there)) (by repeat (first | exact Put.done | apply Put.put | apply Put.skip))) ?_
  refine lnil ?_
  refine xw_then ?_
  refine cw_ret ?_
  refine xw_retC1 rfl rfl kd145 sz145 (by repeat (first | exact List.Mem.head _ | apply List.Mem.tail)) (by repeat (first | exact Sub.done | apply Sub.take | apply Sub.skip)) (fun w hS => ⟨rfl, hS.kept⟩)
set_option maxRecDepth 100000 in
set_option maxHeartbeats 4000000 in
theorem classOfK (sand silt clay : Int) (w : World) : Gives Try.prog 88 [.int .i64 sand, .int .i64 silt, .int .i64 clay] w (.int .i64 ((classN sand silt clay : Nat) : Int)) := by
  refine .mk <| enter (n := 22) Try.func88 rfl rfl rfl (by repeat (first | exact Fill.nil | apply Fill.cons)) ?_
  refine cw_seq ?_
  refine cw_region ?_
  refine lstepB rfl rfl rfl (run_assign .const) ?_
  refine lnil ?_
  refine xw_then ?_
  refine cw_seq ?_
  refine cw_seq ?_
  refine cw_region ?_
  refine lstepB rfl rfl rfl (run_call1 cb104 .nil (fun w _ => kindsK w)) ?_
  refine lstepB rfl rfl rfl (run_move .const) ?_
  refine lnil ?_
  refine xw_then ?_
  refine cw_block ?_
  refine cw_loop (S := Nat) (fun k => [(10, .int .i64 (k : Int))]) [(0, _), (1, _), (2, _), (9, _)] (fun k => []) (fun k => k ≤ 3 ∧ (1 ≤ k → clay < 8) ∧ (2 ≤ k → sand < 14) ∧ (3 ≤ k → silt < 12)) (fun k => 3 - k) 0 ⟨by omega, fun h => by omega, fun h => by omega, fun h => by omega⟩ (by repeat (first | exact Less.nil | refine Less.cons rfl ?_)) (by repeat (first | exact Pick.nil | (apply Pick.cons; focus (repeat (first | exact Del.here | apply Del.there))))) ?_
  intro k hk
  obtain ⟨h1, h2, h3, h4⟩ := hk
  match k, h1, h2, h3, h4 with
  | 0, h1, h2, h3, h4 =>
    refine cw_seq ?_
    refine cw_region ?_
    refine lstepB rfl rfl rfl (run_lss (.tmp rfl) .const (by first | exact decide_eq_true (by omega) | exact decide_eq_false (by omega) | exact rfl)) ?_
    refine lnil ?_
    refine xw_then ?_
    refine cw_seq ?_
    refine cw_cond_true (.tmp rfl) ?_
    refine cw_skip ?_
    refine xw_then ?_
    refine cw_seq ?_
    refine cw_block ?_
    refine cw_seq ?_
    refine cw_region ?_
    refine lstepB rfl rfl rfl (run_indexN (.tmp rfl) (.tmp rfl) at145 kd144 sz144 (by omega) (by repeat (first | exact Sub.done | apply Sub.take | apply Sub.skip))) ?_
    refine lstep rfl rfl rfl (run_alloc zr144) ?_
    intro b8 _
    refine lstep0 rfl rfl (run_storeN (.tmp rfl) (.tmp rfl) rfl sz144 rfl (by repeat (first | exact Upd.here | apply Upd.there)) (by repeat (first | exact Put.done | apply Put.put | apply Put.skip))) ?_
    refine lnil ?_
    refine xw_then ?_
    refine cw_seq ?_
    refine cw_region ?_
    refine lstepB rfl rfl rfl (run_fieldAddr (.tmp rfl) fa144_1 (by first | exact Nat.zero_add _ | exact rfl)) ?_
    refine lstepB rfl rfl rfl (run_load1 (.tmp rfl) kd101 (by repeat (first | exact List.Mem.head _ | apply List.Mem.tail)) (by exact rfl)) ?_
    refine lstepB rfl rfl rfl (run_move (.tmp rfl)) ?_
    refine lstepB rfl rfl rfl (run_move (.tmp rfl)) ?_
    refine lstepB rfl rfl rfl (run_move (.tmp rfl)) ?_
    refine lstepB rfl rfl rfl (run_callv1 cb113 (.tmp rfl) (.cons (.tmp rfl) (.cons (.tmp rfl) (.cons (.tmp rfl) .nil))) rfl (fun w _ => kind113K _ _ _ w)) ?_
    refine lnil ?_
    refine xw_then ?_
    refine cw_cond_p (.tmp rfl) (fun hc => ?_) (fun hc => ?_)
    ·
      refine cw_seq ?_
      refine cw_region ?_
      refine lstepB rfl rfl rfl (run_fieldAddr (.tmp rfl) fa144_0 (by first | exact Nat.zero_add _ | exact rfl)) ?_
      refine lstepB rfl rfl rfl (run_load1 (.tmp rfl) kd3 (by repeat (first | exact List.Mem.head _ | apply List.Mem.tail)) (by exact rfl)) ?_
      refine lstepB rfl rfl rfl (run_assign (.tmp rfl)) ?_
      refine lnil ?_
      refine xw_then ?_
      refine cw_ret ?_
      refine xw_in_ret ?_
      refine xw_then_ret ?_
      refine xw_then_ret ?_
      refine xw_in_ret ?_
      refine xw_then_ret ?_
      refine xw_ret1 Try.results88 rfl (fun w hS => ⟨by rw [show classN sand silt clay = 3 from by unfold classN; simp only [hc, if_true, if_pos]]; rfl, hS.kept⟩)
    ·
      refine cw_skip ?_
      refine xw_in ?_
      refine xw_then ?_
      refine cw_region ?_
      refine lstepB rfl rfl rfl (run_add (.tmp rfl) .const (by first | exact IntWalk.i64_in _ (by omega) | exact rfl)) ?_
      refine lstepB rfl rfl rfl (run_move (.tmp rfl)) ?_
      refine lnil ?_
      exact xw_round 1 ⟨by omega, fun _ => by omega, fun _ => by omega, fun _ => by omega⟩ (by show 3 - _ < 3 - _; omega) (by repeat (first | exact Less.nil | refine Less.cons rfl ?_)) (by repeat (first | exact Pick.nil | (apply Pick.cons; focus (repeat (first | exact Del.here | apply Del.there)))))
  | 1, h1, h2, h3, h4 =>
    refine cw_seq ?_
    refine cw_region ?_
    refine lstepB rfl rfl rfl (run_lss (.tmp rfl) .const (by first | exact decide_eq_true (by omega) | exact decide_eq_false (by omega) | exact rfl)) ?_
    refine lnil ?_
    refine xw_then ?_
    refine cw_seq ?_
    refine cw_cond_true (.tmp rfl) ?_
    refine cw_skip ?_
    refine xw_then ?_
    refine cw_seq ?_
    refine cw_block ?_
    refine cw_seq ?_
    refine cw_region ?_
    refine lstepB rfl rfl rfl (run_indexN (.tmp rfl) (.tmp rfl) at145 kd144 sz144 (by omega) (by repeat (first | exact Sub.done | apply Sub.take | apply Sub.skip))) ?_
    refine lstep rfl rfl rfl (run_alloc zr144) ?_
    intro b8 _
    refine lstep0 rfl rfl (run_storeN (.tmp rfl) (.tmp rfl) rfl sz144 rfl (by repeat (first | exact Upd.here | apply Upd.there)) (by repeat (first | exact Put.done | apply Put.put | apply Put.skip))) ?_
    refine lnil ?_
    refine xw_then ?_
    refine cw_seq ?_
    refine cw_region ?_
    refine lstepB rfl rfl rfl (run_fieldAddr (.tmp rfl) fa144_1 (by first | exact Nat.zero_add _ | exact rfl)) ?_
    refine lstepB rfl rfl rfl (run_load1 (.tmp rfl) kd101 (by repeat (first | exact List.Mem.head _ | apply List.Mem.tail)) (by exact rfl)) ?_
    refine lstepB rfl rfl rfl (run_move (.tmp rfl)) ?_
    refine lstepB rfl rfl rfl (run_move (.tmp rfl)) ?_
    refine lstepB rfl rfl rfl (run_move (.tmp rfl)) ?_
    refine lstepB rfl rfl rfl (run_callv1 cb114 (.tmp rfl) (.cons (.tmp rfl) (.cons (.tmp rfl) (.cons (.tmp rfl) .nil))) rfl (fun w _ => kind114K _ _ _ w)) ?_
    refine lnil ?_
    refine xw_then ?_
    refine cw_cond_p (.tmp rfl) (fun hc => ?_) (fun hc => ?_)
    ·
      refine cw_seq ?_
      refine cw_region ?_
      refine lstepB rfl rfl rfl (run_fieldAddr (.tmp rfl) fa144_0 (by first | exact Nat.zero_add _ | exact rfl)) ?_
      refine lstepB rfl rfl rfl (run_load1 (.tmp rfl) kd3 (by repeat (first | exact List.Mem.head _ | apply List.Mem.tail)) (by exact rfl)) ?_
      refine lstepB rfl rfl rfl (run_assign (.tmp rfl)) ?_
      refine lnil ?_
      refine xw_then ?_
      refine cw_ret ?_
      refine xw_in_ret ?_
      refine xw_then_ret ?_
      refine xw_then_ret ?_
      refine xw_in_ret ?_
      refine xw_then_ret ?_
      refine xw_ret1 Try.results88 rfl (fun w hS => ⟨by rw [show classN sand silt clay = 1 from by unfold classN; simp only [hc, if_true, if_pos]; rw [if_neg (by omega)]]; rfl, hS.kept⟩)
    ·
      refine cw_skip ?_
      refine xw_in ?_
      refine xw_then ?_
      refine cw_region ?_
      refine lstepB rfl rfl rfl (run_add (.tmp rfl) .const (by first | exact IntWalk.i64_in _ (by omega) | exact rfl)) ?_
      refine lstepB rfl rfl rfl (run_move (.tmp rfl)) ?_
      refine lnil ?_
      exact xw_round 2 ⟨by omega, fun _ => by omega, fun _ => by omega, fun _ => by omega⟩ (by show 3 - _ < 3 - _; omega) (by repeat (first | exact Less.nil | refine Less.cons rfl ?_)) (by repeat (first | exact Pick.nil | (apply Pick.cons; focus (repeat (first | exact Del.here | apply Del.there)))))
  | 2, h1, h2, h3, h4 =>
    refine cw_seq ?_
    refine cw_region ?_
    refine lstepB rfl rfl rfl (run_lss (.tmp rfl) .const (by first | exact decide_eq_true (by omega) | exact decide_eq_false (by omega) | exact rfl)) ?_
    refine lnil ?_
    refine xw_then ?_
    refine cw_seq ?_
    refine cw_cond_true (.tmp rfl) ?_
    refine cw_skip ?_
    refine xw_then ?_
    refine cw_seq ?_
    refine cw_block ?_
    refine cw_seq ?_
    refine cw_region ?_
    refine lstepB rfl rfl rfl (run_indexN (.tmp rfl) (.tmp rfl) at145 kd144 sz144 (by omega) (by repeat (first | exact Sub.done | apply Sub.take | apply Sub.skip))) ?_
    refine lstep rfl rfl rfl (run_alloc zr144) ?_
    intro b8 _
    refine lstep0 rfl rfl (run_storeN (.tmp rfl) (.tmp rfl) rfl sz144 rfl (by repeat (first | exact Upd.here | apply Upd.there)) (by repeat (first | exact Put.done | apply Put.put | apply Put.skip))) ?_
    refine lnil ?_
    refine xw_then ?_
    refine cw_seq ?_
    refine cw_region ?_
    refine lstepB rfl rfl rfl (run_fieldAddr (.tmp rfl) fa144_1 (by first | exact Nat.zero_add _ | exact rfl)) ?_
    refine lstepB rfl rfl rfl (run_load1 (.tmp rfl) kd101 (by repeat (first | exact List.Mem.head _ | apply List.Mem.tail)) (by exact rfl)) ?_
    refine lstepB rfl rfl rfl (run_move (.tmp rfl)) ?_
    refine lstepB rfl rfl rfl (run_move (.tmp rfl)) ?_
    refine lstepB rfl rfl rfl (run_move (.tmp rfl)) ?_
    refine lstepB rfl rfl rfl (run_callv1 cb115 (.tmp rfl) (.cons (.tmp rfl) (.cons (.tmp rfl) (.cons (.tmp rfl) .nil))) rfl (fun w _ => kind115K _ _ _ w)) ?_
    refine lnil ?_
    refine xw_then ?_
    refine cw_cond_p (.tmp rfl) (fun hc => ?_) (fun hc => ?_)
    ·
      refine cw_seq ?_
      refine cw_region ?_
      refine lstepB rfl rfl rfl (run_fieldAddr (.tmp rfl) fa144_0 (by first | exact Nat.zero_add _ | exact rfl)) ?_
      refine lstepB rfl rfl rfl (run_load1 (.tmp rfl) kd3 (by repeat (first | exact List.Mem.head _ | apply List.Mem.tail)) (by exact rfl)) ?_
      refine lstepB rfl rfl rfl (run_assign (.tmp rfl)) ?_
      refine lnil ?_
      refine xw_then ?_
      refine cw_ret ?_
      refine xw_in_ret ?_
      refine xw_then_ret ?_
      refine xw_then_ret ?_
      refine xw_in_ret ?_
      refine xw_then_ret ?_
      refine xw_ret1 Try.results88 rfl (fun w hS => ⟨by rw [show classN sand silt clay = 2 from by unfold classN; simp only [hc, if_true, if_pos]; rw [if_neg (by omega), if_neg (by omega)]]; rfl, hS.kept⟩)
    ·
      refine cw_skip ?_
      refine xw_in ?_
      refine xw_then ?_
      refine cw_region ?_
      refine lstepB rfl rfl rfl (run_add (.tmp rfl) .const (by first | exact IntWalk.i64_in _ (by omega) | exact rfl)) ?_
      refine lstepB rfl rfl rfl (run_move (.tmp rfl)) ?_
      refine lnil ?_
      exact xw_round 3 ⟨by omega, fun _ => by omega, fun _ => by omega, fun _ => by omega⟩ (by show 3 - _ < 3 - _; omega) (by repeat (first | exact Less.nil | refine Less.cons rfl ?_)) (by repeat (first | exact Pick.nil | (apply Pick.cons; focus (repeat (first | exact Del.here | apply Del.there)))))
  | 3, h1, h2, h3, h4 =>
    refine cw_seq ?_
    refine cw_region ?_
    refine lstepB rfl rfl rfl (run_lss (.tmp rfl) .const (by first | exact decide_eq_true (by omega) | exact decide_eq_false (by omega) | exact rfl)) ?_
    refine lnil ?_
    refine xw_then ?_
    refine cw_seq ?_
    refine cw_cond_false (.tmp rfl) ?_
    refine cw_exit ?_
    refine xw_then_exit ?_
    refine xw_then_exit ?_
    refine xw_in_exit ?_
    refine xw_then ?_
    refine cw_seq ?_
    refine cw_region ?_
    refine lstepB rfl rfl rfl (run_assign .const) ?_
    refine lnil ?_
    refine xw_then ?_
    refine cw_ret ?_
    refine xw_ret1 Try.results88 rfl (fun w hS => ⟨by rw [show classN sand silt clay = 0 from by unfold classN; rw [if_neg (by omega), if_neg (by omega), if_neg (by omega)]]; rfl, hS.kept⟩)
theorem or16 : ∀ a b : Fin 16, IntKind.i64.wrap ((BitVec.ofInt IntKind.i64.bits (a.1 : Int) ||| BitVec.ofInt IntKind.i64.bits (b.1 : Int)).toNat) = ((a.1 ||| b.1 : Nat) : Int) := by decide +kernel
theorem shl4 : ∀ c : Fin 4, IntKind.i64.wrap (1 * 2 ^ (min ((c.1 : Int)).toNat IntKind.i64.bits)) = ((2 ^ c.1 : Nat) : Int) := by decide +kernel
theorem pow4 : ∀ c : Fin 4, 2 ^ c.1 < 16 := by decide +kernel
def lenS (s : SpanD) : Nat := (s.hi + 1 - s.lo).toNat
/-- The classes of the soils of a mix with so much sand and silt, put to others. -/
def clStep (m : MixD) (sand : Int) (set : Nat) (silt : Int) : Nat := if inS m.clay (20 - sand - silt) then set ||| 2 ^ classN sand silt (20 - sand - silt) else set
def clRow (m : MixD) (sand : Int) (set n : Nat) : Nat := (List.range n).foldl (fun (s j : Nat) => clStep m sand s (m.silt.lo + (j : Int))) set
def clAll (m : MixD) (n : Nat) : Nat := (List.range n).foldl (fun (s i : Nat) => clRow m (m.sand.lo + (i : Int)) s (lenS m.silt)) 0
def classesM (m : MixD) : Nat := clAll m (lenS m.sand)
theorem clStep_lt {m : MixD} {sand silt : Int} {set : Nat} (h : set < 16) : clStep m sand set silt < 16 := by
  unfold clStep
  split
  · exact Nat.or_lt_two_pow (n := 4) h (pow4 ⟨_, classN_lt _ _ _⟩)
  · exact h
theorem clRow_succ (m : MixD) (sand : Int) (set n : Nat) : clRow m sand set (n + 1) = clStep m sand (clRow m sand set n) (m.silt.lo + (n : Int)) := by
  simp [clRow, List.range_succ, List.foldl_append]
theorem clRow_lt {m : MixD} {sand : Int} {set : Nat} (h : set < 16) (n : Nat) : clRow m sand set n < 16 := by
  induction n with
  | zero => exact h
  | succ n ih => rw [clRow_succ]; exact clStep_lt ih
theorem clAll_succ (m : MixD) (n : Nat) : clAll m (n + 1) = clRow m (m.sand.lo + (n : Int)) (clAll m n) (lenS m.silt) := by
  simp [clAll, List.range_succ, List.foldl_append]
theorem clAll_lt (m : MixD) (n : Nat) : clAll m n < 16 := by
  induction n with
  | zero => show 0 < 16; omega
  | succ n ih => rw [clAll_succ]; exact clRow_lt ih _
set_option maxRecDepth 100000 in
set_option maxHeartbeats 4000000 in
theorem classesK (m : MixD) (h : SmM m) (w : World) : Gives Try.prog 56 [.agg [.int .i64 m.sand.lo, .int .i64 m.sand.hi, .int .i64 m.silt.lo, .int .i64 m.silt.hi, .int .i64 m.clay.lo, .int .i64 m.clay.hi].toArray] w (.int .i64 ((classesM m : Nat) : Int)) := by
  obtain ⟨⟨h1, h2, h3, h4⟩, ⟨g1, g2, g3, g4⟩, ⟨f1, f2, f3, f4⟩⟩ := h
  refine .mk <| enter (n := 43) Try.func56 rfl rfl rfl (by repeat (first | exact Fill.nil | apply Fill.cons)) ?_
  refine cw_seq ?_
  refine cw_region ?_
  refine lstep rfl rfl rfl (run_boxN (.tmp rfl)) ?_
  intro b1 _
  refine lstepB rfl rfl rfl (run_assign .const) ?_
  refine lnil ?_
  refine xw_then ?_
  refine cw_seq ?_
  refine cw_region ?_
  refine lstepB rfl rfl rfl (run_assign .const) ?_
  refine lnil ?_
  refine xw_then ?_
  refine cw_seq ?_
  refine cw_seq ?_
  refine cw_region ?_
  refine lstepB rfl rfl rfl (run_fieldAddr (.tmp rfl) fa85_0 (by first | exact Nat.zero_add _ | exact rfl)) ?_
  refine lstepB rfl rfl rfl (run_fieldAddr (.tmp rfl) fa28_0 (by first | exact Nat.zero_add _ | exact rfl)) ?_
  refine lstepB rfl rfl rfl (run_load1 (v := .int .i64 (m.sand.lo + ((0 : Nat) : Int))) (.tmp rfl) kd3 (by repeat (first | exact List.Mem.head _ | apply List.Mem.tail)) (by simp)) ?_
  refine lstepB rfl rfl rfl (run_assign (.tmp rfl)) ?_
  refine lnil ?_
  refine xw_then ?_
  refine cw_block ?_
  refine cw_loop (S := Nat) (fun i => [(3, .int .i64 ((clAll m i : Nat) : Int)), (4, .int .i64 (m.sand.lo + (i : Int)))]) [(1, _)] (fun i => [(_, _)]) (fun i => i ≤ lenS m.sand) (fun i => lenS m.sand - i) 0 (Nat.zero_le _) (by repeat (first | exact Less.nil | refine Less.cons rfl ?_)) (by repeat (first | exact Pick.nil | (apply Pick.cons; focus (repeat (first | exact Del.here | apply Del.there))))) ?_
  intro i hi
  refine cw_seq ?_
  refine cw_seq ?_
  refine cw_region ?_
  refine lstepB rfl rfl rfl (run_move (.tmp rfl)) ?_
  refine lstepB rfl rfl rfl (run_fieldAddr (.tmp rfl) fa85_0 (by first | exact Nat.zero_add _ | exact rfl)) ?_
  refine lstepB rfl rfl rfl (run_fieldAddr (.tmp rfl) fa28_1 (by first | exact Nat.zero_add _ | exact rfl)) ?_
  refine lstepB rfl rfl rfl (run_load1 (.tmp rfl) kd3 (by repeat (first | exact List.Mem.head _ | apply List.Mem.tail)) (by exact rfl)) ?_
  refine lstepB rfl rfl rfl (run_leq (.tmp rfl) (.tmp rfl) rfl) ?_
  refine lnil ?_
  refine xw_then ?_
  refine cw_cond_p (.tmp rfl) (fun hi2 => ?_) (fun hi2 => ?_)
  ·
    refine cw_skip ?_
    refine xw_then ?_
    refine cw_seq ?_
    refine cw_block ?_
    refine cw_seq ?_
    refine cw_region ?_
    refine lstepB rfl rfl rfl (run_fieldAddr (.tmp rfl) fa85_1 (by first | exact Nat.zero_add _ | exact rfl)) ?_
    refine lstepB rfl rfl rfl (run_fieldAddr (.tmp rfl) fa28_0 (by first | exact Nat.zero_add _ | exact rfl)) ?_
    refine lstepB rfl rfl rfl (run_load1 (v := .int .i64 (m.silt.lo + ((0 : Nat) : Int))) (.tmp rfl) kd3 (by repeat (first | exact List.Mem.head _ | apply List.Mem.tail)) (by simp)) ?_
    refine lstepB rfl rfl rfl (run_assign (.tmp rfl)) ?_
    refine lnil ?_
    refine xw_then ?_
    refine cw_block ?_
    refine cw_loop (S := Nat) (fun j => [(3, .int .i64 ((clRow m (m.sand.lo + (i : Int)) (clAll m i) j : Nat) : Int)), (5, .int .i64 (m.silt.lo + (j : Int)))]) [(1, _), (4, _)] (fun j => [(_, _)]) (fun j => j ≤ lenS m.silt) (fun j => lenS m.silt - j) 0 (Nat.zero_le _) (by repeat (first | exact Less.nil | refine Less.cons rfl ?_)) (by repeat (first | exact Pick.nil | (apply Pick.cons; focus (repeat (first | exact Del.here | apply Del.there))))) ?_
    intro j hj
    refine cw_seq ?_
    refine cw_seq ?_
    refine cw_region ?_
    refine lstepB rfl rfl rfl (run_move (.tmp rfl)) ?_
    refine lstepB rfl rfl rfl (run_fieldAddr (.tmp rfl) fa85_1 (by first | exact Nat.zero_add _ | exact rfl)) ?_
    refine lstepB rfl rfl rfl (run_fieldAddr (.tmp rfl) fa28_1 (by first | exact Nat.zero_add _ | exact rfl)) ?_
    refine lstepB rfl rfl rfl (run_load1 (.tmp rfl) kd3 (by repeat (first | exact List.Mem.head _ | apply List.Mem.tail)) (by exact rfl)) ?_
    refine lstepB rfl rfl rfl (run_leq (.tmp rfl) (.tmp rfl) rfl) ?_
    refine lnil ?_
    refine xw_then ?_
    refine cw_cond_p (.tmp rfl) (fun hj2 => ?_) (fun hj2 => ?_)
    ·
      have hlt := clRow_lt (m := m) (sand := m.sand.lo + (i : Int)) (clAll_lt m i) j
      have hcl := classN_lt (m.sand.lo + (i : Int)) (m.silt.lo + (j : Int)) (20 - (m.sand.lo + (i : Int)) - (m.silt.lo + (j : Int)))
      cases hc : inS m.clay (20 - (m.sand.lo + (i : Int)) - (m.silt.lo + (j : Int)))
      ·
        refine cw_skip ?_
        refine xw_then ?_
        refine cw_seq ?_
        refine cw_block ?_
        refine cw_seq ?_
        refine cw_region ?_
        refine lstepB rfl rfl rfl (run_move (.tmp rfl)) ?_
        refine lstepB rfl rfl rfl (run_sub .const (.tmp rfl) (by first | exact IntWalk.i64_in _ (by omega) | exact rfl)) ?_
        refine lstepB rfl rfl rfl (run_move (.tmp rfl)) ?_
        refine lstepB rfl rfl rfl (run_sub (.tmp rfl) (.tmp rfl) (by first | exact IntWalk.i64_in _ (by omega) | exact rfl)) ?_
        refine lstepB rfl rfl rfl (run_assign (.tmp rfl)) ?_
        refine lnil ?_
        refine xw_then ?_
        refine cw_seq ?_
        refine cw_region ?_
        refine lstepB rfl rfl rfl (run_fieldAddr (.tmp rfl) fa85_2 (by first | exact Nat.zero_add _ | exact rfl)) ?_
        refine lstepB rfl rfl rfl (run_loadN (.tmp rfl) kd28 sz28 (by repeat (first | exact List.Mem.head _ | apply List.Mem.tail)) (by repeat (first | exact Sub.done | apply Sub.take | apply Sub.skip))) ?_
        refine lstepB rfl rfl rfl (run_move (.tmp rfl)) ?_
        refine lstepB rfl rfl rfl (run_call1 cb87 (.cons (.tmp rfl) (.cons (.tmp rfl) .nil)) (fun w _ => (containsK m.clay _ w).as (congrArg Value.bool hc))) ?_
        refine lnil ?_
        refine xw_then ?_
        refine cw_cond_false (.tmp rfl) ?_
        have e : clRow m (m.sand.lo + (i : Int)) (clAll m i) j = clRow m (m.sand.lo + (i : Int)) (clAll m i) (j + 1) := by rw [clRow_succ, clStep, hc]; rfl
        rw [e]
        refine cw_skip ?_
        refine xw_in ?_
        refine xw_then ?_
        refine cw_region ?_
        refine lstepB rfl rfl rfl (run_move (.tmp rfl)) ?_
        refine lstepB rfl rfl rfl (run_add (c := m.silt.lo + ((j + 1 : Nat) : Int)) (.tmp rfl) .const (by rw [IntWalk.i64_in _ (by omega)]; omega)) ?_
        refine lstepB rfl rfl rfl (run_assign (.tmp rfl)) ?_
        refine lnil ?_
        exact xw_round (j + 1) (by show j + 1 ≤ _; simp only [lenS] at hj2 ⊢; omega) (by show lenS m.silt - (j + 1) < lenS m.silt - j; simp only [lenS] at hj2 ⊢; omega) (by repeat (first | exact Less.nil | refine Less.cons rfl ?_)) (by repeat (first | exact Pick.nil | (apply Pick.cons; focus (repeat (first | exact Del.here | apply Del.there)))))
      ·
        refine cw_skip ?_
        refine xw_then ?_
        refine cw_seq ?_
        refine cw_block ?_
        refine cw_seq ?_
        refine cw_region ?_
        refine lstepB rfl rfl rfl (run_move (.tmp rfl)) ?_
        refine lstepB rfl rfl rfl (run_sub .const (.tmp rfl) (by first | exact IntWalk.i64_in _ (by omega) | exact rfl)) ?_
        refine lstepB rfl rfl rfl (run_move (.tmp rfl)) ?_
        refine lstepB rfl rfl rfl (run_sub (.tmp rfl) (.tmp rfl) (by first | exact IntWalk.i64_in _ (by omega) | exact rfl)) ?_
        refine lstepB rfl rfl rfl (run_assign (.tmp rfl)) ?_
        refine lnil ?_
        refine xw_then ?_
        refine cw_seq ?_
        refine cw_region ?_
        refine lstepB rfl rfl rfl (run_fieldAddr (.tmp rfl) fa85_2 (by first | exact Nat.zero_add _ | exact rfl)) ?_
        refine lstepB rfl rfl rfl (run_loadN (.tmp rfl) kd28 sz28 (by repeat (first | exact List.Mem.head _ | apply List.Mem.tail)) (by repeat (first | exact Sub.done | apply Sub.take | apply Sub.skip))) ?_
        refine lstepB rfl rfl rfl (run_move (.tmp rfl)) ?_
        refine lstepB rfl rfl rfl (run_call1 cb87 (.cons (.tmp rfl) (.cons (.tmp rfl) .nil)) (fun w _ => (containsK m.clay _ w).as (congrArg Value.bool hc))) ?_
        refine lnil ?_
        refine xw_then ?_
        refine cw_cond_true (.tmp rfl) ?_
        refine cw_region ?_
        refine lstepB rfl rfl rfl (run_move (.tmp rfl)) ?_
        refine lstepB rfl rfl rfl (run_move (.tmp rfl)) ?_
        refine lstepB rfl rfl rfl (run_move (.tmp rfl)) ?_
        refine lstepB rfl rfl rfl (run_move (.tmp rfl)) ?_
        refine lstepB rfl rfl rfl (run_call1 cb88 (.cons (.tmp rfl) (.cons (.tmp rfl) (.cons (.tmp rfl) .nil))) (fun w _ => classOfK _ _ _ w)) ?_
        refine lstepB rfl rfl rfl (run_shl (c' := ((2 ^ classN (m.sand.lo + (i : Int)) (m.silt.lo + (j : Int)) (20 - (m.sand.lo + (i : Int)) - (m.silt.lo + (j : Int))) : Nat) : Int)) .const (.tmp rfl) (by omega) (shl4 ⟨_, hcl⟩)) ?_
        refine lstepB rfl rfl rfl (run_or (c' := ((clRow m (m.sand.lo + (i : Int)) (clAll m i) (j + 1) : Nat) : Int)) (.tmp rfl) (.tmp rfl) ((or16 ⟨_, hlt⟩ ⟨_, pow4 ⟨_, hcl⟩⟩).trans (by rw [clRow_succ, clStep, hc]; rfl))) ?_
        refine lstepB rfl rfl rfl (run_assign (.tmp rfl)) ?_
        refine lnil ?_
        refine xw_in ?_
        refine xw_then ?_
        refine cw_region ?_
        refine lstepB rfl rfl rfl (run_move (.tmp rfl)) ?_
        refine lstepB rfl rfl rfl (run_add (c := m.silt.lo + ((j + 1 : Nat) : Int)) (.tmp rfl) .const (by rw [IntWalk.i64_in _ (by omega)]; omega)) ?_
        refine lstepB rfl rfl rfl (run_assign (.tmp rfl)) ?_
        refine lnil ?_
        exact xw_round (j + 1) (by show j + 1 ≤ _; simp only [lenS] at hj2 ⊢; omega) (by show lenS m.silt - (j + 1) < lenS m.silt - j; simp only [lenS] at hj2 ⊢; omega) (by repeat (first | exact Less.nil | refine Less.cons rfl ?_)) (by repeat (first | exact Pick.nil | (apply Pick.cons; focus (repeat (first | exact Del.here | apply Del.there)))))
    ·
      obtain rfl : j = lenS m.silt := by simp only [lenS] at hj ⊢; omega
      rw [← clAll_succ]
      refine cw_exit ?_
      refine xw_then_exit ?_
      refine xw_then_exit ?_
      refine xw_in_exit ?_
      refine xw_in ?_
      refine xw_then ?_
      refine cw_region ?_
      refine lstepB rfl rfl rfl (run_move (.tmp rfl)) ?_
      refine lstepB rfl rfl rfl (run_add (c := m.sand.lo + ((i + 1 : Nat) : Int)) (.tmp rfl) .const (by rw [IntWalk.i64_in _ (by omega)]; omega)) ?_
      refine lstepB rfl rfl rfl (run_assign (.tmp rfl)) ?_
      refine lnil ?_
      exact xw_round (i + 1) (by show i + 1 ≤ _; simp only [lenS] at hi2 ⊢; omega) (by show lenS m.sand - (i + 1) < lenS m.sand - i; simp only [lenS] at hi2 ⊢; omega) (by repeat (first | exact Less.nil | refine Less.cons rfl ?_)) (by repeat (first | exact Pick.nil | (apply Pick.cons; focus (repeat (first | exact Del.here | apply Del.there)))))
  ·
    obtain rfl : i = lenS m.sand := by simp only [lenS] at hi ⊢; omega
    refine cw_exit ?_
    refine xw_then_exit ?_
    refine xw_then_exit ?_
    refine xw_in_exit ?_
    refine xw_then ?_
    refine cw_seq ?_
    refine cw_region ?_
    refine lstepB rfl rfl rfl (run_move (.tmp rfl)) ?_
    refine lstepB rfl rfl rfl (run_assign (.tmp rfl)) ?_
    refine lnil ?_
    refine xw_then ?_
    refine cw_ret ?_
    refine xw_ret1 Try.results56 rfl (fun w hS => ⟨rfl, hS.kept⟩)
end Go.Proofs.Ytfmbnobkenngaaa
