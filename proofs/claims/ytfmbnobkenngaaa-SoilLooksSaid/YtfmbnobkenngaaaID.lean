/- Soil: the document's own mixes: near, fits, all mixes. -/
import Derived.Test.YtfmbnobkenngaaaIC
import Derived.Test.YtfmbnobkenngaaaHMO
namespace Go.Proofs.Ytfmbnobkenngaaa
open Go.RowKit En

abbrev sC (s : S3) : List Value := [.int .i64 s.a, .int .i64 s.b]
abbrev ssC (l : List S3) : List Value := l.flatMap sC
theorem ssC_append (a b : List S3) : ssC (a ++ b) = ssC a ++ ssC b := List.flatMap_append ..
theorem ssC_at : ∀ (l : List S3) (i : Nat) (s : S3), l[i]? = some s → ∀ j v, (sC s)[j]? = some v → (ssC l)[i * 2 + j]? = some v
  | [], i, p, h, _, _, _ => by cases h
  | a :: r, 0, p, h, j, v, hj => by
    cases h
    have hlt := (List.getElem?_eq_some_iff.1 hj).1
    show (sC a ++ ssC r)[0 * 2 + j]? = _
    rw [show 0 * 2 + j = j by omega, List.getElem?_append_left hlt]; exact hj
  | a :: r, i + 1, p, h, j, v, hj => by
    show (sC a ++ ssC r)[(i + 1) * 2 + j]? = _
    rw [List.getElem?_append_right (by simp only [List.length_cons, List.length_nil]; omega)]
    rw [show (i + 1) * 2 + j - (sC a).length = i * 2 + j by simp only [List.length_cons, List.length_nil]; omega]
    exact ssC_at r i p (by simpa using h) j v hj
def smZ (s : S3) : Prop := okS s
theorem okS.small {s : S3} (h : okS s) : (0 ≤ s.a ∧ s.a ≤ 20) ∧ (0 ≤ s.b ∧ s.b ≤ 20) ∧ (0 ≤ s.c ∧ s.c ≤ 20) ∧ s.c = 20 - s.a - s.b := by
  simp only [okS, sum20] at h; omega
set_option maxRecDepth 100000 in
set_option maxHeartbeats 4000000 in
theorem inZK (n lo hi : Int) (w : World) : Gives Try.prog 63 [.int .i64 n, .int .i64 lo, .int .i64 hi] w (.bool (inZ n lo hi)) := by
 unfold inZ
 by_cases h1 : lo ≤ n <;> by_cases h2 : n ≤ hi
 all_goals
  simp only [h1, h2, decide_true, decide_false, Bool.and_self, Bool.and_true, Bool.true_and, Bool.false_and, Bool.and_false]
  refine .mk <| enter (n := 15) Try.func63 rfl rfl rfl (by repeat (first | exact Fill.nil | apply Fill.cons)) ?_
  refine cw_seq ?_
  refine cw_region ?_
  refine lstepB rfl rfl rfl (run_assign .const) ?_
  refine lnil ?_
  refine xw_then ?_
  refine cw_seq ?_
  refine cw_region ?_
  refine lstepB rfl rfl rfl (run_move (.tmp rfl)) ?_
  refine lstepB rfl rfl rfl (run_move (.tmp rfl)) ?_
  refine lstepB rfl rfl rfl (run_leq (.tmp rfl) (.tmp rfl) (by first | exact decide_eq_true (by omega) | exact decide_eq_false (by omega) | exact rfl)) ?_
  refine lstepB rfl rfl rfl (run_move (.tmp rfl)) ?_
  first | (refine lyes rfl rfl rfl rfl ?_; refine gstepB rfl rfl (run_move (.tmp rfl)) ?_) | refine lskip rfl rfl rfl rfl rfl rfl rfl ?_
  first | (refine lyes rfl rfl rfl rfl ?_; refine gstepB rfl rfl (run_move (.tmp rfl)) ?_) | refine lskip rfl rfl rfl rfl rfl rfl rfl ?_
  first | (refine lyes rfl rfl rfl rfl ?_; refine gstepB rfl rfl (run_leq (.tmp rfl) (.tmp rfl) (by first | exact decide_eq_true (by omega) | exact decide_eq_false (by omega) | exact rfl)) ?_) | refine lskip rfl rfl rfl rfl rfl rfl rfl ?_
  refine lstepB rfl rfl rfl (by first | exact run_pick_true (.tmp rfl) (.tmp rfl) | exact run_pick_false (.tmp rfl) .const) ?_
  refine lstepB rfl rfl rfl (run_assign (.tmp rfl)) ?_
  refine lnil ?_
  refine xw_then ?_
  refine cw_ret ?_
  refine xw_ret1 Try.results63 rfl (fun w hS => ⟨rfl, hS.kept⟩)
set_option maxRecDepth 100000 in
set_option maxHeartbeats 4000000 in
theorem clayZ0 (a b : Int) (h : -1000 ≤ a ∧ a ≤ 1000 ∧ -1000 ≤ b ∧ b ≤ 1000) (w : World) : Gives Try.prog 52 [.agg [.int .i64 a, .int .i64 b].toArray] w (.int .i64 (20 - a - b)) := by
 refine .mk <| enter (n := 9) Try.func52 rfl rfl rfl (by repeat (first | exact Fill.nil | apply Fill.cons)) ?_
 refine cw_seq ?_
 refine cw_region ?_
 refine lstep rfl rfl rfl (run_boxN (.tmp rfl)) ?_
 intro b1 _
 refine lstepB rfl rfl rfl (run_assign .const) ?_
 refine lnil ?_
 refine xw_then ?_
 refine cw_seq ?_
 refine cw_region ?_
 refine lstepB rfl rfl rfl (run_fieldAddr (.tmp rfl) fa92_0 (by first | exact Nat.zero_add _ | exact rfl)) ?_
 refine lstepB rfl rfl rfl (run_load1 (.tmp rfl) kd3 (by repeat (first | exact List.Mem.head _ | apply List.Mem.tail)) (by exact rfl)) ?_
 refine lstepB rfl rfl rfl (run_sub .const (.tmp rfl) (by first | exact IntWalk.i64_in _ (by omega) | exact rfl)) ?_
 refine lstepB rfl rfl rfl (run_fieldAddr (.tmp rfl) fa92_1 (by first | exact Nat.zero_add _ | exact rfl)) ?_
 refine lstepB rfl rfl rfl (run_load1 (.tmp rfl) kd3 (by repeat (first | exact List.Mem.head _ | apply List.Mem.tail)) (by exact rfl)) ?_
 refine lstepB rfl rfl rfl (run_sub (.tmp rfl) (.tmp rfl) (by first | exact IntWalk.i64_in _ (by omega) | exact rfl)) ?_
 refine lstepB rfl rfl rfl (run_assign (.tmp rfl)) ?_
 refine lnil ?_
 refine xw_then ?_
 refine cw_ret ?_
 refine xw_ret1 Try.results52 rfl (fun w hS => ⟨rfl, hS.kept⟩)
theorem clayZK (s : S3) (h : okS s) (w : World) : Gives Try.prog 52 [.agg (sC s).toArray] w (.int .i64 s.c) :=
  (clayZ0 s.a s.b (by have := h.small; omega) w).as (congrArg (Value.int .i64) (by have := h.small; omega))
set_option maxRecDepth 100000 in
set_option maxHeartbeats 4000000 in
theorem nearZK (g : GroundD) (pa : Option Addr) (pc : Nat) (s t : S3) (hs : okS s) (ht : okS t) (hc : 0 ≤ g.change ∧ g.change ≤ 20) (w : World) : Gives Try.prog 102 [.agg [.int .i64 g.long, .int .i64 g.rise, .int .i64 g.change, .slice pa g.pits.length pc].toArray, .agg [.int .i64 s.a, .int .i64 s.b].toArray, .agg [.int .i64 t.a, .int .i64 t.b].toArray] w (.bool (nearB g.change s t)) := by
 have a1 := hs.small
 have a2 := ht.small
 unfold nearB
 cases h1 : inZ (s.a - t.a) (-g.change) g.change
 all_goals cases h2 : inZ (s.b - t.b) (-g.change) g.change
 all_goals cases h3 : inZ (s.c - t.c) (-g.change) g.change
 all_goals
  refine .mk <| enter (n := 44) Try.func102 rfl rfl rfl (by repeat (first | exact Fill.nil | apply Fill.cons)) ?_
  refine cw_seq ?_
  refine cw_region ?_
  refine lstep rfl rfl rfl (run_boxN (.tmp rfl)) ?_
  intro b3 _
  refine lstep rfl rfl rfl (run_boxN (.tmp rfl)) ?_
  intro b4 _
  refine lstep rfl rfl rfl (run_boxN (.tmp rfl)) ?_
  intro b5 _
  refine lstepB rfl rfl rfl (run_assign .const) ?_
  refine lnil ?_
  refine xw_then ?_
  refine cw_seq ?_
  refine cw_chain2 (σ := [0, 1, 2, 3, 4, 5, 6, 7, 8, 9, 10, 11, 12, 13, 14, 15, 16, 17, 18, 19, 20, 21, 22, 23, 24, 25, 26, 27, 28, 29, 30, 31, 32, 33, 34, 35, 36, 37]) [⟨0, [], [], [], 0⟩, ⟨0, [1], [], [], 1⟩, ⟨0, [], [], [], 0⟩, ⟨0, [0], [], [], 4⟩, ⟨0, [], [], [], 15⟩, ⟨0, [], [], [], 0⟩, ⟨0, [2], [], [], 32⟩, ⟨0, [], [], [], 96⟩, ⟨0, [], [], [], 0⟩, ⟨0, [2], [], [], 256⟩, ⟨0, [], [], [], 1023⟩, ⟨0, [], [], [], 2047⟩, ⟨0, [], [], [], 4095⟩, ⟨0, [1], [], [], 8191⟩, ⟨0, [], [], [], 4095⟩, ⟨0, [0], [], [], 20479⟩, ⟨0, [], [], [], 65535⟩, ⟨0, [], [], [], 4095⟩, ⟨0, [2], [], [], 135167⟩, ⟨0, [], [], [], 397311⟩, ⟨0, [], [], [], 4095⟩, ⟨0, [2], [], [], 1052671⟩, ⟨0, [], [], [], 4194303⟩, ⟨0, [], [], [], 8388607⟩, ⟨0, [], [], [], 16777215⟩, ⟨0, [1], [], [], 33554431⟩, ⟨0, [], [], [], 67108863⟩, ⟨0, [0], [], [], 33554431⟩, ⟨0, [], [], [], 268435455⟩, ⟨0, [], [], [], 536870911⟩, ⟨0, [], [], [], 33554431⟩, ⟨0, [2], [], [], 1107296255⟩, ⟨0, [], [], [], 3254779903⟩, ⟨0, [], [], [], 33554431⟩, ⟨0, [2], [], [], 8623489023⟩, ⟨0, [], [], [], 34359738367⟩, ⟨0, [], [], [], 68719476735⟩, ⟨0, [], [], [], 137438953471⟩] [(0, _), (1, _), (2, _)] (by kernel_rfl) (by kernel_rfl) rfl ?_
  refine .det (B := []) rfl rfl (.inl rfl) .nil .nil rfl (RunB.lr (run_fieldAddr (.tmp rfl) fa92_0 (by first | exact Nat.zero_add _ | exact rfl))) ?_
  refine .det (B := []) rfl rfl (.inl rfl) (.cons rfl .nil) .nil rfl (RunB.lr (run_load1 (.tmp rfl) kd3 (by repeat (first | exact List.Mem.head _ | apply List.Mem.tail)) (by exact rfl))) ?_
  refine .det (B := []) rfl rfl (.inl rfl) .nil .nil rfl (RunB.lr (run_fieldAddr (.tmp rfl) fa92_0 (by first | exact Nat.zero_add _ | exact rfl))) ?_
  refine .det (B := []) rfl rfl (.inl rfl) (.cons rfl .nil) .nil rfl (RunB.lr (run_load1 (.tmp rfl) kd3 (by repeat (first | exact List.Mem.head _ | apply List.Mem.tail)) (by exact rfl))) ?_
  refine .det (B := []) rfl rfl (.inl rfl) .nil .nil rfl (RunB.lr (run_sub (.tmp rfl) (.tmp rfl) (by first | exact IntWalk.i64_in _ (by omega) | exact rfl))) ?_
  refine .det (B := []) rfl rfl (.inl rfl) .nil .nil rfl (RunB.lr (run_fieldAddr (.tmp rfl) fa24_2 (by first | exact Nat.zero_add _ | exact rfl))) ?_
  refine .det (B := []) rfl rfl (.inl rfl) (.cons rfl .nil) .nil rfl (RunB.lr (run_load1 (.tmp rfl) kd3 (by repeat (first | exact List.Mem.head _ | apply List.Mem.tail)) (by exact rfl))) ?_
  refine .det (B := []) rfl rfl (.inl rfl) .nil .nil rfl (RunB.lr (run_neg (.tmp rfl) (by first | exact IntWalk.i64_in _ (by omega) | exact rfl))) ?_
  refine .det (B := []) rfl rfl (.inl rfl) .nil .nil rfl (RunB.lr (run_fieldAddr (.tmp rfl) fa24_2 (by first | exact Nat.zero_add _ | exact rfl))) ?_
  refine .det (B := []) rfl rfl (.inl rfl) (.cons rfl .nil) .nil rfl (RunB.lr (run_load1 (.tmp rfl) kd3 (by repeat (first | exact List.Mem.head _ | apply List.Mem.tail)) (by exact rfl))) ?_
  refine .det (B := []) rfl rfl (.inl rfl) .nil .nil rfl (RunB.lr (run_call1 cb63 (.cons (.tmp rfl) (.cons (.tmp rfl) (.cons (.tmp rfl) .nil))) (fun w _ => (inZK _ _ _ w).as (congrArg Value.bool h1)))) ?_
  refine .det (B := []) rfl rfl (.inl rfl) .nil .nil rfl (RunB.lr (run_move (.tmp rfl))) ?_
  first | refine .det (B := []) rfl rfl (.inr ⟨_, _, _, rfl, rfl, rfl⟩) .nil .nil rfl (RunB.lr (run_fieldAddr (.tmp rfl) fa92_1 (by first | exact Nat.zero_add _ | exact rfl))) ?_ | refine .skip rfl rfl ⟨_, _, _, _, rfl, rfl, rfl, rfl⟩ rfl (by first | rfl | kernel_rfl) ?_
  first | refine .det (B := []) rfl rfl (.inr ⟨_, _, _, rfl, rfl, rfl⟩) (.cons rfl .nil) .nil rfl (RunB.lr (run_load1 (.tmp rfl) kd3 (by repeat (first | exact List.Mem.head _ | apply List.Mem.tail)) (by exact rfl))) ?_ | refine .skip rfl rfl ⟨_, _, _, _, rfl, rfl, rfl, rfl⟩ rfl (by first | rfl | kernel_rfl) ?_
  first | refine .det (B := []) rfl rfl (.inr ⟨_, _, _, rfl, rfl, rfl⟩) .nil .nil rfl (RunB.lr (run_fieldAddr (.tmp rfl) fa92_1 (by first | exact Nat.zero_add _ | exact rfl))) ?_ | refine .skip rfl rfl ⟨_, _, _, _, rfl, rfl, rfl, rfl⟩ rfl (by first | rfl | kernel_rfl) ?_
  first | refine .det (B := []) rfl rfl (.inr ⟨_, _, _, rfl, rfl, rfl⟩) (.cons rfl .nil) .nil rfl (RunB.lr (run_load1 (.tmp rfl) kd3 (by repeat (first | exact List.Mem.head _ | apply List.Mem.tail)) (by exact rfl))) ?_ | refine .skip rfl rfl ⟨_, _, _, _, rfl, rfl, rfl, rfl⟩ rfl (by first | rfl | kernel_rfl) ?_
  first | refine .det (B := []) rfl rfl (.inr ⟨_, _, _, rfl, rfl, rfl⟩) .nil .nil rfl (RunB.lr (run_sub (.tmp rfl) (.tmp rfl) (by first | exact IntWalk.i64_in _ (by omega) | exact rfl))) ?_ | refine .skip rfl rfl ⟨_, _, _, _, rfl, rfl, rfl, rfl⟩ rfl (by first | rfl | kernel_rfl) ?_
  first | refine .det (B := []) rfl rfl (.inr ⟨_, _, _, rfl, rfl, rfl⟩) .nil .nil rfl (RunB.lr (run_fieldAddr (.tmp rfl) fa24_2 (by first | exact Nat.zero_add _ | exact rfl))) ?_ | refine .skip rfl rfl ⟨_, _, _, _, rfl, rfl, rfl, rfl⟩ rfl (by first | rfl | kernel_rfl) ?_
  first | refine .det (B := []) rfl rfl (.inr ⟨_, _, _, rfl, rfl, rfl⟩) (.cons rfl .nil) .nil rfl (RunB.lr (run_load1 (.tmp rfl) kd3 (by repeat (first | exact List.Mem.head _ | apply List.Mem.tail)) (by exact rfl))) ?_ | refine .skip rfl rfl ⟨_, _, _, _, rfl, rfl, rfl, rfl⟩ rfl (by first | rfl | kernel_rfl) ?_
  first | refine .det (B := []) rfl rfl (.inr ⟨_, _, _, rfl, rfl, rfl⟩) .nil .nil rfl (RunB.lr (run_neg (.tmp rfl) (by first | exact IntWalk.i64_in _ (by omega) | exact rfl))) ?_ | refine .skip rfl rfl ⟨_, _, _, _, rfl, rfl, rfl, rfl⟩ rfl (by first | rfl | kernel_rfl) ?_
  first | refine .det (B := []) rfl rfl (.inr ⟨_, _, _, rfl, rfl, rfl⟩) .nil .nil rfl (RunB.lr (run_fieldAddr (.tmp rfl) fa24_2 (by first | exact Nat.zero_add _ | exact rfl))) ?_ | refine .skip rfl rfl ⟨_, _, _, _, rfl, rfl, rfl, rfl⟩ rfl (by first | rfl | kernel_rfl) ?_
  first | refine .det (B := []) rfl rfl (.inr ⟨_, _, _, rfl, rfl, rfl⟩) (.cons rfl .nil) .nil rfl (RunB.lr (run_load1 (.tmp rfl) kd3 (by repeat (first | exact List.Mem.head _ | apply List.Mem.tail)) (by exact rfl))) ?_ | refine .skip rfl rfl ⟨_, _, _, _, rfl, rfl, rfl, rfl⟩ rfl (by first | rfl | kernel_rfl) ?_
  first | refine .det (B := []) rfl rfl (.inr ⟨_, _, _, rfl, rfl, rfl⟩) .nil .nil rfl (RunB.lr (run_call1 cb63 (.cons (.tmp rfl) (.cons (.tmp rfl) (.cons (.tmp rfl) .nil))) (fun w _ => (inZK _ _ _ w).as (congrArg Value.bool h2)))) ?_ | refine .skip rfl rfl ⟨_, _, _, _, rfl, rfl, rfl, rfl⟩ rfl (by first | rfl | kernel_rfl) ?_
  refine .det (B := []) rfl rfl (.inl rfl) .nil .nil rfl (RunB.lr (by first | exact run_pick_true (.tmp rfl) (.tmp rfl) | exact run_pick_false (.tmp rfl) .const)) ?_
  refine .det (B := []) rfl rfl (.inl rfl) .nil .nil rfl (RunB.lr (run_move (.tmp rfl))) ?_
  first | refine .det (B := []) rfl rfl (.inr ⟨_, _, _, rfl, rfl, rfl⟩) (.cons rfl .nil) .nil rfl (RunB.lr (run_loadN (.tmp rfl) kd92 sz92 (by repeat (first | exact List.Mem.head _ | apply List.Mem.tail)) (by repeat (first | exact Sub.done | apply Sub.take | apply Sub.skip)))) ?_ | refine .skip rfl rfl ⟨_, _, _, _, rfl, rfl, rfl, rfl⟩ rfl (by first | rfl | kernel_rfl) ?_
  first | refine .det (B := []) rfl rfl (.inr ⟨_, _, _, rfl, rfl, rfl⟩) .nil .nil rfl (RunB.lr (run_call1 cb52 (.cons (.tmp rfl) .nil) (fun w _ => clayZK s hs w))) ?_ | refine .skip rfl rfl ⟨_, _, _, _, rfl, rfl, rfl, rfl⟩ rfl (by first | rfl | kernel_rfl) ?_
  first | refine .det (B := []) rfl rfl (.inr ⟨_, _, _, rfl, rfl, rfl⟩) (.cons rfl .nil) .nil rfl (RunB.lr (run_loadN (.tmp rfl) kd92 sz92 (by repeat (first | exact List.Mem.head _ | apply List.Mem.tail)) (by repeat (first | exact Sub.done | apply Sub.take | apply Sub.skip)))) ?_ | refine .skip rfl rfl ⟨_, _, _, _, rfl, rfl, rfl, rfl⟩ rfl (by first | rfl | kernel_rfl) ?_
  first | refine .det (B := []) rfl rfl (.inr ⟨_, _, _, rfl, rfl, rfl⟩) .nil .nil rfl (RunB.lr (run_call1 cb52 (.cons (.tmp rfl) .nil) (fun w _ => clayZK t ht w))) ?_ | refine .skip rfl rfl ⟨_, _, _, _, rfl, rfl, rfl, rfl⟩ rfl (by first | rfl | kernel_rfl) ?_
  first | refine .det (B := []) rfl rfl (.inr ⟨_, _, _, rfl, rfl, rfl⟩) .nil .nil rfl (RunB.lr (run_sub (.tmp rfl) (.tmp rfl) (by first | exact IntWalk.i64_in _ (by omega) | exact rfl))) ?_ | refine .skip rfl rfl ⟨_, _, _, _, rfl, rfl, rfl, rfl⟩ rfl (by first | rfl | kernel_rfl) ?_
  first | refine .det (B := []) rfl rfl (.inr ⟨_, _, _, rfl, rfl, rfl⟩) .nil .nil rfl (RunB.lr (run_fieldAddr (.tmp rfl) fa24_2 (by first | exact Nat.zero_add _ | exact rfl))) ?_ | refine .skip rfl rfl ⟨_, _, _, _, rfl, rfl, rfl, rfl⟩ rfl (by first | rfl | kernel_rfl) ?_
  first | refine .det (B := []) rfl rfl (.inr ⟨_, _, _, rfl, rfl, rfl⟩) (.cons rfl .nil) .nil rfl (RunB.lr (run_load1 (.tmp rfl) kd3 (by repeat (first | exact List.Mem.head _ | apply List.Mem.tail)) (by exact rfl))) ?_ | refine .skip rfl rfl ⟨_, _, _, _, rfl, rfl, rfl, rfl⟩ rfl (by first | rfl | kernel_rfl) ?_
  first | refine .det (B := []) rfl rfl (.inr ⟨_, _, _, rfl, rfl, rfl⟩) .nil .nil rfl (RunB.lr (run_neg (.tmp rfl) (by first | exact IntWalk.i64_in _ (by omega) | exact rfl))) ?_ | refine .skip rfl rfl ⟨_, _, _, _, rfl, rfl, rfl, rfl⟩ rfl (by first | rfl | kernel_rfl) ?_
  first | refine .det (B := []) rfl rfl (.inr ⟨_, _, _, rfl, rfl, rfl⟩) .nil .nil rfl (RunB.lr (run_fieldAddr (.tmp rfl) fa24_2 (by first | exact Nat.zero_add _ | exact rfl))) ?_ | refine .skip rfl rfl ⟨_, _, _, _, rfl, rfl, rfl, rfl⟩ rfl (by first | rfl | kernel_rfl) ?_
  first | refine .det (B := []) rfl rfl (.inr ⟨_, _, _, rfl, rfl, rfl⟩) (.cons rfl .nil) .nil rfl (RunB.lr (run_load1 (.tmp rfl) kd3 (by repeat (first | exact List.Mem.head _ | apply List.Mem.tail)) (by exact rfl))) ?_ | refine .skip rfl rfl ⟨_, _, _, _, rfl, rfl, rfl, rfl⟩ rfl (by first | rfl | kernel_rfl) ?_
  first | refine .det (B := []) rfl rfl (.inr ⟨_, _, _, rfl, rfl, rfl⟩) .nil .nil rfl (RunB.lr (run_call1 cb63 (.cons (.tmp rfl) (.cons (.tmp rfl) (.cons (.tmp rfl) .nil))) (fun w _ => (inZK _ _ _ w).as (congrArg Value.bool h3)))) ?_ | refine .skip rfl rfl ⟨_, _, _, _, rfl, rfl, rfl, rfl⟩ rfl (by first | rfl | kernel_rfl) ?_
  refine .det (B := []) rfl rfl (.inl rfl) .nil .nil rfl (RunB.lr (by first | exact run_pick_true (.tmp rfl) (.tmp rfl) | exact run_pick_false (.tmp rfl) .const)) ?_
  refine .det (B := []) rfl rfl (.inl rfl) .nil .nil rfl (RunB.lr (run_assign (.tmp rfl))) ?_
  refine chain_nil (ts := [0, 1, 2]) (.cons rfl (.cons rfl (.cons rfl .nil))) (by decide) ?_
  refine xw_then ?_
  refine cw_ret ?_
  refine xw_ret1 Try.results102 rfl (fun w hS => ⟨rfl, hS.kept⟩)
set_option maxRecDepth 100000 in
set_option maxHeartbeats 4000000 in
theorem fitsZK (g : GroundD) (pa : Option Addr) (pc : Nat) (n : Int) (s : S3) (hs : okS s) (hm : g.pits.length ≤ 1000000) (w : World) (hp : PitsAt w pa g.pits) : Gives Try.prog 103 [.agg [.int .i64 g.long, .int .i64 g.rise, .int .i64 g.change, .slice pa g.pits.length pc].toArray, .int .i64 n, .agg [.int .i64 s.a, .int .i64 s.b].toArray] w (.bool (fitsB g n s)) := by
  refine .mk <| enter (n := 61) Try.func103 rfl rfl rfl (by repeat (first | exact Fill.nil | apply Fill.cons)) ?_
  refine cw_seq ?_
  refine cw_region ?_
  refine lstep rfl rfl rfl (run_boxN (.tmp rfl)) ?_
  intro b3 _
  refine lstep rfl rfl rfl (run_boxN (.tmp rfl)) ?_
  intro b5 _
  refine lstepB rfl rfl rfl (run_assign .const) ?_
  refine lnil ?_
  refine xw_then ?_
  refine cw_seq ?_
  refine cw_seq ?_
  refine cw_region ?_
  refine lstepB rfl rfl rfl (run_assign .const) ?_
  refine lnil ?_
  refine xw_then ?_
  refine cw_block ?_
  refine cw_loop (S := Nat) (fun j => [(7, .int .i64 (j : Int))]) [(1, _), (3, _), (5, _)] (fun j => [(b5, Obj.cells (sC s).toArray 92 (0, 0)), (b3, Obj.cells [.int .i64 g.long, .int .i64 g.rise, .int .i64 g.change, .slice pa g.pits.length pc].toArray 24 (0, 0))]) (fun j => j ≤ g.pits.length ∧ (g.pits.take j).all (fun p => !decide (p.at_ = n) || fitZ p s) = true) (fun j => g.pits.length - j) 0 ⟨Nat.zero_le _, rfl⟩ (by repeat (first | exact Less.nil | refine Less.cons rfl ?_)) (by repeat (first | exact Pick.nil | (apply Pick.cons; focus (repeat (first | exact Del.here | apply Del.there))))) ?_
  intro j hj
  obtain ⟨j1, j2⟩ := hj
  refine cw_seq ?_
  refine cw_seq ?_
  refine cw_region ?_
  refine lstepB rfl rfl rfl (run_move (.tmp rfl)) ?_
  refine lstepB rfl rfl rfl (run_fieldAddr (.tmp rfl) fa24_3 (by first | exact Nat.zero_add _ | exact rfl)) ?_
  refine lstepB rfl rfl rfl (run_load1 (.tmp rfl) kd22 (by repeat (first | exact List.Mem.head _ | apply List.Mem.tail)) (by exact rfl)) ?_
  refine lstepB rfl rfl rfl (run_len (.tmp rfl) sl22) ?_
  refine lstepB rfl rfl rfl (run_lss (.tmp rfl) (.tmp rfl) rfl) ?_
  refine lnil ?_
  refine xw_then ?_
  refine cw_cond_p (.tmp rfl) (fun hl => ?_) (fun hl => ?_)
  ·
    obtain ⟨p, hpk⟩ : ∃ p, g.pits[j]? = some p := ⟨_, List.getElem?_eq_getElem (by omega)⟩
    obtain ⟨b, o, rfl, hb, hc⟩ := hp.pit (by omega)
    have hsm := hs.small
    have hmem := List.mem_of_getElem? hpk
    have htk : g.pits.take (j + 1) = g.pits.take j ++ [p] := by rw [List.take_add_one, hpk]; rfl
    by_cases hat : p.at_ = n
    ·
      cases hz : fitZ p s
      ·
        have hno : fitsB g n s = false := by
          cases hf : fitsB g n s with
          | false => rfl
          | true =>
            have := List.all_eq_true.1 hf p hmem
            rw [hat] at this
            simp [hz] at this
        unfold fitZ at hz
        cases h1 : inZ s.a p.sand.lo p.sand.hi
        all_goals cases h2 : inZ s.b p.silt.lo p.silt.hi
        all_goals cases h3 : inZ s.c p.clay.lo p.clay.hi
        all_goals try (exfalso; rw [h1, h2, h3] at hz; exact Bool.noConfusion hz)
        all_goals
          refine cw_skip ?_
          refine xw_then ?_
          refine cw_seq ?_
          refine cw_block ?_
          refine cw_seq ?_
          refine cw_region ?_
          refine lstepB rfl rfl rfl (run_fieldAddr (.tmp rfl) fa24_3 (by first | exact Nat.zero_add _ | exact rfl)) ?_
          refine lstepB rfl rfl rfl (run_load1 (.tmp rfl) kd22 (by repeat (first | exact List.Mem.head _ | apply List.Mem.tail)) (by exact rfl)) ?_
          refine lstepB rfl rfl rfl (run_move (.tmp rfl)) ?_
          refine lstepB rfl rfl rfl (run_indexAddr (off' := o + j * 9) (.tmp rfl) (.tmp rfl) el22 (by omega) rfl) ?_
          refine lstepB rfl rfl rfl (run_loadN_at (l := [.int .i64 p.at_, .int .i64 p.hard.lo, .int .i64 p.hard.hi, .int .i64 p.sand.lo, .int .i64 p.sand.hi, .int .i64 p.silt.lo, .int .i64 p.silt.hi, .int .i64 p.clay.lo, .int .i64 p.clay.hi]) (.tmp rfl) kd55 sz55 rfl (fun w' hS j' v hj => hS.old_cell (fun h => h) (hc j p hpk j' v hj))) ?_
          refine lstep rfl rfl rfl (run_alloc zr55) ?_
          intro b8 _
          refine lstep0 rfl rfl (run_storeN (.tmp rfl) (.tmp rfl) rfl sz55 rfl (by repeat (first | exact Upd.here | apply Upd.there)) (by repeat (first | exact Put.done | apply Put.put | apply Put.skip))) ?_
          refine lnil ?_
          refine xw_then ?_
          refine cw_seq ?_
          refine cw_chain2 (σ := [0, 1, 2, 3, 4, 5, 6, 7, 8, 9, 10, 11, 12, 13, 14, 15, 16, 17, 18, 19, 20, 21, 22, 23, 24, 25, 26, 27, 28, 29, 30, 31, 32, 33, 34, 35, 36, 37, 38, 39]) [⟨0, [], [], [], 0⟩, ⟨0, [0], [], [], 1⟩, ⟨0, [], [], [], 0⟩, ⟨0, [], [], [], 7⟩, ⟨0, [], [], [], 15⟩, ⟨0, [], [], [], 31⟩, ⟨0, [1], [], [], 63⟩, ⟨0, [], [], [], 31⟩, ⟨0, [], [], [], 159⟩, ⟨0, [0], [], [], 415⟩, ⟨0, [], [], [], 31⟩, ⟨0, [], [], [], 1055⟩, ⟨0, [0], [], [], 3103⟩, ⟨0, [], [], [], 8191⟩, ⟨0, [], [], [], 16383⟩, ⟨0, [], [], [], 32767⟩, ⟨0, [], [], [], 65535⟩, ⟨0, [1], [], [], 131071⟩, ⟨0, [], [], [], 65535⟩, ⟨0, [], [], [], 327679⟩, ⟨0, [0], [], [], 851967⟩, ⟨0, [], [], [], 65535⟩, ⟨0, [], [], [], 2162687⟩, ⟨0, [0], [], [], 6356991⟩, ⟨0, [], [], [], 16777215⟩, ⟨0, [], [], [], 33554431⟩, ⟨0, [], [], [], 67108863⟩, ⟨0, [], [], [], 134217727⟩, ⟨0, [1], [], [], 268435455⟩, ⟨0, [], [], [], 536870911⟩, ⟨0, [], [], [], 268435455⟩, ⟨0, [], [], [], 1342177279⟩, ⟨0, [0], [], [], 3489660927⟩, ⟨0, [], [], [], 268435455⟩, ⟨0, [], [], [], 8858370047⟩, ⟨0, [0], [], [], 26038239231⟩, ⟨0, [], [], [], 68719476735⟩, ⟨0, [], [], [], 137438953471⟩, ⟨0, [], [], [], 274877906943⟩, ⟨0, [], [], [], 549755813887⟩] [(0, _), (1, _), (2, _)] (by kernel_rfl) (by kernel_rfl) rfl ?_
          refine .det (B := []) rfl rfl (.inl rfl) .nil .nil rfl (RunB.lr (run_fieldAddr (.tmp rfl) fa55_0 (by first | exact Nat.zero_add _ | exact rfl))) ?_
          refine .det (B := []) rfl rfl (.inl rfl) (.cons rfl .nil) .nil rfl (RunB.lr (run_load1 (.tmp rfl) kd3 (by repeat (first | exact List.Mem.head _ | apply List.Mem.tail)) (by exact rfl))) ?_
          refine .det (B := []) rfl rfl (.inl rfl) .nil .nil rfl (RunB.lr (run_move (.tmp rfl))) ?_
          refine .det (B := []) rfl rfl (.inl rfl) .nil .nil rfl (RunB.lr (run_eql (.tmp rfl) (.tmp rfl) (by first | exact decide_eq_true (by omega) | exact decide_eq_false (by omega) | exact rfl))) ?_
          refine .det (B := []) rfl rfl (.inl rfl) .nil .nil rfl (RunB.lr (run_move (.tmp rfl))) ?_
          first | refine .det (B := []) rfl rfl (.inr ⟨_, _, _, rfl, rfl, rfl⟩) .nil .nil rfl (RunB.lr (run_fieldAddr (.tmp rfl) fa92_0 (by first | exact Nat.zero_add _ | exact rfl))) ?_ | refine .skip rfl rfl ⟨_, _, _, _, rfl, rfl, rfl, rfl⟩ rfl (by first | rfl | kernel_rfl) ?_
          first | refine .det (B := []) rfl rfl (.inr ⟨_, _, _, rfl, rfl, rfl⟩) (.cons rfl .nil) .nil rfl (RunB.lr (run_load1 (.tmp rfl) kd3 (by repeat (first | exact List.Mem.head _ | apply List.Mem.tail)) (by exact rfl))) ?_ | refine .skip rfl rfl ⟨_, _, _, _, rfl, rfl, rfl, rfl⟩ rfl (by first | rfl | kernel_rfl) ?_
          first | refine .det (B := []) rfl rfl (.inr ⟨_, _, _, rfl, rfl, rfl⟩) .nil .nil rfl (RunB.lr (run_fieldAddr (.tmp rfl) fa55_2 (by first | exact Nat.zero_add _ | exact rfl))) ?_ | refine .skip rfl rfl ⟨_, _, _, _, rfl, rfl, rfl, rfl⟩ rfl (by first | rfl | kernel_rfl) ?_
          first | refine .det (B := []) rfl rfl (.inr ⟨_, _, _, rfl, rfl, rfl⟩) .nil .nil rfl (RunB.lr (run_fieldAddr (.tmp rfl) fa28_0 (by first | exact Nat.zero_add _ | exact rfl))) ?_ | refine .skip rfl rfl ⟨_, _, _, _, rfl, rfl, rfl, rfl⟩ rfl (by first | rfl | kernel_rfl) ?_
          first | refine .det (B := []) rfl rfl (.inr ⟨_, _, _, rfl, rfl, rfl⟩) (.cons rfl .nil) .nil rfl (RunB.lr (run_load1 (.tmp rfl) kd3 (by repeat (first | exact List.Mem.head _ | apply List.Mem.tail)) (by exact rfl))) ?_ | refine .skip rfl rfl ⟨_, _, _, _, rfl, rfl, rfl, rfl⟩ rfl (by first | rfl | kernel_rfl) ?_
          first | refine .det (B := []) rfl rfl (.inr ⟨_, _, _, rfl, rfl, rfl⟩) .nil .nil rfl (RunB.lr (run_fieldAddr (.tmp rfl) fa55_2 (by first | exact Nat.zero_add _ | exact rfl))) ?_ | refine .skip rfl rfl ⟨_, _, _, _, rfl, rfl, rfl, rfl⟩ rfl (by first | rfl | kernel_rfl) ?_
          first | refine .det (B := []) rfl rfl (.inr ⟨_, _, _, rfl, rfl, rfl⟩) .nil .nil rfl (RunB.lr (run_fieldAddr (.tmp rfl) fa28_1 (by first | exact Nat.zero_add _ | exact rfl))) ?_ | refine .skip rfl rfl ⟨_, _, _, _, rfl, rfl, rfl, rfl⟩ rfl (by first | rfl | kernel_rfl) ?_
          first | refine .det (B := []) rfl rfl (.inr ⟨_, _, _, rfl, rfl, rfl⟩) (.cons rfl .nil) .nil rfl (RunB.lr (run_load1 (.tmp rfl) kd3 (by repeat (first | exact List.Mem.head _ | apply List.Mem.tail)) (by exact rfl))) ?_ | refine .skip rfl rfl ⟨_, _, _, _, rfl, rfl, rfl, rfl⟩ rfl (by first | rfl | kernel_rfl) ?_
          first | refine .det (B := []) rfl rfl (.inr ⟨_, _, _, rfl, rfl, rfl⟩) .nil .nil rfl (RunB.lr (run_call1 cb63 (.cons (.tmp rfl) (.cons (.tmp rfl) (.cons (.tmp rfl) .nil))) (fun w _ => (inZK _ _ _ w).as (congrArg Value.bool h1)))) ?_ | refine .skip rfl rfl ⟨_, _, _, _, rfl, rfl, rfl, rfl⟩ rfl (by first | rfl | kernel_rfl) ?_
          first | refine .det (B := []) rfl rfl (.inr ⟨_, _, _, rfl, rfl, rfl⟩) .nil .nil rfl (RunB.lr (run_not (.tmp rfl) (by first | exact Bool.not_true | exact Bool.not_false | exact rfl))) ?_ | refine .skip rfl rfl ⟨_, _, _, _, rfl, rfl, rfl, rfl⟩ rfl (by first | rfl | kernel_rfl) ?_
          first | refine .det (B := []) rfl rfl (.inr ⟨_, _, _, rfl, rfl, rfl⟩) .nil .nil rfl (RunB.lr (run_move (.tmp rfl))) ?_ | refine .skip rfl rfl ⟨_, _, _, _, rfl, rfl, rfl, rfl⟩ rfl (by first | rfl | kernel_rfl) ?_
          first | refine .det (B := []) rfl rfl (.inr ⟨_, _, _, rfl, rfl, rfl⟩) .nil .nil rfl (RunB.lr (run_fieldAddr (.tmp rfl) fa92_1 (by first | exact Nat.zero_add _ | exact rfl))) ?_ | refine .skip rfl rfl ⟨_, _, _, _, rfl, rfl, rfl, rfl⟩ rfl (by first | rfl | kernel_rfl) ?_
          first | refine .det (B := []) rfl rfl (.inr ⟨_, _, _, rfl, rfl, rfl⟩) (.cons rfl .nil) .nil rfl (RunB.lr (run_load1 (.tmp rfl) kd3 (by repeat (first | exact List.Mem.head _ | apply List.Mem.tail)) (by exact rfl))) ?_ | refine .skip rfl rfl ⟨_, _, _, _, rfl, rfl, rfl, rfl⟩ rfl (by first | rfl | kernel_rfl) ?_
          first | refine .det (B := []) rfl rfl (.inr ⟨_, _, _, rfl, rfl, rfl⟩) .nil .nil rfl (RunB.lr (run_fieldAddr (.tmp rfl) fa55_3 (by first | exact Nat.zero_add _ | exact rfl))) ?_ | refine .skip rfl rfl ⟨_, _, _, _, rfl, rfl, rfl, rfl⟩ rfl (by first | rfl | kernel_rfl) ?_
          first | refine .det (B := []) rfl rfl (.inr ⟨_, _, _, rfl, rfl, rfl⟩) .nil .nil rfl (RunB.lr (run_fieldAddr (.tmp rfl) fa28_0 (by first | exact Nat.zero_add _ | exact rfl))) ?_ | refine .skip rfl rfl ⟨_, _, _, _, rfl, rfl, rfl, rfl⟩ rfl (by first | rfl | kernel_rfl) ?_
          first | refine .det (B := []) rfl rfl (.inr ⟨_, _, _, rfl, rfl, rfl⟩) (.cons rfl .nil) .nil rfl (RunB.lr (run_load1 (.tmp rfl) kd3 (by repeat (first | exact List.Mem.head _ | apply List.Mem.tail)) (by exact rfl))) ?_ | refine .skip rfl rfl ⟨_, _, _, _, rfl, rfl, rfl, rfl⟩ rfl (by first | rfl | kernel_rfl) ?_
          first | refine .det (B := []) rfl rfl (.inr ⟨_, _, _, rfl, rfl, rfl⟩) .nil .nil rfl (RunB.lr (run_fieldAddr (.tmp rfl) fa55_3 (by first | exact Nat.zero_add _ | exact rfl))) ?_ | refine .skip rfl rfl ⟨_, _, _, _, rfl, rfl, rfl, rfl⟩ rfl (by first | rfl | kernel_rfl) ?_
          first | refine .det (B := []) rfl rfl (.inr ⟨_, _, _, rfl, rfl, rfl⟩) .nil .nil rfl (RunB.lr (run_fieldAddr (.tmp rfl) fa28_1 (by first | exact Nat.zero_add _ | exact rfl))) ?_ | refine .skip rfl rfl ⟨_, _, _, _, rfl, rfl, rfl, rfl⟩ rfl (by first | rfl | kernel_rfl) ?_
          first | refine .det (B := []) rfl rfl (.inr ⟨_, _, _, rfl, rfl, rfl⟩) (.cons rfl .nil) .nil rfl (RunB.lr (run_load1 (.tmp rfl) kd3 (by repeat (first | exact List.Mem.head _ | apply List.Mem.tail)) (by exact rfl))) ?_ | refine .skip rfl rfl ⟨_, _, _, _, rfl, rfl, rfl, rfl⟩ rfl (by first | rfl | kernel_rfl) ?_
          first | refine .det (B := []) rfl rfl (.inr ⟨_, _, _, rfl, rfl, rfl⟩) .nil .nil rfl (RunB.lr (run_call1 cb63 (.cons (.tmp rfl) (.cons (.tmp rfl) (.cons (.tmp rfl) .nil))) (fun w _ => (inZK _ _ _ w).as (congrArg Value.bool h2)))) ?_ | refine .skip rfl rfl ⟨_, _, _, _, rfl, rfl, rfl, rfl⟩ rfl (by first | rfl | kernel_rfl) ?_
          first | refine .det (B := []) rfl rfl (.inr ⟨_, _, _, rfl, rfl, rfl⟩) .nil .nil rfl (RunB.lr (run_not (.tmp rfl) (by first | exact Bool.not_true | exact Bool.not_false | exact rfl))) ?_ | refine .skip rfl rfl ⟨_, _, _, _, rfl, rfl, rfl, rfl⟩ rfl (by first | rfl | kernel_rfl) ?_
          first | refine .det (B := []) rfl rfl (.inr ⟨_, _, _, rfl, rfl, rfl⟩) .nil .nil rfl (RunB.lr (by first | exact run_pick_true (.tmp rfl) .const | exact run_pick_false (.tmp rfl) (.tmp rfl))) ?_ | refine .skip rfl rfl ⟨_, _, _, _, rfl, rfl, rfl, rfl⟩ rfl (by first | rfl | kernel_rfl) ?_
          first | refine .det (B := []) rfl rfl (.inr ⟨_, _, _, rfl, rfl, rfl⟩) .nil .nil rfl (RunB.lr (run_move (.tmp rfl))) ?_ | refine .skip rfl rfl ⟨_, _, _, _, rfl, rfl, rfl, rfl⟩ rfl (by first | rfl | kernel_rfl) ?_
          first | refine .det (B := []) rfl rfl (.inr ⟨_, _, _, rfl, rfl, rfl⟩) (.cons rfl .nil) .nil rfl (RunB.lr (run_loadN (.tmp rfl) kd92 sz92 (by repeat (first | exact List.Mem.head _ | apply List.Mem.tail)) (by repeat (first | exact Sub.done | apply Sub.take | apply Sub.skip)))) ?_ | refine .skip rfl rfl ⟨_, _, _, _, rfl, rfl, rfl, rfl⟩ rfl (by first | rfl | kernel_rfl) ?_
          first | refine .det (B := []) rfl rfl (.inr ⟨_, _, _, rfl, rfl, rfl⟩) .nil .nil rfl (RunB.lr (run_call1 cb52 (.cons (.tmp rfl) .nil) (fun w _ => clayZK s hs w))) ?_ | refine .skip rfl rfl ⟨_, _, _, _, rfl, rfl, rfl, rfl⟩ rfl (by first | rfl | kernel_rfl) ?_
          first | refine .det (B := []) rfl rfl (.inr ⟨_, _, _, rfl, rfl, rfl⟩) .nil .nil rfl (RunB.lr (run_fieldAddr (.tmp rfl) fa55_4 (by first | exact Nat.zero_add _ | exact rfl))) ?_ | refine .skip rfl rfl ⟨_, _, _, _, rfl, rfl, rfl, rfl⟩ rfl (by first | rfl | kernel_rfl) ?_
          first | refine .det (B := []) rfl rfl (.inr ⟨_, _, _, rfl, rfl, rfl⟩) .nil .nil rfl (RunB.lr (run_fieldAddr (.tmp rfl) fa28_0 (by first | exact Nat.zero_add _ | exact rfl))) ?_ | refine .skip rfl rfl ⟨_, _, _, _, rfl, rfl, rfl, rfl⟩ rfl (by first | rfl | kernel_rfl) ?_
          first | refine .det (B := []) rfl rfl (.inr ⟨_, _, _, rfl, rfl, rfl⟩) (.cons rfl .nil) .nil rfl (RunB.lr (run_load1 (.tmp rfl) kd3 (by repeat (first | exact List.Mem.head _ | apply List.Mem.tail)) (by exact rfl))) ?_ | refine .skip rfl rfl ⟨_, _, _, _, rfl, rfl, rfl, rfl⟩ rfl (by first | rfl | kernel_rfl) ?_
          first | refine .det (B := []) rfl rfl (.inr ⟨_, _, _, rfl, rfl, rfl⟩) .nil .nil rfl (RunB.lr (run_fieldAddr (.tmp rfl) fa55_4 (by first | exact Nat.zero_add _ | exact rfl))) ?_ | refine .skip rfl rfl ⟨_, _, _, _, rfl, rfl, rfl, rfl⟩ rfl (by first | rfl | kernel_rfl) ?_
          first | refine .det (B := []) rfl rfl (.inr ⟨_, _, _, rfl, rfl, rfl⟩) .nil .nil rfl (RunB.lr (run_fieldAddr (.tmp rfl) fa28_1 (by first | exact Nat.zero_add _ | exact rfl))) ?_ | refine .skip rfl rfl ⟨_, _, _, _, rfl, rfl, rfl, rfl⟩ rfl (by first | rfl | kernel_rfl) ?_
          first | refine .det (B := []) rfl rfl (.inr ⟨_, _, _, rfl, rfl, rfl⟩) (.cons rfl .nil) .nil rfl (RunB.lr (run_load1 (.tmp rfl) kd3 (by repeat (first | exact List.Mem.head _ | apply List.Mem.tail)) (by exact rfl))) ?_ | refine .skip rfl rfl ⟨_, _, _, _, rfl, rfl, rfl, rfl⟩ rfl (by first | rfl | kernel_rfl) ?_
          first | refine .det (B := []) rfl rfl (.inr ⟨_, _, _, rfl, rfl, rfl⟩) .nil .nil rfl (RunB.lr (run_call1 cb63 (.cons (.tmp rfl) (.cons (.tmp rfl) (.cons (.tmp rfl) .nil))) (fun w _ => (inZK _ _ _ w).as (congrArg Value.bool h3)))) ?_ | refine .skip rfl rfl ⟨_, _, _, _, rfl, rfl, rfl, rfl⟩ rfl (by first | rfl | kernel_rfl) ?_
          first | refine .det (B := []) rfl rfl (.inr ⟨_, _, _, rfl, rfl, rfl⟩) .nil .nil rfl (RunB.lr (run_not (.tmp rfl) (by first | exact Bool.not_true | exact Bool.not_false | exact rfl))) ?_ | refine .skip rfl rfl ⟨_, _, _, _, rfl, rfl, rfl, rfl⟩ rfl (by first | rfl | kernel_rfl) ?_
          first | refine .det (B := []) rfl rfl (.inr ⟨_, _, _, rfl, rfl, rfl⟩) .nil .nil rfl (RunB.lr (by first | exact run_pick_true (.tmp rfl) .const | exact run_pick_false (.tmp rfl) (.tmp rfl))) ?_ | refine .skip rfl rfl ⟨_, _, _, _, rfl, rfl, rfl, rfl⟩ rfl (by first | rfl | kernel_rfl) ?_
          refine .det (B := []) rfl rfl (.inl rfl) .nil .nil rfl (RunB.lr (by first | exact run_pick_true (.tmp rfl) (.tmp rfl) | exact run_pick_false (.tmp rfl) .const)) ?_
          refine chain_nil (ts := [0, 1, 2]) (.cons rfl (.cons rfl (.cons rfl .nil))) (by decide) ?_
          refine xw_then ?_
          refine cw_cond_true (.tmp rfl) ?_
          refine cw_seq ?_
          refine cw_region ?_
          refine lstepB rfl rfl rfl (run_assign .const) ?_
          refine lnil ?_
          refine xw_then ?_
          refine cw_ret ?_
          refine xw_in_ret ?_
          refine xw_then_ret ?_
          refine xw_then_ret ?_
          refine xw_in_ret ?_
          refine xw_then_ret ?_
          refine xw_ret1 Try.results103 rfl (fun w hS => ⟨by rw [hno], hS.kept⟩)
      ·
        have hz2 := hz
        simp only [fitZ, Bool.and_eq_true] at hz2
        obtain ⟨⟨h1, h2⟩, h3⟩ := hz2
        refine cw_skip ?_
        refine xw_then ?_
        refine cw_seq ?_
        refine cw_block ?_
        refine cw_seq ?_
        refine cw_region ?_
        refine lstepB rfl rfl rfl (run_fieldAddr (.tmp rfl) fa24_3 (by first | exact Nat.zero_add _ | exact rfl)) ?_
        refine lstepB rfl rfl rfl (run_load1 (.tmp rfl) kd22 (by repeat (first | exact List.Mem.head _ | apply List.Mem.tail)) (by exact rfl)) ?_
        refine lstepB rfl rfl rfl (run_move (.tmp rfl)) ?_
        refine lstepB rfl rfl rfl (run_indexAddr (off' := o + j * 9) (.tmp rfl) (.tmp rfl) el22 (by omega) rfl) ?_
        refine lstepB rfl rfl rfl (run_loadN_at (l := [.int .i64 p.at_, .int .i64 p.hard.lo, .int .i64 p.hard.hi, .int .i64 p.sand.lo, .int .i64 p.sand.hi, .int .i64 p.silt.lo, .int .i64 p.silt.hi, .int .i64 p.clay.lo, .int .i64 p.clay.hi]) (.tmp rfl) kd55 sz55 rfl (fun w' hS j' v hj => hS.old_cell (fun h => h) (hc j p hpk j' v hj))) ?_
        refine lstep rfl rfl rfl (run_alloc zr55) ?_
        intro b8 _
        refine lstep0 rfl rfl (run_storeN (.tmp rfl) (.tmp rfl) rfl sz55 rfl (by repeat (first | exact Upd.here | apply Upd.there)) (by repeat (first | exact Put.done | apply Put.put | apply Put.skip))) ?_
        refine lnil ?_
        refine xw_then ?_
        refine cw_seq ?_
        refine cw_chain2 (σ := [0, 1, 2, 3, 4, 5, 6, 7, 8, 9, 10, 11, 12, 13, 14, 15, 16, 17, 18, 19, 20, 21, 22, 23, 24, 25, 26, 27, 28, 29, 30, 31, 32, 33, 34, 35, 36, 37, 38, 39]) [⟨0, [], [], [], 0⟩, ⟨0, [0], [], [], 1⟩, ⟨0, [], [], [], 0⟩, ⟨0, [], [], [], 7⟩, ⟨0, [], [], [], 15⟩, ⟨0, [], [], [], 31⟩, ⟨0, [1], [], [], 63⟩, ⟨0, [], [], [], 31⟩, ⟨0, [], [], [], 159⟩, ⟨0, [0], [], [], 415⟩, ⟨0, [], [], [], 31⟩, ⟨0, [], [], [], 1055⟩, ⟨0, [0], [], [], 3103⟩, ⟨0, [], [], [], 8191⟩, ⟨0, [], [], [], 16383⟩, ⟨0, [], [], [], 32767⟩, ⟨0, [], [], [], 65535⟩, ⟨0, [1], [], [], 131071⟩, ⟨0, [], [], [], 65535⟩, ⟨0, [], [], [], 327679⟩, ⟨0, [0], [], [], 851967⟩, ⟨0, [], [], [], 65535⟩, ⟨0, [], [], [], 2162687⟩, ⟨0, [0], [], [], 6356991⟩, ⟨0, [], [], [], 16777215⟩, ⟨0, [], [], [], 33554431⟩, ⟨0, [], [], [], 67108863⟩, ⟨0, [], [], [], 134217727⟩, ⟨0, [1], [], [], 268435455⟩, ⟨0, [], [], [], 536870911⟩, ⟨0, [], [], [], 268435455⟩, ⟨0, [], [], [], 1342177279⟩, ⟨0, [0], [], [], 3489660927⟩, ⟨0, [], [], [], 268435455⟩, ⟨0, [], [], [], 8858370047⟩, ⟨0, [0], [], [], 26038239231⟩, ⟨0, [], [], [], 68719476735⟩, ⟨0, [], [], [], 137438953471⟩, ⟨0, [], [], [], 274877906943⟩, ⟨0, [], [], [], 549755813887⟩] [(0, _), (1, _), (2, _)] (by kernel_rfl) (by kernel_rfl) rfl ?_
        refine .det (B := []) rfl rfl (.inl rfl) .nil .nil rfl (RunB.lr (run_fieldAddr (.tmp rfl) fa55_0 (by first | exact Nat.zero_add _ | exact rfl))) ?_
        refine .det (B := []) rfl rfl (.inl rfl) (.cons rfl .nil) .nil rfl (RunB.lr (run_load1 (.tmp rfl) kd3 (by repeat (first | exact List.Mem.head _ | apply List.Mem.tail)) (by exact rfl))) ?_
        refine .det (B := []) rfl rfl (.inl rfl) .nil .nil rfl (RunB.lr (run_move (.tmp rfl))) ?_
        refine .det (B := []) rfl rfl (.inl rfl) .nil .nil rfl (RunB.lr (run_eql (.tmp rfl) (.tmp rfl) (by first | exact decide_eq_true (by omega) | exact decide_eq_false (by omega) | exact rfl))) ?_
        refine .det (B := []) rfl rfl (.inl rfl) .nil .nil rfl (RunB.lr (run_move (.tmp rfl))) ?_
        refine .det (B := []) rfl rfl (.inr ⟨_, _, _, rfl, rfl, rfl⟩) .nil .nil rfl (RunB.lr (run_fieldAddr (.tmp rfl) fa92_0 (by first | exact Nat.zero_add _ | exact rfl))) ?_
        refine .det (B := []) rfl rfl (.inr ⟨_, _, _, rfl, rfl, rfl⟩) (.cons rfl .nil) .nil rfl (RunB.lr (run_load1 (.tmp rfl) kd3 (by repeat (first | exact List.Mem.head _ | apply List.Mem.tail)) (by exact rfl))) ?_
        refine .det (B := []) rfl rfl (.inr ⟨_, _, _, rfl, rfl, rfl⟩) .nil .nil rfl (RunB.lr (run_fieldAddr (.tmp rfl) fa55_2 (by first | exact Nat.zero_add _ | exact rfl))) ?_
        refine .det (B := []) rfl rfl (.inr ⟨_, _, _, rfl, rfl, rfl⟩) .nil .nil rfl (RunB.lr (run_fieldAddr (.tmp rfl) fa28_0 (by first | exact Nat.zero_add _ | exact rfl))) ?_
        refine .det (B := []) rfl rfl (.inr ⟨_, _, _, rfl, rfl, rfl⟩) (.cons rfl .nil) .nil rfl (RunB.lr (run_load1 (.tmp rfl) kd3 (by repeat (first | exact List.Mem.head _ | apply List.Mem.tail)) (by exact rfl))) ?_
        refine .det (B := []) rfl rfl (.inr ⟨_, _, _, rfl, rfl, rfl⟩) .nil .nil rfl (RunB.lr (run_fieldAddr (.tmp rfl) fa55_2 (by first | exact Nat.zero_add _ | exact rfl))) ?_
        refine .det (B := []) rfl rfl (.inr ⟨_, _, _, rfl, rfl, rfl⟩) .nil .nil rfl (RunB.lr (run_fieldAddr (.tmp rfl) fa28_1 (by first | exact Nat.zero_add _ | exact rfl))) ?_
        refine .det (B := []) rfl rfl (.inr ⟨_, _, _, rfl, rfl, rfl⟩) (.cons rfl .nil) .nil rfl (RunB.lr (run_load1 (.tmp rfl) kd3 (by repeat (first | exact List.Mem.head _ | apply List.Mem.tail)) (by exact rfl))) ?_
        refine .det (B := []) rfl rfl (.inr ⟨_, _, _, rfl, rfl, rfl⟩) .nil .nil rfl (RunB.lr (run_call1 cb63 (.cons (.tmp rfl) (.cons (.tmp rfl) (.cons (.tmp rfl) .nil))) (fun w _ => (inZK _ _ _ w).as (congrArg Value.bool h1)))) ?_
        refine .det (B := []) rfl rfl (.inr ⟨_, _, _, rfl, rfl, rfl⟩) .nil .nil rfl (RunB.lr (run_not (.tmp rfl) (by first | exact Bool.not_true | exact Bool.not_false | exact rfl))) ?_
        refine .det (B := []) rfl rfl (.inr ⟨_, _, _, rfl, rfl, rfl⟩) .nil .nil rfl (RunB.lr (run_move (.tmp rfl))) ?_
        refine .det (B := []) rfl rfl (.inr ⟨_, _, _, rfl, rfl, rfl⟩) .nil .nil rfl (RunB.lr (run_fieldAddr (.tmp rfl) fa92_1 (by first | exact Nat.zero_add _ | exact rfl))) ?_
        refine .det (B := []) rfl rfl (.inr ⟨_, _, _, rfl, rfl, rfl⟩) (.cons rfl .nil) .nil rfl (RunB.lr (run_load1 (.tmp rfl) kd3 (by repeat (first | exact List.Mem.head _ | apply List.Mem.tail)) (by exact rfl))) ?_
        refine .det (B := []) rfl rfl (.inr ⟨_, _, _, rfl, rfl, rfl⟩) .nil .nil rfl (RunB.lr (run_fieldAddr (.tmp rfl) fa55_3 (by first | exact Nat.zero_add _ | exact rfl))) ?_
        refine .det (B := []) rfl rfl (.inr ⟨_, _, _, rfl, rfl, rfl⟩) .nil .nil rfl (RunB.lr (run_fieldAddr (.tmp rfl) fa28_0 (by first | exact Nat.zero_add _ | exact rfl))) ?_
        refine .det (B := []) rfl rfl (.inr ⟨_, _, _, rfl, rfl, rfl⟩) (.cons rfl .nil) .nil rfl (RunB.lr (run_load1 (.tmp rfl) kd3 (by repeat (first | exact List.Mem.head _ | apply List.Mem.tail)) (by exact rfl))) ?_
        refine .det (B := []) rfl rfl (.inr ⟨_, _, _, rfl, rfl, rfl⟩) .nil .nil rfl (RunB.lr (run_fieldAddr (.tmp rfl) fa55_3 (by first | exact Nat.zero_add _ | exact rfl))) ?_
        refine .det (B := []) rfl rfl (.inr ⟨_, _, _, rfl, rfl, rfl⟩) .nil .nil rfl (RunB.lr (run_fieldAddr (.tmp rfl) fa28_1 (by first | exact Nat.zero_add _ | exact rfl))) ?_
        refine .det (B := []) rfl rfl (.inr ⟨_, _, _, rfl, rfl, rfl⟩) (.cons rfl .nil) .nil rfl (RunB.lr (run_load1 (.tmp rfl) kd3 (by repeat (first | exact List.Mem.head _ | apply List.Mem.tail)) (by exact rfl))) ?_
        refine .det (B := []) rfl rfl (.inr ⟨_, _, _, rfl, rfl, rfl⟩) .nil .nil rfl (RunB.lr (run_call1 cb63 (.cons (.tmp rfl) (.cons (.tmp rfl) (.cons (.tmp rfl) .nil))) (fun w _ => (inZK _ _ _ w).as (congrArg Value.bool h2)))) ?_
        refine .det (B := []) rfl rfl (.inr ⟨_, _, _, rfl, rfl, rfl⟩) .nil .nil rfl (RunB.lr (run_not (.tmp rfl) (by first | exact Bool.not_true | exact Bool.not_false | exact rfl))) ?_
        refine .det (B := []) rfl rfl (.inr ⟨_, _, _, rfl, rfl, rfl⟩) .nil .nil rfl (RunB.lr (by first | exact run_pick_true (.tmp rfl) .const | exact run_pick_false (.tmp rfl) (.tmp rfl))) ?_
        refine .det (B := []) rfl rfl (.inr ⟨_, _, _, rfl, rfl, rfl⟩) .nil .nil rfl (RunB.lr (run_move (.tmp rfl))) ?_
        refine .det (B := []) rfl rfl (.inr ⟨_, _, _, rfl, rfl, rfl⟩) (.cons rfl .nil) .nil rfl (RunB.lr (run_loadN (.tmp rfl) kd92 sz92 (by repeat (first | exact List.Mem.head _ | apply List.Mem.tail)) (by repeat (first | exact Sub.done | apply Sub.take | apply Sub.skip)))) ?_
        refine .det (B := []) rfl rfl (.inr ⟨_, _, _, rfl, rfl, rfl⟩) .nil .nil rfl (RunB.lr (run_call1 cb52 (.cons (.tmp rfl) .nil) (fun w _ => clayZK s hs w))) ?_
        refine .det (B := []) rfl rfl (.inr ⟨_, _, _, rfl, rfl, rfl⟩) .nil .nil rfl (RunB.lr (run_fieldAddr (.tmp rfl) fa55_4 (by first | exact Nat.zero_add _ | exact rfl))) ?_
        refine .det (B := []) rfl rfl (.inr ⟨_, _, _, rfl, rfl, rfl⟩) .nil .nil rfl (RunB.lr (run_fieldAddr (.tmp rfl) fa28_0 (by first | exact Nat.zero_add _ | exact rfl))) ?_
        refine .det (B := []) rfl rfl (.inr ⟨_, _, _, rfl, rfl, rfl⟩) (.cons rfl .nil) .nil rfl (RunB.lr (run_load1 (.tmp rfl) kd3 (by repeat (first | exact List.Mem.head _ | apply List.Mem.tail)) (by exact rfl))) ?_
        refine .det (B := []) rfl rfl (.inr ⟨_, _, _, rfl, rfl, rfl⟩) .nil .nil rfl (RunB.lr (run_fieldAddr (.tmp rfl) fa55_4 (by first | exact Nat.zero_add _ | exact rfl))) ?_
        refine .det (B := []) rfl rfl (.inr ⟨_, _, _, rfl, rfl, rfl⟩) .nil .nil rfl (RunB.lr (run_fieldAddr (.tmp rfl) fa28_1 (by first | exact Nat.zero_add _ | exact rfl))) ?_
        refine .det (B := []) rfl rfl (.inr ⟨_, _, _, rfl, rfl, rfl⟩) (.cons rfl .nil) .nil rfl (RunB.lr (run_load1 (.tmp rfl) kd3 (by repeat (first | exact List.Mem.head _ | apply List.Mem.tail)) (by exact rfl))) ?_
        refine .det (B := []) rfl rfl (.inr ⟨_, _, _, rfl, rfl, rfl⟩) .nil .nil rfl (RunB.lr (run_call1 cb63 (.cons (.tmp rfl) (.cons (.tmp rfl) (.cons (.tmp rfl) .nil))) (fun w _ => (inZK _ _ _ w).as (congrArg Value.bool h3)))) ?_
        refine .det (B := []) rfl rfl (.inr ⟨_, _, _, rfl, rfl, rfl⟩) .nil .nil rfl (RunB.lr (run_not (.tmp rfl) (by first | exact Bool.not_true | exact Bool.not_false | exact rfl))) ?_
        refine .det (B := []) rfl rfl (.inr ⟨_, _, _, rfl, rfl, rfl⟩) .nil .nil rfl (RunB.lr (by first | exact run_pick_true (.tmp rfl) .const | exact run_pick_false (.tmp rfl) (.tmp rfl))) ?_
        refine .det (B := []) rfl rfl (.inl rfl) .nil .nil rfl (RunB.lr (by first | exact run_pick_true (.tmp rfl) (.tmp rfl) | exact run_pick_false (.tmp rfl) .const)) ?_
        refine chain_nil (ts := [0, 1, 2]) (.cons rfl (.cons rfl (.cons rfl .nil))) (by decide) ?_
        refine xw_then ?_
        refine cw_cond_false (.tmp rfl) ?_
        refine cw_skip ?_
        refine xw_in ?_
        refine xw_then ?_
        refine cw_region ?_
        refine lstepB rfl rfl rfl (run_move (.tmp rfl)) ?_
        refine lstepB rfl rfl rfl (run_add (.tmp rfl) .const (by first | exact IntWalk.i64_in _ (by omega) | exact rfl)) ?_
        refine lstepB rfl rfl rfl (run_assign (.tmp rfl)) ?_
        refine lnil ?_
        exact xw_round (j + 1) ⟨by omega, by rw [htk, List.all_append, j2]; simp [hz]⟩ (by show g.pits.length - (j + 1) < g.pits.length - j; omega) (by repeat (first | exact Less.nil | refine Less.cons rfl ?_)) (by repeat (first | exact Pick.nil | (apply Pick.cons; focus (repeat (first | exact Del.here | apply Del.there)))))
    ·
      refine cw_skip ?_
      refine xw_then ?_
      refine cw_seq ?_
      refine cw_block ?_
      refine cw_seq ?_
      refine cw_region ?_
      refine lstepB rfl rfl rfl (run_fieldAddr (.tmp rfl) fa24_3 (by first | exact Nat.zero_add _ | exact rfl)) ?_
      refine lstepB rfl rfl rfl (run_load1 (.tmp rfl) kd22 (by repeat (first | exact List.Mem.head _ | apply List.Mem.tail)) (by exact rfl)) ?_
      refine lstepB rfl rfl rfl (run_move (.tmp rfl)) ?_
      refine lstepB rfl rfl rfl (run_indexAddr (off' := o + j * 9) (.tmp rfl) (.tmp rfl) el22 (by omega) rfl) ?_
      refine lstepB rfl rfl rfl (run_loadN_at (l := [.int .i64 p.at_, .int .i64 p.hard.lo, .int .i64 p.hard.hi, .int .i64 p.sand.lo, .int .i64 p.sand.hi, .int .i64 p.silt.lo, .int .i64 p.silt.hi, .int .i64 p.clay.lo, .int .i64 p.clay.hi]) (.tmp rfl) kd55 sz55 rfl (fun w' hS j' v hj => hS.old_cell (fun h => h) (hc j p hpk j' v hj))) ?_
      refine lstep rfl rfl rfl (run_alloc zr55) ?_
      intro b8 _
      refine lstep0 rfl rfl (run_storeN (.tmp rfl) (.tmp rfl) rfl sz55 rfl (by repeat (first | exact Upd.here | apply Upd.there)) (by repeat (first | exact Put.done | apply Put.put | apply Put.skip))) ?_
      refine lnil ?_
      refine xw_then ?_
      refine cw_seq ?_
      refine cw_chain2 (σ := [0, 1, 2, 3, 4, 5, 6, 7, 8, 9, 10, 11, 12, 13, 14, 15, 16, 17, 18, 19, 20, 21, 22, 23, 24, 25, 26, 27, 28, 29, 30, 31, 32, 33, 34, 35, 36, 37, 38, 39]) [⟨0, [], [], [], 0⟩, ⟨0, [0], [], [], 1⟩, ⟨0, [], [], [], 0⟩, ⟨0, [], [], [], 7⟩, ⟨0, [], [], [], 15⟩, ⟨0, [], [], [], 31⟩, ⟨0, [1], [], [], 63⟩, ⟨0, [], [], [], 31⟩, ⟨0, [], [], [], 159⟩, ⟨0, [0], [], [], 415⟩, ⟨0, [], [], [], 31⟩, ⟨0, [], [], [], 1055⟩, ⟨0, [0], [], [], 3103⟩, ⟨0, [], [], [], 8191⟩, ⟨0, [], [], [], 16383⟩, ⟨0, [], [], [], 32767⟩, ⟨0, [], [], [], 65535⟩, ⟨0, [1], [], [], 131071⟩, ⟨0, [], [], [], 65535⟩, ⟨0, [], [], [], 327679⟩, ⟨0, [0], [], [], 851967⟩, ⟨0, [], [], [], 65535⟩, ⟨0, [], [], [], 2162687⟩, ⟨0, [0], [], [], 6356991⟩, ⟨0, [], [], [], 16777215⟩, ⟨0, [], [], [], 33554431⟩, ⟨0, [], [], [], 67108863⟩, ⟨0, [], [], [], 134217727⟩, ⟨0, [1], [], [], 268435455⟩, ⟨0, [], [], [], 536870911⟩, ⟨0, [], [], [], 268435455⟩, ⟨0, [], [], [], 1342177279⟩, ⟨0, [0], [], [], 3489660927⟩, ⟨0, [], [], [], 268435455⟩, ⟨0, [], [], [], 8858370047⟩, ⟨0, [0], [], [], 26038239231⟩, ⟨0, [], [], [], 68719476735⟩, ⟨0, [], [], [], 137438953471⟩, ⟨0, [], [], [], 274877906943⟩, ⟨0, [], [], [], 549755813887⟩] [(0, _), (1, _), (2, _)] (by kernel_rfl) (by kernel_rfl) rfl ?_
      refine .det (B := []) rfl rfl (.inl rfl) .nil .nil rfl (RunB.lr (run_fieldAddr (.tmp rfl) fa55_0 (by first | exact Nat.zero_add _ | exact rfl))) ?_
      refine .det (B := []) rfl rfl (.inl rfl) (.cons rfl .nil) .nil rfl (RunB.lr (run_load1 (.tmp rfl) kd3 (by repeat (first | exact List.Mem.head _ | apply List.Mem.tail)) (by exact rfl))) ?_
      refine .det (B := []) rfl rfl (.inl rfl) .nil .nil rfl (RunB.lr (run_move (.tmp rfl))) ?_
      refine .det (B := []) rfl rfl (.inl rfl) .nil .nil rfl (RunB.lr (run_eql (.tmp rfl) (.tmp rfl) (by first | exact decide_eq_true (by omega) | exact decide_eq_false (by omega) | exact rfl))) ?_
      refine .det (B := []) rfl rfl (.inl rfl) .nil .nil rfl (RunB.lr (run_move (.tmp rfl))) ?_
      refine .skip rfl rfl ⟨_, _, _, _, rfl, rfl, rfl, rfl⟩ rfl (by first | rfl | kernel_rfl) ?_
      refine .skip rfl rfl ⟨_, _, _, _, rfl, rfl, rfl, rfl⟩ rfl (by first | rfl | kernel_rfl) ?_
      refine .skip rfl rfl ⟨_, _, _, _, rfl, rfl, rfl, rfl⟩ rfl (by first | rfl | kernel_rfl) ?_
      refine .skip rfl rfl ⟨_, _, _, _, rfl, rfl, rfl, rfl⟩ rfl (by first | rfl | kernel_rfl) ?_
      refine .skip rfl rfl ⟨_, _, _, _, rfl, rfl, rfl, rfl⟩ rfl (by first | rfl | kernel_rfl) ?_
      refine .skip rfl rfl ⟨_, _, _, _, rfl, rfl, rfl, rfl⟩ rfl (by first | rfl | kernel_rfl) ?_
      refine .skip rfl rfl ⟨_, _, _, _, rfl, rfl, rfl, rfl⟩ rfl (by first | rfl | kernel_rfl) ?_
      refine .skip rfl rfl ⟨_, _, _, _, rfl, rfl, rfl, rfl⟩ rfl (by first | rfl | kernel_rfl) ?_
      refine .skip rfl rfl ⟨_, _, _, _, rfl, rfl, rfl, rfl⟩ rfl (by first | rfl | kernel_rfl) ?_
      refine .skip rfl rfl ⟨_, _, _, _, rfl, rfl, rfl, rfl⟩ rfl (by first | rfl | kernel_rfl) ?_
      refine .skip rfl rfl ⟨_, _, _, _, rfl, rfl, rfl, rfl⟩ rfl (by first | rfl | kernel_rfl) ?_
      refine .skip rfl rfl ⟨_, _, _, _, rfl, rfl, rfl, rfl⟩ rfl (by first | rfl | kernel_rfl) ?_
      refine .skip rfl rfl ⟨_, _, _, _, rfl, rfl, rfl, rfl⟩ rfl (by first | rfl | kernel_rfl) ?_
      refine .skip rfl rfl ⟨_, _, _, _, rfl, rfl, rfl, rfl⟩ rfl (by first | rfl | kernel_rfl) ?_
      refine .skip rfl rfl ⟨_, _, _, _, rfl, rfl, rfl, rfl⟩ rfl (by first | rfl | kernel_rfl) ?_
      refine .skip rfl rfl ⟨_, _, _, _, rfl, rfl, rfl, rfl⟩ rfl (by first | rfl | kernel_rfl) ?_
      refine .skip rfl rfl ⟨_, _, _, _, rfl, rfl, rfl, rfl⟩ rfl (by first | rfl | kernel_rfl) ?_
      refine .skip rfl rfl ⟨_, _, _, _, rfl, rfl, rfl, rfl⟩ rfl (by first | rfl | kernel_rfl) ?_
      refine .skip rfl rfl ⟨_, _, _, _, rfl, rfl, rfl, rfl⟩ rfl (by first | rfl | kernel_rfl) ?_
      refine .skip rfl rfl ⟨_, _, _, _, rfl, rfl, rfl, rfl⟩ rfl (by first | rfl | kernel_rfl) ?_
      refine .skip rfl rfl ⟨_, _, _, _, rfl, rfl, rfl, rfl⟩ rfl (by first | rfl | kernel_rfl) ?_
      refine .skip rfl rfl ⟨_, _, _, _, rfl, rfl, rfl, rfl⟩ rfl (by first | rfl | kernel_rfl) ?_
      refine .skip rfl rfl ⟨_, _, _, _, rfl, rfl, rfl, rfl⟩ rfl (by first | rfl | kernel_rfl) ?_
      refine .skip rfl rfl ⟨_, _, _, _, rfl, rfl, rfl, rfl⟩ rfl (by first | rfl | kernel_rfl) ?_
      refine .skip rfl rfl ⟨_, _, _, _, rfl, rfl, rfl, rfl⟩ rfl (by first | rfl | kernel_rfl) ?_
      refine .skip rfl rfl ⟨_, _, _, _, rfl, rfl, rfl, rfl⟩ rfl (by first | rfl | kernel_rfl) ?_
      refine .skip rfl rfl ⟨_, _, _, _, rfl, rfl, rfl, rfl⟩ rfl (by first | rfl | kernel_rfl) ?_
      refine .skip rfl rfl ⟨_, _, _, _, rfl, rfl, rfl, rfl⟩ rfl (by first | rfl | kernel_rfl) ?_
      refine .skip rfl rfl ⟨_, _, _, _, rfl, rfl, rfl, rfl⟩ rfl (by first | rfl | kernel_rfl) ?_
      refine .skip rfl rfl ⟨_, _, _, _, rfl, rfl, rfl, rfl⟩ rfl (by first | rfl | kernel_rfl) ?_
      refine .skip rfl rfl ⟨_, _, _, _, rfl, rfl, rfl, rfl⟩ rfl (by first | rfl | kernel_rfl) ?_
      refine .skip rfl rfl ⟨_, _, _, _, rfl, rfl, rfl, rfl⟩ rfl (by first | rfl | kernel_rfl) ?_
      refine .skip rfl rfl ⟨_, _, _, _, rfl, rfl, rfl, rfl⟩ rfl (by first | rfl | kernel_rfl) ?_
      refine .skip rfl rfl ⟨_, _, _, _, rfl, rfl, rfl, rfl⟩ rfl (by first | rfl | kernel_rfl) ?_
      refine .det (B := []) rfl rfl (.inl rfl) .nil .nil rfl (RunB.lr (by first | exact run_pick_true (.tmp rfl) (.tmp rfl) | exact run_pick_false (.tmp rfl) .const)) ?_
      refine chain_nil (ts := [0, 1, 2]) (.cons rfl (.cons rfl (.cons rfl .nil))) (by decide) ?_
      refine xw_then ?_
      refine cw_cond_false (.tmp rfl) ?_
      refine cw_skip ?_
      refine xw_in ?_
      refine xw_then ?_
      refine cw_region ?_
      refine lstepB rfl rfl rfl (run_move (.tmp rfl)) ?_
      refine lstepB rfl rfl rfl (run_add (.tmp rfl) .const (by first | exact IntWalk.i64_in _ (by omega) | exact rfl)) ?_
      refine lstepB rfl rfl rfl (run_assign (.tmp rfl)) ?_
      refine lnil ?_
      exact xw_round (j + 1) ⟨by omega, by rw [htk, List.all_append, j2]; simp [hat]⟩ (by show g.pits.length - (j + 1) < g.pits.length - j; omega) (by repeat (first | exact Less.nil | refine Less.cons rfl ?_)) (by repeat (first | exact Pick.nil | (apply Pick.cons; focus (repeat (first | exact Del.here | apply Del.there)))))
  ·
    obtain rfl : j = g.pits.length := by omega
    rw [List.take_length] at j2
    refine cw_exit ?_
    refine xw_then_exit ?_
    refine xw_then_exit ?_
    refine xw_in_exit ?_
    refine xw_then ?_
    refine cw_seq ?_
    refine cw_region ?_
    refine lstepB rfl rfl rfl (run_assign .const) ?_
    refine lnil ?_
    refine xw_then ?_
    refine cw_ret ?_
    refine xw_ret1 Try.results103 rfl (fun w hS => ⟨by rw [show fitsB g n s = true from j2], hS.kept⟩)
set_option maxRecDepth 100000 in
set_option maxHeartbeats 4000000 in
theorem mixesZK (w : World) : CallsF Try.prog 101 (([] : List Value)).toArray w fun e w' => ∃ q : Nat × Nat × List Value, InRow 2 allM.length q.2.1 q.2.2 (ssC allM) ∧ e = .returned (.slice (some ⟨q.1, 0, none⟩) allM.length q.2.1) ∧ St w NoT [(q.1, Obj.cells q.2.2.toArray 92 (0, 0))] w' := by
 have hbnd : ∀ i j : Nat, i ≤ 21 → j ≤ 21 - i → (mixRows i ++ mixRow i j).length ≤ 1000 := by
  intro i j h1 h2
  have : ∀ i j : Fin 22, (mixRows i.1 ++ mixRow i.1 j.1).length ≤ 1000 := by decide +kernel
  exact this ⟨i, by omega⟩ ⟨j, by omega⟩
 refine enter (n := 21) Try.func101 rfl rfl rfl (by repeat (first | exact Fill.nil | apply Fill.cons)) ?_
 refine cw_seq ?_
 refine cw_region ?_
 refine lstepB rfl rfl rfl (run_assign .const) ?_
 refine lnil ?_
 refine xw_then ?_
 refine cw_seq ?_
 refine cw_region ?_
 refine lstepB rfl rfl rfl (run_assign .const) ?_
 refine lnil ?_
 refine xw_then ?_
 refine cw_seq ?_
 refine cw_seq ?_
 refine cw_region ?_
 refine lstepB rfl rfl rfl (run_assign .const) ?_
 refine lnil ?_
 refine xw_then ?_
 refine cw_block ?_
 refine cw_loop (S := Nat × Option (Nat × Nat × List Value)) (fun s => [(2, .int .i64 ((s.1 : Nat) : Int)), (1, match s.2 with | none => .slice none 0 0 | some q => .slice (some ⟨q.1, 0, none⟩) (mixRows s.1).length q.2.1)]) [] (fun s => (match s.2 with | none => [] | some q => [(q.1, Obj.cells q.2.2.toArray 92 (0, 0))])) (fun s => s.1 ≤ 21 ∧ (match s.2 with | none => s.1 = 0 | some q => 1 ≤ (mixRows s.1).length ∧ InRow 2 (mixRows s.1).length q.2.1 q.2.2 (ssC (mixRows s.1)))) (fun s => 21 - s.1) (0, none) ⟨Nat.zero_le _, rfl⟩ (by repeat (first | exact Less.nil | refine Less.cons rfl ?_)) (by repeat (first | exact Pick.nil | (apply Pick.cons; focus (repeat (first | exact Del.here | apply Del.there))))) ?_
 intro s hs
 obtain ⟨i, o⟩ := s
 obtain ⟨hi, ho⟩ := hs
 dsimp only at hi ho ⊢
 cases o
 case none =>
  dsimp only at ho ⊢
  subst ho
  refine cw_seq ?_
  refine cw_seq ?_
  refine cw_region ?_
  refine lstepB rfl rfl rfl (run_move (.tmp rfl)) ?_
  refine lstepB rfl rfl rfl (run_leq (.tmp rfl) .const rfl) ?_
  refine lnil ?_
  refine xw_then ?_
  refine cw_cond_p (.tmp rfl) (fun hl => ?_) (fun hl => ?_)
  ·
   refine cw_skip ?_
   refine xw_then ?_
   refine cw_seq ?_
   refine cw_block ?_
   refine cw_seq ?_
   refine cw_region ?_
   refine lstepB rfl rfl rfl (run_assign .const) ?_
   refine lnil ?_
   refine xw_then ?_
   refine cw_block ?_
   refine cw_loop (S := Nat × Option (Nat × Nat × List Value)) (fun s => [(3, .int .i64 ((s.1 : Nat) : Int)), (1, match s.2 with | none => .slice none 0 0 | some q => .slice (some ⟨q.1, 0, none⟩) (mixRows 0 ++ mixRow 0 s.1).length q.2.1)]) [(2, _)] (fun s => (match s.2 with | none => [] | some q => [(q.1, Obj.cells q.2.2.toArray 92 (0, 0))])) (fun s => s.1 ≤ 21 - 0 ∧ (match s.2 with | none => (0 = 0 ∧ s.1 = 0) | some q => 1 ≤ ((mixRows 0 ++ mixRow 0 s.1)).length ∧ InRow 2 ((mixRows 0 ++ mixRow 0 s.1)).length q.2.1 q.2.2 (ssC ((mixRows 0 ++ mixRow 0 s.1))))) (fun s => 21 - s.1) (0, none) ⟨by simp only; omega, rfl, rfl⟩ (by repeat (first | exact Less.nil | refine Less.cons rfl ?_)) (by repeat (first | exact Pick.nil | (apply Pick.cons; focus (repeat (first | exact Del.here | apply Del.there))))) ?_
   intro s hs
   obtain ⟨j, o⟩ := s
   obtain ⟨hj, ho2⟩ := hs
   dsimp only at hj ho2 ⊢
   cases o
   case none =>
    dsimp only at ho2 ⊢
    obtain ⟨hi0, rfl⟩ := ho2
    refine cw_seq ?_
    refine cw_seq ?_
    refine cw_region ?_
    refine lstepB rfl rfl rfl (run_move (.tmp rfl)) ?_
    refine lstepB rfl rfl rfl (run_move (.tmp rfl)) ?_
    refine lstepB rfl rfl rfl (run_add (.tmp rfl) (.tmp rfl) (by first | exact IntWalk.i64_in _ (by omega) | exact rfl)) ?_
    refine lstepB rfl rfl rfl (run_leq (.tmp rfl) .const rfl) ?_
    refine lnil ?_
    refine xw_then ?_
    refine cw_cond_p (.tmp rfl) (fun hl2 => ?_) (fun hl2 => ?_)
    ·
     refine cw_skip ?_
     refine xw_then ?_
     refine cw_seq ?_
     refine cw_block ?_
     refine cw_region ?_
     refine lstepB rfl rfl rfl (run_move (.tmp rfl)) ?_
     refine lstepB rfl rfl rfl (run_move (.tmp rfl)) ?_
     refine lstepB rfl rfl rfl (run_move (.tmp rfl)) ?_
     refine lstepB rfl rfl rfl (run_build_at (.cons (.tmp rfl) (.cons (.tmp rfl) .nil)) (fun w => bd92_0_1 w)) ?_
     refine lstep rfl rfl rfl (LR.runs (lr_buildSlice_at (.cons (.tmp rfl) .nil) (fun w => bs89_1_0 w)) (by repeat (first | exact Pick.nil | (apply Pick.cons; focus (repeat (first | exact Del.here | apply Del.there))))) (by repeat (first | exact Dels.nil | (apply Dels.cons; focus (repeat (first | exact Del.here | apply Del.there)))))) ?_
     intro b18 _
     refine lstep rfl rfl rfl (LR.runs (R := [(b18, _)]) (A := []) (lr_append_nil ap89 (.tmp rfl) (.tmp rfl) (news := sC (mixS 0 0)) rfl (by omega) (by omega) (by decide) (news_own (by repeat (first | exact List.Mem.head _ | apply List.Mem.tail)))) (by repeat (first | exact Pick.nil | (apply Pick.cons; focus (repeat (first | exact Del.here | apply Del.there))))) (by repeat (first | exact Dels.nil | (apply Dels.cons; focus (repeat (first | exact Del.here | apply Del.there)))))) ?_
     intro ⟨gT, cgT, rgT⟩ hgT
     have hT : InRow 2 (mixRows 0 ++ mixRow 0 (0 + 1)).length cgT rgT (ssC (mixRows 0 ++ mixRow 0 (0 + 1))) := hgT
     dsimp only
     refine lstepB rfl rfl rfl (run_assign (.tmp rfl)) ?_
     refine lnil ?_
     refine xw_in ?_
     refine xw_then ?_
     refine cw_region ?_
     refine lstepB rfl rfl rfl (run_move (.tmp rfl)) ?_
     refine lstepB rfl rfl rfl (run_add (.tmp rfl) .const (by first | exact IntWalk.i64_in _ (by omega) | exact rfl)) ?_
     refine lstepB rfl rfl rfl (run_assign (.tmp rfl)) ?_
     refine lnil ?_
     exact xw_round (0 + 1, some (gT, cgT, rgT)) ⟨by simp only; omega, by exact Nat.le_refl 1, hT⟩ (by show 21 - (0 + 1) < 21 - 0; omega) (by repeat (first | exact Less.nil | refine Less.cons rfl ?_)) (by repeat (first | exact Pick.nil | (apply Pick.cons; focus (repeat (first | exact Del.here | apply Del.there)))))
    ·
     exfalso; omega
   case some q =>
    obtain ⟨gY, cY, rY⟩ := q
    dsimp only at ho2 ⊢
    obtain ⟨hn2, hY⟩ := ho2
    refine cw_seq ?_
    refine cw_seq ?_
    refine cw_region ?_
    refine lstepB rfl rfl rfl (run_move (.tmp rfl)) ?_
    refine lstepB rfl rfl rfl (run_move (.tmp rfl)) ?_
    refine lstepB rfl rfl rfl (run_add (.tmp rfl) (.tmp rfl) (by first | exact IntWalk.i64_in _ (by omega) | exact rfl)) ?_
    refine lstepB rfl rfl rfl (run_leq (.tmp rfl) .const rfl) ?_
    refine lnil ?_
    refine xw_then ?_
    refine cw_cond_p (.tmp rfl) (fun hl2 => ?_) (fun hl2 => ?_)
    ·
     have hbd := hbnd 0 j (by omega) (by omega)
     refine cw_skip ?_
     refine xw_then ?_
     refine cw_seq ?_
     refine cw_block ?_
     refine cw_region ?_
     refine lstepB rfl rfl rfl (run_move (.tmp rfl)) ?_
     refine lstepB rfl rfl rfl (run_move (.tmp rfl)) ?_
     refine lstepB rfl rfl rfl (run_move (.tmp rfl)) ?_
     refine lstepB rfl rfl rfl (run_build_at (.cons (.tmp rfl) (.cons (.tmp rfl) .nil)) (fun w => bd92_0_1 w)) ?_
     refine lstep rfl rfl rfl (LR.runs (lr_buildSlice_at (.cons (.tmp rfl) .nil) (fun w => bs89_1_0 w)) (by repeat (first | exact Pick.nil | (apply Pick.cons; focus (repeat (first | exact Del.here | apply Del.there))))) (by repeat (first | exact Dels.nil | (apply Dels.cons; focus (repeat (first | exact Del.here | apply Del.there)))))) ?_
     intro b18 _
     refine lstep rfl rfl rfl (LR.runs (R := [(b18, _)]) (A := [(gY, _)]) (lr_append_row ap89 (.tmp rfl) hY (.tmp rfl) (news := sC (mixS 0 j)) rfl rfl (by omega) (by unfold maxLen; omega) (news_own (by repeat (first | exact List.Mem.head _ | apply List.Mem.tail)))) (by repeat (first | exact Pick.nil | (apply Pick.cons; focus (repeat (first | exact Del.here | apply Del.there))))) (by repeat (first | exact Dels.nil | (apply Dels.cons; focus (repeat (first | exact Del.here | apply Del.there)))))) ?_
     intro ⟨gT, cgT, rgT⟩ hgT
     have hle : ((mixRows 0 ++ mixRow 0 (j + 1))).length = (mixRows 0 ++ mixRow 0 j).length + 1 := by rw [mixRow_succ, ← List.append_assoc, List.length_append]; rfl
     have hT : InRow 2 ((mixRows 0 ++ mixRow 0 (j + 1))).length cgT rgT (ssC (mixRows 0 ++ mixRow 0 (j + 1))) := by rw [hle, mixRow_succ, ← List.append_assoc, ssC_append]; exact hgT
     dsimp only
     rw [(show Value.slice (some ⟨gT, 0, none⟩) ((mixRows 0 ++ mixRow 0 j).length + 1) cgT = Value.slice (some ⟨gT, 0, none⟩) ((mixRows 0 ++ mixRow 0 (j + 1))).length cgT from congrArg (fun n => Value.slice (some ⟨gT, 0, none⟩) n cgT) hle.symm)]
     refine lstepB rfl rfl rfl (run_assign (.tmp rfl)) ?_
     refine lnil ?_
     refine xw_in ?_
     refine xw_then ?_
     refine cw_region ?_
     refine lstepB rfl rfl rfl (run_move (.tmp rfl)) ?_
     refine lstepB rfl rfl rfl (run_add (.tmp rfl) .const (by first | exact IntWalk.i64_in _ (by omega) | exact rfl)) ?_
     refine lstepB rfl rfl rfl (run_assign (.tmp rfl)) ?_
     refine lnil ?_
     exact xw_round (j + 1, some (gT, cgT, rgT)) ⟨by simp only; omega, by rw [hle]; omega, hT⟩ (by show 21 - (j + 1) < 21 - j; omega) (by repeat (first | exact Less.nil | refine Less.cons rfl ?_)) (by repeat (first | exact Pick.nil | (apply Pick.cons; focus (repeat (first | exact Del.here | apply Del.there)))))
    ·
     obtain rfl : j = 21 - 0 := by omega
     rw [← mixRows_succ] at hn2 hY ⊢
     refine cw_exit ?_
     refine xw_then_exit ?_
     refine xw_then_exit ?_
     refine xw_in_exit ?_
     refine xw_in ?_
     refine xw_then ?_
     refine cw_region ?_
     refine lstepB rfl rfl rfl (run_move (.tmp rfl)) ?_
     refine lstepB rfl rfl rfl (run_add (.tmp rfl) .const (by first | exact IntWalk.i64_in _ (by omega) | exact rfl)) ?_
     refine lstepB rfl rfl rfl (run_assign (.tmp rfl)) ?_
     refine lnil ?_
     exact xw_round (0 + 1, some (gY, cY, rY)) ⟨by simp only; omega, hn2, hY⟩ (by show 21 - (0 + 1) < 21 - 0; omega) (by repeat (first | exact Less.nil | refine Less.cons rfl ?_)) (by repeat (first | exact Pick.nil | (apply Pick.cons; focus (repeat (first | exact Del.here | apply Del.there)))))
  ·
   exfalso; omega
 case some q =>
  obtain ⟨gX, cX, rX⟩ := q
  dsimp only at ho ⊢
  obtain ⟨hn1, hX⟩ := ho
  refine cw_seq ?_
  refine cw_seq ?_
  refine cw_region ?_
  refine lstepB rfl rfl rfl (run_move (.tmp rfl)) ?_
  refine lstepB rfl rfl rfl (run_leq (.tmp rfl) .const rfl) ?_
  refine lnil ?_
  refine xw_then ?_
  refine cw_cond_p (.tmp rfl) (fun hl => ?_) (fun hl => ?_)
  ·
   refine cw_skip ?_
   refine xw_then ?_
   refine cw_seq ?_
   refine cw_block ?_
   refine cw_seq ?_
   refine cw_region ?_
   refine lstepB rfl rfl rfl (run_assign .const) ?_
   refine lnil ?_
   refine xw_then ?_
   refine cw_block ?_
   have hr0 : mixRows i = mixRows i ++ mixRow i 0 := by simp [mixRow]
   rw [hr0] at hn1 hX ⊢
   refine cw_loop (S := Nat × Option (Nat × Nat × List Value)) (fun s => [(3, .int .i64 ((s.1 : Nat) : Int)), (1, match s.2 with | none => .slice none 0 0 | some q => .slice (some ⟨q.1, 0, none⟩) (mixRows i ++ mixRow i s.1).length q.2.1)]) [(2, _)] (fun s => (match s.2 with | none => [] | some q => [(q.1, Obj.cells q.2.2.toArray 92 (0, 0))])) (fun s => s.1 ≤ 21 - i ∧ (match s.2 with | none => (i = 0 ∧ s.1 = 0) | some q => 1 ≤ ((mixRows i ++ mixRow i s.1)).length ∧ InRow 2 ((mixRows i ++ mixRow i s.1)).length q.2.1 q.2.2 (ssC ((mixRows i ++ mixRow i s.1))))) (fun s => 21 - s.1) (0, some (gX, cX, rX)) ⟨by simp only; omega, hn1, hX⟩ (by repeat (first | exact Less.nil | refine Less.cons rfl ?_)) (by repeat (first | exact Pick.nil | (apply Pick.cons; focus (repeat (first | exact Del.here | apply Del.there))))) ?_
   intro s hs
   obtain ⟨j, o⟩ := s
   obtain ⟨hj, ho2⟩ := hs
   dsimp only at hj ho2 ⊢
   cases o
   case none =>
    dsimp only at ho2 ⊢
    obtain ⟨hi0, rfl⟩ := ho2
    subst hi0
    refine cw_seq ?_
    refine cw_seq ?_
    refine cw_region ?_
    refine lstepB rfl rfl rfl (run_move (.tmp rfl)) ?_
    refine lstepB rfl rfl rfl (run_move (.tmp rfl)) ?_
    refine lstepB rfl rfl rfl (run_add (.tmp rfl) (.tmp rfl) (by first | exact IntWalk.i64_in _ (by omega) | exact rfl)) ?_
    refine lstepB rfl rfl rfl (run_leq (.tmp rfl) .const rfl) ?_
    refine lnil ?_
    refine xw_then ?_
    refine cw_cond_p (.tmp rfl) (fun hl2 => ?_) (fun hl2 => ?_)
    ·
     refine cw_skip ?_
     refine xw_then ?_
     refine cw_seq ?_
     refine cw_block ?_
     refine cw_region ?_
     refine lstepB rfl rfl rfl (run_move (.tmp rfl)) ?_
     refine lstepB rfl rfl rfl (run_move (.tmp rfl)) ?_
     refine lstepB rfl rfl rfl (run_move (.tmp rfl)) ?_
     refine lstepB rfl rfl rfl (run_build_at (.cons (.tmp rfl) (.cons (.tmp rfl) .nil)) (fun w => bd92_0_1 w)) ?_
     refine lstep rfl rfl rfl (LR.runs (lr_buildSlice_at (.cons (.tmp rfl) .nil) (fun w => bs89_1_0 w)) (by repeat (first | exact Pick.nil | (apply Pick.cons; focus (repeat (first | exact Del.here | apply Del.there))))) (by repeat (first | exact Dels.nil | (apply Dels.cons; focus (repeat (first | exact Del.here | apply Del.there)))))) ?_
     intro b18 _
     refine lstep rfl rfl rfl (LR.runs (R := [(b18, _)]) (A := []) (lr_append_nil ap89 (.tmp rfl) (.tmp rfl) (news := sC (mixS 0 0)) rfl (by omega) (by omega) (by decide) (news_own (by repeat (first | exact List.Mem.head _ | apply List.Mem.tail)))) (by repeat (first | exact Pick.nil | (apply Pick.cons; focus (repeat (first | exact Del.here | apply Del.there))))) (by repeat (first | exact Dels.nil | (apply Dels.cons; focus (repeat (first | exact Del.here | apply Del.there)))))) ?_
     intro ⟨gT, cgT, rgT⟩ hgT
     have hT : InRow 2 (mixRows 0 ++ mixRow 0 (0 + 1)).length cgT rgT (ssC (mixRows 0 ++ mixRow 0 (0 + 1))) := hgT
     dsimp only
     refine lstepB rfl rfl rfl (run_assign (.tmp rfl)) ?_
     refine lnil ?_
     refine xw_in ?_
     refine xw_then ?_
     refine cw_region ?_
     refine lstepB rfl rfl rfl (run_move (.tmp rfl)) ?_
     refine lstepB rfl rfl rfl (run_add (.tmp rfl) .const (by first | exact IntWalk.i64_in _ (by omega) | exact rfl)) ?_
     refine lstepB rfl rfl rfl (run_assign (.tmp rfl)) ?_
     refine lnil ?_
     exact xw_round (0 + 1, some (gT, cgT, rgT)) ⟨by simp only; omega, by exact Nat.le_refl 1, hT⟩ (by show 21 - (0 + 1) < 21 - 0; omega) (by repeat (first | exact Less.nil | refine Less.cons rfl ?_)) (by repeat (first | exact Pick.nil | (apply Pick.cons; focus (repeat (first | exact Del.here | apply Del.there)))))
    ·
     exfalso; omega
   case some q =>
    obtain ⟨gY, cY, rY⟩ := q
    dsimp only at ho2 ⊢
    obtain ⟨hn2, hY⟩ := ho2
    refine cw_seq ?_
    refine cw_seq ?_
    refine cw_region ?_
    refine lstepB rfl rfl rfl (run_move (.tmp rfl)) ?_
    refine lstepB rfl rfl rfl (run_move (.tmp rfl)) ?_
    refine lstepB rfl rfl rfl (run_add (.tmp rfl) (.tmp rfl) (by first | exact IntWalk.i64_in _ (by omega) | exact rfl)) ?_
    refine lstepB rfl rfl rfl (run_leq (.tmp rfl) .const rfl) ?_
    refine lnil ?_
    refine xw_then ?_
    refine cw_cond_p (.tmp rfl) (fun hl2 => ?_) (fun hl2 => ?_)
    ·
     have hbd := hbnd i j (by omega) (by omega)
     refine cw_skip ?_
     refine xw_then ?_
     refine cw_seq ?_
     refine cw_block ?_
     refine cw_region ?_
     refine lstepB rfl rfl rfl (run_move (.tmp rfl)) ?_
     refine lstepB rfl rfl rfl (run_move (.tmp rfl)) ?_
     refine lstepB rfl rfl rfl (run_move (.tmp rfl)) ?_
     refine lstepB rfl rfl rfl (run_build_at (.cons (.tmp rfl) (.cons (.tmp rfl) .nil)) (fun w => bd92_0_1 w)) ?_
     refine lstep rfl rfl rfl (LR.runs (lr_buildSlice_at (.cons (.tmp rfl) .nil) (fun w => bs89_1_0 w)) (by repeat (first | exact Pick.nil | (apply Pick.cons; focus (repeat (first | exact Del.here | apply Del.there))))) (by repeat (first | exact Dels.nil | (apply Dels.cons; focus (repeat (first | exact Del.here | apply Del.there)))))) ?_
     intro b18 _
     refine lstep rfl rfl rfl (LR.runs (R := [(b18, _)]) (A := [(gY, _)]) (lr_append_row ap89 (.tmp rfl) hY (.tmp rfl) (news := sC (mixS i j)) rfl rfl (by omega) (by unfold maxLen; omega) (news_own (by repeat (first | exact List.Mem.head _ | apply List.Mem.tail)))) (by repeat (first | exact Pick.nil | (apply Pick.cons; focus (repeat (first | exact Del.here | apply Del.there))))) (by repeat (first | exact Dels.nil | (apply Dels.cons; focus (repeat (first | exact Del.here | apply Del.there)))))) ?_
     intro ⟨gT, cgT, rgT⟩ hgT
     have hle : ((mixRows i ++ mixRow i (j + 1))).length = (mixRows i ++ mixRow i j).length + 1 := by rw [mixRow_succ, ← List.append_assoc, List.length_append]; rfl
     have hT : InRow 2 ((mixRows i ++ mixRow i (j + 1))).length cgT rgT (ssC (mixRows i ++ mixRow i (j + 1))) := by rw [hle, mixRow_succ, ← List.append_assoc, ssC_append]; exact hgT
     dsimp only
     rw [(show Value.slice (some ⟨gT, 0, none⟩) ((mixRows i ++ mixRow i j).length + 1) cgT = Value.slice (some ⟨gT, 0, none⟩) ((mixRows i ++ mixRow i (j + 1))).length cgT from congrArg (fun n => Value.slice (some ⟨gT, 0, none⟩) n cgT) hle.symm)]
     refine lstepB rfl rfl rfl (run_assign (.tmp rfl)) ?_
     refine lnil ?_
     refine xw_in ?_
     refine xw_then ?_
     refine cw_region ?_
     refine lstepB rfl rfl rfl (run_move (.tmp rfl)) ?_
     refine lstepB rfl rfl rfl (run_add (.tmp rfl) .const (by first | exact IntWalk.i64_in _ (by omega) | exact rfl)) ?_
     refine lstepB rfl rfl rfl (run_assign (.tmp rfl)) ?_
     refine lnil ?_
     exact xw_round (j + 1, some (gT, cgT, rgT)) ⟨by simp only; omega, by rw [hle]; omega, hT⟩ (by show 21 - (j + 1) < 21 - j; omega) (by repeat (first | exact Less.nil | refine Less.cons rfl ?_)) (by repeat (first | exact Pick.nil | (apply Pick.cons; focus (repeat (first | exact Del.here | apply Del.there)))))
    ·
     obtain rfl : j = 21 - i := by omega
     rw [← mixRows_succ] at hn2 hY ⊢
     refine cw_exit ?_
     refine xw_then_exit ?_
     refine xw_then_exit ?_
     refine xw_in_exit ?_
     refine xw_in ?_
     refine xw_then ?_
     refine cw_region ?_
     refine lstepB rfl rfl rfl (run_move (.tmp rfl)) ?_
     refine lstepB rfl rfl rfl (run_add (.tmp rfl) .const (by first | exact IntWalk.i64_in _ (by omega) | exact rfl)) ?_
     refine lstepB rfl rfl rfl (run_assign (.tmp rfl)) ?_
     refine lnil ?_
     exact xw_round (i + 1, some (gY, cY, rY)) ⟨by simp only; omega, hn2, hY⟩ (by show 21 - (i + 1) < 21 - i; omega) (by repeat (first | exact Less.nil | refine Less.cons rfl ?_)) (by repeat (first | exact Pick.nil | (apply Pick.cons; focus (repeat (first | exact Del.here | apply Del.there)))))
  ·
   obtain rfl : i = 21 := by omega
   refine cw_exit ?_
   refine xw_then_exit ?_
   refine xw_then_exit ?_
   refine xw_in_exit ?_
   refine xw_then ?_
   refine cw_seq ?_
   refine cw_region ?_
   refine lstepB rfl rfl rfl (run_move (.tmp rfl)) ?_
   refine lstepB rfl rfl rfl (run_assign (.tmp rfl)) ?_
   refine lnil ?_
   refine xw_then ?_
   refine cw_ret ?_
   refine xw_ret1 Try.results101 rfl (fun w hS => ⟨(gX, cX, rX), hX, rfl, hS.pick (by repeat (first | exact Pick.nil | (apply Pick.cons; focus (repeat (first | exact Del.here | apply Del.there)))))⟩)
end Go.Proofs.Ytfmbnobkenngaaa
