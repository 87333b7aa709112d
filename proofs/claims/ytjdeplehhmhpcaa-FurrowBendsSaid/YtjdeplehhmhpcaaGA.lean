/- Furrow: alive, and the names. -/
import Derived.Test.YtjdeplehhmhpcaaFZ
namespace Go.Proofs.Ytjdeplehhmhpcaa
open Go.RowKit En

theorem same28 {s : SpanD} (w : World) : (binOp .eql 28 (.agg [.int .i64 s.lo, .int .i64 s.hi].toArray) (.agg [.int .i64 s.lo, .int .i64 s.hi].toArray)).run Try.prog w = .ok (.bool true) w := eql28 (by simp) w
theorem intsAt_cells {w : World} {b : Nat} {te : TypeId} {fr : Nat × Nat} {l : List Int} (h : w.heap[b]? = some (.cells (intsV l).toArray te fr)) : IntsAt w (some ⟨b, 0, none⟩) l := rowsAt_cells h fun i r hi j v hj => by
  rw [List.getElem?_map] at hi
  obtain ⟨m, hm, rfl⟩ := Option.map_eq_some_iff.1 hi
  match j, hj with
  | 0, hj => cases hj; simp [intsV, hm]
set_option maxRecDepth 100000 in
set_option maxHeartbeats 4000000 in
theorem aliveK (w : World) : Gives Try.prog 13 [] w (.bool true) := by
  refine .mk <| enter (n := 120) Try.func13 rfl rfl rfl (by repeat (first | exact Fill.nil | apply Fill.cons)) ?_
  refine cw_seq ?_
  refine cw_region ?_
  refine lstepB rfl rfl rfl (run_assign .const) ?_
  refine lnil ?_
  refine xw_then ?_
  refine cw_seq ?_
  refine cw_region ?_
  refine lstep rfl rfl rfl (LR.runs (R := []) (A := []) (lr_gives cb29 .nil (fun w2 hS => sampleK w2)) (by repeat (first | exact Pick.nil | (apply Pick.cons; focus (repeat (first | exact Del.here | apply Del.there))))) (by repeat (first | exact Dels.nil | (apply Dels.cons; focus (repeat (first | exact Del.here | apply Del.there)))))) ?_
  intro ⟨gA1, gC1, gB1, cB1, rB1⟩ hB1
  dsimp only at hB1 ⊢
  refine lstepB rfl rfl rfl (run_call1 cb14 (.cons (.tmp rfl) .nil) (fun w2 hS => (bendQ sampleF (some ⟨gA1, 0, none⟩) (some ⟨gB1, 0, none⟩) (some ⟨gC1, 0, none⟩) 5 cB1 5  w2 s_lens (sampleAt (s := (gA1, gC1, gB1, cB1, rB1)) hB1 (hS.mem (b := gA1) (by repeat (first | exact List.Mem.head _ | apply List.Mem.tail))) (hS.mem (b := gB1) (by repeat (first | exact List.Mem.head _ | apply List.Mem.tail))) (hS.mem (b := gC1) (by repeat (first | exact List.Mem.head _ | apply List.Mem.tail))))).as (by rw [s_bend]))) ?_
  refine lstepB rfl rfl rfl (run_move (.tmp rfl)) ?_
  refine lstepB rfl rfl rfl (run_extract (.tmp rfl) rfl) ?_
  refine lstepB rfl rfl rfl (run_extract (.tmp rfl) rfl) ?_
  refine lstep rfl rfl rfl (run_alloc zr28) ?_
  intro b1 _
  refine lstep0 rfl rfl (run_storeN (.tmp rfl) (.tmp rfl) rfl sz28 rfl (by repeat (first | exact Upd.here | apply Upd.there)) (by repeat (first | exact Put.done | apply Put.put | apply Put.skip))) ?_
  refine lstepB rfl rfl rfl (run_assign (.tmp rfl)) ?_
  refine lnil ?_
  refine xw_then ?_
  refine cw_seq ?_
  refine cw_region ?_
  refine lstep rfl rfl rfl (LR.runs (R := []) (A := []) (lr_gives cb29 .nil (fun w2 hS => sampleK w2)) (by repeat (first | exact Pick.nil | (apply Pick.cons; focus (repeat (first | exact Del.here | apply Del.there))))) (by repeat (first | exact Dels.nil | (apply Dels.cons; focus (repeat (first | exact Del.here | apply Del.there)))))) ?_
  intro ⟨gA2, gC2, gB2, cB2, rB2⟩ hB2
  dsimp only at hB2 ⊢
  refine lstepB rfl rfl rfl (run_call1 cb16 (.cons (.tmp rfl) (.cons .const .nil)) (fun w2 hS => (atQ sampleF (some ⟨gA2, 0, none⟩) (some ⟨gB2, 0, none⟩) (some ⟨gC2, 0, none⟩) 5 cB2 5 2 w2 s_lens (sampleAt (s := (gA2, gC2, gB2, cB2, rB2)) hB2 (hS.mem (b := gA2) (by repeat (first | exact List.Mem.head _ | apply List.Mem.tail))) (hS.mem (b := gB2) (by repeat (first | exact List.Mem.head _ | apply List.Mem.tail))) (hS.mem (b := gC2) (by repeat (first | exact List.Mem.head _ | apply List.Mem.tail))))).as (by rw [s_at2]))) ?_
  refine lstepB rfl rfl rfl (run_move (.tmp rfl)) ?_
  refine lstepB rfl rfl rfl (run_extract (.tmp rfl) rfl) ?_
  refine lstepB rfl rfl rfl (run_extract (.tmp rfl) rfl) ?_
  refine lstep rfl rfl rfl (run_alloc zr28) ?_
  intro b3 _
  refine lstep0 rfl rfl (run_storeN (.tmp rfl) (.tmp rfl) rfl sz28 rfl (by repeat (first | exact Upd.here | apply Upd.there)) (by repeat (first | exact Put.done | apply Put.put | apply Put.skip))) ?_
  refine lstepB rfl rfl rfl (run_assign (.tmp rfl)) ?_
  refine lnil ?_
  refine xw_then ?_
  refine cw_seq ?_
  refine cw_region ?_
  refine lstep rfl rfl rfl (LR.runs (R := []) (A := []) (lr_gives cb29 .nil (fun w2 hS => sampleK w2)) (by repeat (first | exact Pick.nil | (apply Pick.cons; focus (repeat (first | exact Del.here | apply Del.there))))) (by repeat (first | exact Dels.nil | (apply Dels.cons; focus (repeat (first | exact Del.here | apply Del.there)))))) ?_
  intro ⟨gA3, gC3, gB3, cB3, rB3⟩ hB3
  dsimp only at hB3 ⊢
  refine lstep rfl rfl rfl (LR.runs (R := [(gA3, Obj.cells (spansC sampleF.offs).toArray 28 (0, 0)), (gB3, Obj.cells rB3.toArray 28 (0, 0)), (gC3, Obj.cells (spansC sampleF.deps).toArray 28 (0, 0))]) (A := []) (lr_gives cb18 (.cons (.tmp rfl) .nil) (fun w2 hS => straightQ_ok sampleF (some ⟨gA3, 0, none⟩) (some ⟨gB3, 0, none⟩) (some ⟨gC3, 0, none⟩) 5 cB3 5 w2 s_lens (sampleAt (s := (gA3, gC3, gB3, cB3, rB3)) hB3 (hS.mem (b := gA3) (by repeat (first | exact List.Mem.head _ | apply List.Mem.tail))) (hS.mem (b := gB3) (by repeat (first | exact List.Mem.head _ | apply List.Mem.tail))) (hS.mem (b := gC3) (by repeat (first | exact List.Mem.head _ | apply List.Mem.tail)))) s_valid)) (by repeat (first | exact Pick.nil | (apply Pick.cons; focus (repeat (first | exact Del.here | apply Del.there))))) (by repeat (first | exact Dels.nil | (apply Dels.cons; focus (repeat (first | exact Del.here | apply Del.there)))))) ?_
  intro ⟨gO, o2⟩ hO
  dsimp only at hO ⊢
  obtain rfl := hO.2 _ s_straight
  refine lstepB rfl rfl rfl (run_move (.tmp rfl)) ?_
  refine lstepB rfl rfl rfl (run_extract (.tmp rfl) rfl) ?_
  refine lstepB rfl rfl rfl (run_extract (.tmp rfl) rfl) ?_
  refine lstepB rfl rfl rfl (run_assign (.tmp rfl)) ?_
  refine lstepB rfl rfl rfl (run_assign (.tmp rfl)) ?_
  refine lnil ?_
  refine xw_then ?_
  refine cw_seq ?_
  refine cw_region ?_
  refine lstep rfl rfl rfl (LR.runs (R := []) (A := []) (lr_gives cb29 .nil (fun w2 hS => sampleK w2)) (by repeat (first | exact Pick.nil | (apply Pick.cons; focus (repeat (first | exact Del.here | apply Del.there))))) (by repeat (first | exact Dels.nil | (apply Dels.cons; focus (repeat (first | exact Del.here | apply Del.there)))))) ?_
  intro ⟨gA4, gC4, gB4, cB4, rB4⟩ hB4
  dsimp only at hB4 ⊢
  refine lstepB rfl rfl rfl (run_call1 cb20 (.cons (.tmp rfl) .nil) (fun w2 hS => (worstQ sampleF (some ⟨gA4, 0, none⟩) (some ⟨gB4, 0, none⟩) (some ⟨gC4, 0, none⟩) 5 cB4 5  w2 s_lens (sampleAt (s := (gA4, gC4, gB4, cB4, rB4)) hB4 (hS.mem (b := gA4) (by repeat (first | exact List.Mem.head _ | apply List.Mem.tail))) (hS.mem (b := gB4) (by repeat (first | exact List.Mem.head _ | apply List.Mem.tail))) (hS.mem (b := gC4) (by repeat (first | exact List.Mem.head _ | apply List.Mem.tail))))).as (by rw [s_worst]))) ?_
  refine lstepB rfl rfl rfl (run_move (.tmp rfl)) ?_
  refine lstepB rfl rfl rfl (run_extract (.tmp rfl) rfl) ?_
  refine lstepB rfl rfl rfl (run_extract (.tmp rfl) rfl) ?_
  refine lstepB rfl rfl rfl (run_extract (.tmp rfl) rfl) ?_
  refine lstepB rfl rfl rfl (run_assign (.tmp rfl)) ?_
  refine lstepB rfl rfl rfl (run_assign (.tmp rfl)) ?_
  refine lstepB rfl rfl rfl (run_assign (.tmp rfl)) ?_
  refine lnil ?_
  refine xw_then ?_
  refine cw_seq ?_
  refine cw_region ?_
  refine lstep rfl rfl rfl (LR.runs (R := []) (A := []) (lr_gives cb29 .nil (fun w2 hS => sampleK w2)) (by repeat (first | exact Pick.nil | (apply Pick.cons; focus (repeat (first | exact Del.here | apply Del.there))))) (by repeat (first | exact Dels.nil | (apply Dels.cons; focus (repeat (first | exact Del.here | apply Del.there)))))) ?_
  intro ⟨gA5, gC5, gB5, cB5, rB5⟩ hB5
  dsimp only at hB5 ⊢
  refine lstepB rfl rfl rfl (run_call1 cb23 (.cons (.tmp rfl) (.cons .const .nil)) (fun w2 hS => (wrongQ sampleF (some ⟨gA5, 0, none⟩) (some ⟨gB5, 0, none⟩) (some ⟨gC5, 0, none⟩) 5 cB5 5 2 w2 s_lens (sampleAt (s := (gA5, gC5, gB5, cB5, rB5)) hB5 (hS.mem (b := gA5) (by repeat (first | exact List.Mem.head _ | apply List.Mem.tail))) (hS.mem (b := gB5) (by repeat (first | exact List.Mem.head _ | apply List.Mem.tail))) (hS.mem (b := gC5) (by repeat (first | exact List.Mem.head _ | apply List.Mem.tail))))).as (by rw [s_wrong2]))) ?_
  refine lstepB rfl rfl rfl (run_move (.tmp rfl)) ?_
  refine lstepB rfl rfl rfl (run_extract (.tmp rfl) rfl) ?_
  refine lstepB rfl rfl rfl (run_extract (.tmp rfl) rfl) ?_
  refine lstepB rfl rfl rfl (run_assign (.tmp rfl)) ?_
  refine lstepB rfl rfl rfl (run_assign (.tmp rfl)) ?_
  refine lnil ?_
  refine xw_then ?_
  refine cw_seq ?_
  refine cw_region ?_
  refine lstep rfl rfl rfl (LR.runs (R := []) (A := []) (lr_gives cb29 .nil (fun w2 hS => sampleK w2)) (by repeat (first | exact Pick.nil | (apply Pick.cons; focus (repeat (first | exact Del.here | apply Del.there))))) (by repeat (first | exact Dels.nil | (apply Dels.cons; focus (repeat (first | exact Del.here | apply Del.there)))))) ?_
  intro ⟨gA6, gC6, gB6, cB6, rB6⟩ hB6
  dsimp only at hB6 ⊢
  refine lstepB rfl rfl rfl (run_call1 cb25 (.cons (.tmp rfl) (.cons .const .nil)) (fun w2 hS => (shallowQ sampleF (some ⟨gA6, 0, none⟩) (some ⟨gB6, 0, none⟩) (some ⟨gC6, 0, none⟩) 5 cB6 5 15 w2 s_lens (sampleAt (s := (gA6, gC6, gB6, cB6, rB6)) hB6 (hS.mem (b := gA6) (by repeat (first | exact List.Mem.head _ | apply List.Mem.tail))) (hS.mem (b := gB6) (by repeat (first | exact List.Mem.head _ | apply List.Mem.tail))) (hS.mem (b := gC6) (by repeat (first | exact List.Mem.head _ | apply List.Mem.tail))))).as (by rw [s_shallow]))) ?_
  refine lstepB rfl rfl rfl (run_move (.tmp rfl)) ?_
  refine lstepB rfl rfl rfl (run_extract (.tmp rfl) rfl) ?_
  refine lstepB rfl rfl rfl (run_extract (.tmp rfl) rfl) ?_
  refine lstepB rfl rfl rfl (run_extract (.tmp rfl) rfl) ?_
  refine lstepB rfl rfl rfl (run_assign (.tmp rfl)) ?_
  refine lstepB rfl rfl rfl (run_assign (.tmp rfl)) ?_
  refine lstepB rfl rfl rfl (run_assign (.tmp rfl)) ?_
  refine lnil ?_
  refine xw_then ?_
  refine cw_seq ?_
  refine cw_region ?_
  refine lstep rfl rfl rfl (LR.runs (R := []) (A := []) (lr_gives cb29 .nil (fun w2 hS => sampleK w2)) (by repeat (first | exact Pick.nil | (apply Pick.cons; focus (repeat (first | exact Del.here | apply Del.there))))) (by repeat (first | exact Dels.nil | (apply Dels.cons; focus (repeat (first | exact Del.here | apply Del.there)))))) ?_
  intro ⟨gA7, gC7, gB7, cB7, rB7⟩ hB7
  dsimp only at hB7 ⊢
  refine lstepB rfl rfl rfl (run_call1 cb27 (.cons (.tmp rfl) .nil) (fun w2 hS => (soilQ sampleF (some ⟨gA7, 0, none⟩) (some ⟨gB7, 0, none⟩) (some ⟨gC7, 0, none⟩) 5 cB7 5  w2 s_lens (sampleAt (s := (gA7, gC7, gB7, cB7, rB7)) hB7 (hS.mem (b := gA7) (by repeat (first | exact List.Mem.head _ | apply List.Mem.tail))) (hS.mem (b := gB7) (by repeat (first | exact List.Mem.head _ | apply List.Mem.tail))) (hS.mem (b := gC7) (by repeat (first | exact List.Mem.head _ | apply List.Mem.tail))))).as (by rw [s_soil]))) ?_
  refine lstepB rfl rfl rfl (run_move (.tmp rfl)) ?_
  refine lstepB rfl rfl rfl (run_extract (.tmp rfl) rfl) ?_
  refine lstepB rfl rfl rfl (run_extract (.tmp rfl) rfl) ?_
  refine lstep rfl rfl rfl (run_alloc zr28) ?_
  intro b15 _
  refine lstep0 rfl rfl (run_storeN (.tmp rfl) (.tmp rfl) rfl sz28 rfl (by repeat (first | exact Upd.here | apply Upd.there)) (by repeat (first | exact Put.done | apply Put.put | apply Put.skip))) ?_
  refine lstepB rfl rfl rfl (run_assign (.tmp rfl)) ?_
  refine lnil ?_
  refine xw_then ?_
  refine cw_seq ?_
  refine cw_chain2 (σ := [0, 1, 2, 3, 4, 5, 6, 7, 8, 9, 10, 11, 12, 13, 14, 15, 16, 17, 18, 19, 20, 21, 22, 23, 24, 25, 26, 27, 28, 29, 30, 31, 32, 33, 34, 35, 36, 37, 38, 39, 40, 41, 42, 43, 44, 45, 46, 47, 48, 49, 50, 51, 52, 53, 54, 55, 56, 57, 58, 59, 60, 61, 62, 63, 64, 65, 66]) [⟨0, [21], [], [], 0⟩, ⟨0, [], [], [], 0⟩, ⟨0, [], [], [], 3⟩, ⟨0, [], [], [], 7⟩, ⟨0, [], [], [], 15⟩, ⟨0, [], [], [], 31⟩, ⟨0, [], [], [], 63⟩, ⟨0, [], [], [], 127⟩, ⟨0, [17], [], [], 255⟩, ⟨0, [], [], [], 255⟩, ⟨0, [], [], [], 1023⟩, ⟨0, [], [], [], 2047⟩, ⟨0, [], [], [], 4095⟩, ⟨0, [], [], [], 8191⟩, ⟨0, [], [], [], 16383⟩, ⟨0, [], [], [], 32767⟩, ⟨0, [], [], [], 65535⟩, ⟨0, [], [], [], 131071⟩, ⟨1, [], [], [25], 131071⟩, ⟨0, [13, 25], [], [], 524287⟩, ⟨0, [], [], [], 1048575⟩, ⟨0, [], [], [], 2097151⟩, ⟨0, [], [], [], 4194303⟩, ⟨0, [], [], [], 8388607⟩, ⟨0, [], [], [], 16777215⟩, ⟨0, [], [], [], 33554431⟩, ⟨0, [], [], [], 67108863⟩, ⟨0, [], [], [], 134217727⟩, ⟨0, [], [], [], 268435455⟩, ⟨0, [], [], [], 536870911⟩, ⟨0, [], [], [], 1073741823⟩, ⟨0, [], [], [], 2147483647⟩, ⟨0, [], [], [], 4294967295⟩, ⟨0, [], [], [], 8589934591⟩, ⟨0, [], [], [], 17179869183⟩, ⟨0, [], [], [], 34359738367⟩, ⟨0, [], [], [], 68719476735⟩, ⟨0, [], [], [], 137438953471⟩, ⟨0, [], [], [], 274877906943⟩, ⟨0, [], [], [], 549755813887⟩, ⟨0, [], [], [], 1099511627775⟩, ⟨0, [], [], [], 2199023255551⟩, ⟨0, [], [], [], 4398046511103⟩, ⟨0, [], [], [], 8796093022207⟩, ⟨0, [], [], [], 17592186044415⟩, ⟨0, [], [], [], 35184372088831⟩, ⟨0, [], [], [], 70368744177663⟩, ⟨0, [], [], [], 140737488355327⟩, ⟨0, [], [], [], 281474976710655⟩, ⟨0, [], [], [], 562949953421311⟩, ⟨0, [], [], [], 1125899906842623⟩, ⟨0, [], [], [], 2251799813685247⟩, ⟨0, [], [], [], 4503599627370495⟩, ⟨0, [], [], [], 9007199254740991⟩, ⟨0, [], [], [], 18014398509481983⟩, ⟨0, [], [], [], 36028797018963967⟩, ⟨0, [], [], [], 72057594037927935⟩, ⟨0, [], [], [], 144115188075855871⟩, ⟨0, [0], [], [], 288230376151711743⟩, ⟨0, [], [], [], 288230376151711743⟩, ⟨0, [], [], [], 1152921504606846975⟩, ⟨0, [], [], [], 2305843009213693951⟩, ⟨0, [], [], [], 4611686018427387903⟩, ⟨0, [], [], [], 9223372036854775807⟩, ⟨0, [], [], [], 18446744073709551615⟩, ⟨0, [], [], [], 36893488147419103231⟩, ⟨0, [], [], [], 73786976294838206463⟩] [(0, _), (1, _), (2, _), (3, _), (4, _), (5, _), (6, _), (7, _), (8, _), (9, _), (10, _), (11, _), (12, _), (13, _), (14, _), (15, _), (16, _), (17, _), (18, _), (19, _), (20, _), (21, _), (22, _), (23, _), (24, _)] (by kernel_rfl) (by kernel_rfl) rfl ?_
  refine .det (B := []) rfl rfl (.inl rfl) (.cons rfl .nil) .nil rfl (RunB.lr (run_loadN (.tmp rfl) kd28 sz28 (by repeat (first | exact List.Mem.head _ | apply List.Mem.tail)) (by repeat (first | exact Sub.done | apply Sub.take | apply Sub.skip)))) ?_
  refine .det (B := []) rfl rfl (.inl rfl) .nil .nil rfl (RunB.lr (run_call1 cb30 (.cons .const (.cons .const .nil)) (fun w _ => spanLK _ _ w))) ?_
  refine .det (B := []) rfl rfl (.inl rfl) .nil .nil rfl (RunB.lr (run_eql_agg (.tmp rfl) (.tmp rfl) eg28 (eql28 (by first | exact (show _ = true from by simp only [Bool.and_eq_true, decide_eq_true_eq]; omega) | exact (show _ = false from by simp only [Bool.and_eq_false_iff, decide_eq_false_iff_not]; omega) | exact rfl)))) ?_
  refine .det (B := []) rfl rfl (.inl rfl) .nil .nil rfl (RunB.lr (run_move (.tmp rfl))) ?_
  refine .det (B := []) rfl rfl (.inr ⟨_, _, _, rfl, rfl, rfl⟩) .nil .nil rfl (RunB.lr (run_move (.tmp rfl))) ?_
  refine .det (B := []) rfl rfl (.inr ⟨_, _, _, rfl, rfl, rfl⟩) .nil .nil rfl (RunB.lr (run_eql (.tmp rfl) .const (by first | exact decide_eq_true (by omega) | exact decide_eq_false (by omega) | exact rfl))) ?_
  refine .det (B := []) rfl rfl (.inl rfl) .nil .nil rfl (RunB.lr (by first | exact run_pick_true (.tmp rfl) (.tmp rfl) | exact run_pick_false (.tmp rfl) .const)) ?_
  refine .det (B := []) rfl rfl (.inl rfl) .nil .nil rfl (RunB.lr (run_move (.tmp rfl))) ?_
  refine .det (B := []) rfl rfl (.inr ⟨_, _, _, rfl, rfl, rfl⟩) (.cons rfl .nil) .nil rfl (RunB.lr (run_loadN (.tmp rfl) kd28 sz28 (by repeat (first | exact List.Mem.head _ | apply List.Mem.tail)) (by repeat (first | exact Sub.done | apply Sub.take | apply Sub.skip)))) ?_
  refine .det (B := []) rfl rfl (.inr ⟨_, _, _, rfl, rfl, rfl⟩) .nil .nil rfl (RunB.lr (run_call1 cb30 (.cons .const (.cons .const .nil)) (fun w _ => spanLK _ _ w))) ?_
  refine .det (B := []) rfl rfl (.inr ⟨_, _, _, rfl, rfl, rfl⟩) .nil .nil rfl (RunB.lr (run_eql_agg (.tmp rfl) (.tmp rfl) eg28 (eql28 (by first | exact (show _ = true from by simp only [Bool.and_eq_true, decide_eq_true_eq]; omega) | exact (show _ = false from by simp only [Bool.and_eq_false_iff, decide_eq_false_iff_not]; omega) | exact rfl)))) ?_
  refine .det (B := []) rfl rfl (.inl rfl) .nil .nil rfl (RunB.lr (by first | exact run_pick_true (.tmp rfl) (.tmp rfl) | exact run_pick_false (.tmp rfl) .const)) ?_
  refine .det (B := []) rfl rfl (.inl rfl) .nil .nil rfl (RunB.lr (run_move (.tmp rfl))) ?_
  refine .det (B := []) rfl rfl (.inr ⟨_, _, _, rfl, rfl, rfl⟩) .nil .nil rfl (RunB.lr (run_move (.tmp rfl))) ?_
  refine .det (B := []) rfl rfl (.inr ⟨_, _, _, rfl, rfl, rfl⟩) .nil .nil rfl (RunB.lr (run_eql (.tmp rfl) .const (by first | exact decide_eq_true (by omega) | exact decide_eq_false (by omega) | exact rfl))) ?_
  refine .det (B := []) rfl rfl (.inl rfl) .nil .nil rfl (RunB.lr (by first | exact run_pick_true (.tmp rfl) (.tmp rfl) | exact run_pick_false (.tmp rfl) .const)) ?_
  refine .det (B := []) rfl rfl (.inl rfl) .nil .nil rfl (RunB.lr (run_move (.tmp rfl))) ?_
  refine .det (B := []) rfl rfl (.inr ⟨_, _, _, rfl, rfl, rfl⟩) .nil .nil rfl (RunB.lr (run_move (.tmp rfl))) ?_
  refine .ext (B := fun b => [(25, (b, _))]) rfl rfl (.inr ⟨_, _, _, rfl, rfl, rfl⟩) .nil .nil (fun _ => rfl) ⟨0, trivial⟩ (lr_buildSlice_at (.cons .const (.cons .const (.cons .const (.cons .const (.cons .const .nil))))) (fun w => bs33_5_0_1_2_3_4 w)) ?_
  intro b72 _
  refine .det (B := []) rfl rfl (.inr ⟨_, _, _, rfl, rfl, rfl⟩) (.cons rfl (.cons rfl .nil)) .nil rfl (RunB.lr (run_call1 cb22 (.cons (.tmp rfl) (.cons (.tmp rfl) .nil)) (fun w2 hS => (intsK [1, 2, 0, 1, 5] [1, 2, 0, 1, 5] _ _ 5 5 w2 (by decide) (by decide) (intsAt_cells (hS.mem (b := gO) (by repeat (first | exact List.Mem.head _ | apply List.Mem.tail)))) (intsAt_cells (hS.mem (b := b72) (by repeat (first | exact List.Mem.head _ | apply List.Mem.tail))))).as (by rw [decide_eq_true rfl])))) ?_
  refine .det (B := []) rfl rfl (.inl rfl) .nil .nil rfl (RunB.lr (by first | exact run_pick_true (.tmp rfl) (.tmp rfl) | exact run_pick_false (.tmp rfl) .const)) ?_
  refine .det (B := []) rfl rfl (.inl rfl) .nil .nil rfl (RunB.lr (run_move (.tmp rfl))) ?_
  refine .det (B := []) rfl rfl (.inr ⟨_, _, _, rfl, rfl, rfl⟩) .nil .nil rfl (RunB.lr (run_move (.tmp rfl))) ?_
  refine .det (B := []) rfl rfl (.inr ⟨_, _, _, rfl, rfl, rfl⟩) .nil .nil rfl (RunB.lr (run_eql (.tmp rfl) .const (by first | exact decide_eq_true (by omega) | exact decide_eq_false (by omega) | exact rfl))) ?_
  refine .det (B := []) rfl rfl (.inl rfl) .nil .nil rfl (RunB.lr (by first | exact run_pick_true (.tmp rfl) (.tmp rfl) | exact run_pick_false (.tmp rfl) .const)) ?_
  refine .det (B := []) rfl rfl (.inl rfl) .nil .nil rfl (RunB.lr (run_move (.tmp rfl))) ?_
  refine .det (B := []) rfl rfl (.inr ⟨_, _, _, rfl, rfl, rfl⟩) .nil .nil rfl (RunB.lr (run_move (.tmp rfl))) ?_
  refine .det (B := []) rfl rfl (.inr ⟨_, _, _, rfl, rfl, rfl⟩) .nil .nil rfl (RunB.lr (run_eql (.tmp rfl) .const (by first | exact decide_eq_true (by omega) | exact decide_eq_false (by omega) | exact rfl))) ?_
  refine .det (B := []) rfl rfl (.inl rfl) .nil .nil rfl (RunB.lr (by first | exact run_pick_true (.tmp rfl) (.tmp rfl) | exact run_pick_false (.tmp rfl) .const)) ?_
  refine .det (B := []) rfl rfl (.inl rfl) .nil .nil rfl (RunB.lr (run_move (.tmp rfl))) ?_
  refine .det (B := []) rfl rfl (.inr ⟨_, _, _, rfl, rfl, rfl⟩) .nil .nil rfl (RunB.lr (run_move (.tmp rfl))) ?_
  refine .det (B := []) rfl rfl (.inr ⟨_, _, _, rfl, rfl, rfl⟩) .nil .nil rfl (RunB.lr (run_eql (.tmp rfl) .const (by first | exact decide_eq_true (by omega) | exact decide_eq_false (by omega) | exact rfl))) ?_
  refine .det (B := []) rfl rfl (.inl rfl) .nil .nil rfl (RunB.lr (by first | exact run_pick_true (.tmp rfl) (.tmp rfl) | exact run_pick_false (.tmp rfl) .const)) ?_
  refine .det (B := []) rfl rfl (.inl rfl) .nil .nil rfl (RunB.lr (run_move (.tmp rfl))) ?_
  refine .det (B := []) rfl rfl (.inr ⟨_, _, _, rfl, rfl, rfl⟩) .nil .nil rfl (RunB.lr (run_move (.tmp rfl))) ?_
  refine .det (B := []) rfl rfl (.inr ⟨_, _, _, rfl, rfl, rfl⟩) .nil .nil rfl (RunB.lr (run_eql (.tmp rfl) .const (by first | exact decide_eq_true (by omega) | exact decide_eq_false (by omega) | exact rfl))) ?_
  refine .det (B := []) rfl rfl (.inl rfl) .nil .nil rfl (RunB.lr (by first | exact run_pick_true (.tmp rfl) (.tmp rfl) | exact run_pick_false (.tmp rfl) .const)) ?_
  refine .det (B := []) rfl rfl (.inl rfl) .nil .nil rfl (RunB.lr (run_move (.tmp rfl))) ?_
  refine .det (B := []) rfl rfl (.inr ⟨_, _, _, rfl, rfl, rfl⟩) .nil .nil rfl (RunB.lr (run_move (.tmp rfl))) ?_
  refine .det (B := []) rfl rfl (.inr ⟨_, _, _, rfl, rfl, rfl⟩) .nil .nil rfl (RunB.lr (run_eql (.tmp rfl) .const (by first | exact decide_eq_true (by omega) | exact decide_eq_false (by omega) | exact rfl))) ?_
  refine .det (B := []) rfl rfl (.inl rfl) .nil .nil rfl (RunB.lr (by first | exact run_pick_true (.tmp rfl) (.tmp rfl) | exact run_pick_false (.tmp rfl) .const)) ?_
  refine .det (B := []) rfl rfl (.inl rfl) .nil .nil rfl (RunB.lr (run_move (.tmp rfl))) ?_
  refine .det (B := []) rfl rfl (.inr ⟨_, _, _, rfl, rfl, rfl⟩) .nil .nil rfl (RunB.lr (run_move (.tmp rfl))) ?_
  refine .det (B := []) rfl rfl (.inr ⟨_, _, _, rfl, rfl, rfl⟩) .nil .nil rfl (RunB.lr (run_eql (.tmp rfl) .const (by first | exact decide_eq_true (by omega) | exact decide_eq_false (by omega) | exact rfl))) ?_
  refine .det (B := []) rfl rfl (.inl rfl) .nil .nil rfl (RunB.lr (by first | exact run_pick_true (.tmp rfl) (.tmp rfl) | exact run_pick_false (.tmp rfl) .const)) ?_
  refine .det (B := []) rfl rfl (.inl rfl) .nil .nil rfl (RunB.lr (run_move (.tmp rfl))) ?_
  refine .det (B := []) rfl rfl (.inr ⟨_, _, _, rfl, rfl, rfl⟩) .nil .nil rfl (RunB.lr (run_move (.tmp rfl))) ?_
  refine .det (B := []) rfl rfl (.inr ⟨_, _, _, rfl, rfl, rfl⟩) .nil .nil rfl (RunB.lr (run_eql (.tmp rfl) .const (by first | exact decide_eq_true (by omega) | exact decide_eq_false (by omega) | exact rfl))) ?_
  refine .det (B := []) rfl rfl (.inl rfl) .nil .nil rfl (RunB.lr (by first | exact run_pick_true (.tmp rfl) (.tmp rfl) | exact run_pick_false (.tmp rfl) .const)) ?_
  refine .det (B := []) rfl rfl (.inl rfl) .nil .nil rfl (RunB.lr (run_move (.tmp rfl))) ?_
  refine .det (B := []) rfl rfl (.inr ⟨_, _, _, rfl, rfl, rfl⟩) .nil .nil rfl (RunB.lr (run_move (.tmp rfl))) ?_
  refine .det (B := []) rfl rfl (.inr ⟨_, _, _, rfl, rfl, rfl⟩) .nil .nil rfl (RunB.lr (run_eql (.tmp rfl) .const (by first | exact decide_eq_true (by omega) | exact decide_eq_false (by omega) | exact rfl))) ?_
  refine .det (B := []) rfl rfl (.inl rfl) .nil .nil rfl (RunB.lr (by first | exact run_pick_true (.tmp rfl) (.tmp rfl) | exact run_pick_false (.tmp rfl) .const)) ?_
  refine .det (B := []) rfl rfl (.inl rfl) .nil .nil rfl (RunB.lr (run_move (.tmp rfl))) ?_
  refine .det (B := []) rfl rfl (.inr ⟨_, _, _, rfl, rfl, rfl⟩) .nil .nil rfl (RunB.lr (run_move (.tmp rfl))) ?_
  refine .det (B := []) rfl rfl (.inr ⟨_, _, _, rfl, rfl, rfl⟩) .nil .nil rfl (RunB.lr (run_eql (.tmp rfl) .const (by first | exact decide_eq_true (by omega) | exact decide_eq_false (by omega) | exact rfl))) ?_
  refine .det (B := []) rfl rfl (.inl rfl) .nil .nil rfl (RunB.lr (by first | exact run_pick_true (.tmp rfl) (.tmp rfl) | exact run_pick_false (.tmp rfl) .const)) ?_
  refine .det (B := []) rfl rfl (.inl rfl) .nil .nil rfl (RunB.lr (run_move (.tmp rfl))) ?_
  refine .det (B := []) rfl rfl (.inr ⟨_, _, _, rfl, rfl, rfl⟩) (.cons rfl .nil) .nil rfl (RunB.lr (run_loadN (.tmp rfl) kd28 sz28 (by repeat (first | exact List.Mem.head _ | apply List.Mem.tail)) (by repeat (first | exact Sub.done | apply Sub.take | apply Sub.skip)))) ?_
  refine .det (B := []) rfl rfl (.inr ⟨_, _, _, rfl, rfl, rfl⟩) .nil .nil rfl (RunB.lr (run_call1 cb30 (.cons .const (.cons .const .nil)) (fun w _ => spanLK _ _ w))) ?_
  refine .det (B := []) rfl rfl (.inr ⟨_, _, _, rfl, rfl, rfl⟩) .nil .nil rfl (RunB.lr (run_eql_agg (.tmp rfl) (.tmp rfl) eg28 (eql28 (by first | exact (show _ = true from by simp only [Bool.and_eq_true, decide_eq_true_eq]; omega) | exact (show _ = false from by simp only [Bool.and_eq_false_iff, decide_eq_false_iff_not]; omega) | exact rfl)))) ?_
  refine .det (B := []) rfl rfl (.inl rfl) .nil .nil rfl (RunB.lr (by first | exact run_pick_true (.tmp rfl) (.tmp rfl) | exact run_pick_false (.tmp rfl) .const)) ?_
  refine .det (B := []) rfl rfl (.inl rfl) .nil .nil rfl (RunB.lr (run_move (.tmp rfl))) ?_
  refine .det (B := []) rfl rfl (.inr ⟨_, _, _, rfl, rfl, rfl⟩) .nil .nil rfl (RunB.lr (run_move (.tmp rfl))) ?_
  refine .det (B := []) rfl rfl (.inr ⟨_, _, _, rfl, rfl, rfl⟩) .nil .nil rfl (RunB.lr (run_eql (.tmp rfl) .const (by first | exact decide_eq_true (by omega) | exact decide_eq_false (by omega) | exact rfl))) ?_
  refine .det (B := []) rfl rfl (.inl rfl) .nil .nil rfl (RunB.lr (by first | exact run_pick_true (.tmp rfl) (.tmp rfl) | exact run_pick_false (.tmp rfl) .const)) ?_
  refine .det (B := []) rfl rfl (.inl rfl) .nil .nil rfl (RunB.lr (run_assign (.tmp rfl))) ?_
  refine chain_nil (ts := [25, 0, 1, 2, 3, 4, 5, 6, 7, 8, 9, 10, 11, 12, 13, 14, 15, 16, 17, 18, 19, 20, 21, 22, 23, 24]) (.cons rfl (.cons rfl (.cons rfl (.cons rfl (.cons rfl (.cons rfl (.cons rfl (.cons rfl (.cons rfl (.cons rfl (.cons rfl (.cons rfl (.cons rfl (.cons rfl (.cons rfl (.cons rfl (.cons rfl (.cons rfl (.cons rfl (.cons rfl (.cons rfl (.cons rfl (.cons rfl (.cons rfl (.cons rfl (.cons rfl .nil)))))))))))))))))))))))))) (by decide) ?_
  refine xw_then ?_
  refine cw_ret ?_
  refine xw_ret1 Try.results13 rfl (fun w hS => ⟨rfl, hS.kept⟩)
set_option maxRecDepth 100000 in
set_option maxHeartbeats 4000000 in
theorem furrowNames_any (w : World) : Gives Try.prog 5 [] w (.bool true) := by
  refine .mk <| enter (n := 94) Try.func5 rfl rfl rfl (by repeat (first | exact Fill.nil | apply Fill.cons)) ?_
  refine cw_seq ?_
  refine cw_region ?_
  refine lstepB rfl rfl rfl (run_assign .const) ?_
  refine lnil ?_
  refine xw_then ?_
  refine cw_seq ?_
  refine cw_region ?_
  refine lstep rfl rfl rfl (LR.runs (R := []) (A := []) (lr_gives cb29 .nil (fun w2 hS => sampleK w2)) (by repeat (first | exact Pick.nil | (apply Pick.cons; focus (repeat (first | exact Del.here | apply Del.there))))) (by repeat (first | exact Dels.nil | (apply Dels.cons; focus (repeat (first | exact Del.here | apply Del.there)))))) ?_
  intro ⟨gA8, gC8, gB8, cB8, rB8⟩ hB8
  dsimp only at hB8 ⊢
  refine lstepB rfl rfl rfl (run_call1 cb16 (.cons (.tmp rfl) (.cons .const .nil)) (fun w2 hS => (atQ sampleF (some ⟨gA8, 0, none⟩) (some ⟨gB8, 0, none⟩) (some ⟨gC8, 0, none⟩) 5 cB8 5 1 w2 s_lens (sampleAt (s := (gA8, gC8, gB8, cB8, rB8)) hB8 (hS.mem (b := gA8) (by repeat (first | exact List.Mem.head _ | apply List.Mem.tail))) (hS.mem (b := gB8) (by repeat (first | exact List.Mem.head _ | apply List.Mem.tail))) (hS.mem (b := gC8) (by repeat (first | exact List.Mem.head _ | apply List.Mem.tail))))).as (by rw [s_at1]))) ?_
  refine lstepB rfl rfl rfl (run_move (.tmp rfl)) ?_
  refine lstepB rfl rfl rfl (run_extract (.tmp rfl) rfl) ?_
  refine lstepB rfl rfl rfl (run_extract (.tmp rfl) rfl) ?_
  refine lstep rfl rfl rfl (run_alloc zr28) ?_
  intro b1 _
  refine lstep0 rfl rfl (run_storeN (.tmp rfl) (.tmp rfl) rfl sz28 rfl (by repeat (first | exact Upd.here | apply Upd.there)) (by repeat (first | exact Put.done | apply Put.put | apply Put.skip))) ?_
  refine lstepB rfl rfl rfl (run_assign (.tmp rfl)) ?_
  refine lnil ?_
  refine xw_then ?_
  refine cw_seq ?_
  refine cw_region ?_
  refine lstep rfl rfl rfl (LR.runs (R := []) (A := []) (lr_gives cb29 .nil (fun w2 hS => sampleK w2)) (by repeat (first | exact Pick.nil | (apply Pick.cons; focus (repeat (first | exact Del.here | apply Del.there))))) (by repeat (first | exact Dels.nil | (apply Dels.cons; focus (repeat (first | exact Del.here | apply Del.there)))))) ?_
  intro ⟨gA9, gC9, gB9, cB9, rB9⟩ hB9
  dsimp only at hB9 ⊢
  refine lstepB rfl rfl rfl (run_call1 cb16 (.cons (.tmp rfl) (.cons .const .nil)) (fun w2 hS => (atQ sampleF (some ⟨gA9, 0, none⟩) (some ⟨gB9, 0, none⟩) (some ⟨gC9, 0, none⟩) 5 cB9 5 3 w2 s_lens (sampleAt (s := (gA9, gC9, gB9, cB9, rB9)) hB9 (hS.mem (b := gA9) (by repeat (first | exact List.Mem.head _ | apply List.Mem.tail))) (hS.mem (b := gB9) (by repeat (first | exact List.Mem.head _ | apply List.Mem.tail))) (hS.mem (b := gC9) (by repeat (first | exact List.Mem.head _ | apply List.Mem.tail))))).as (by rw [s_at3]))) ?_
  refine lstepB rfl rfl rfl (run_move (.tmp rfl)) ?_
  refine lstepB rfl rfl rfl (run_extract (.tmp rfl) rfl) ?_
  refine lstepB rfl rfl rfl (run_extract (.tmp rfl) rfl) ?_
  refine lstep rfl rfl rfl (run_alloc zr28) ?_
  intro b3 _
  refine lstep0 rfl rfl (run_storeN (.tmp rfl) (.tmp rfl) rfl sz28 rfl (by repeat (first | exact Upd.here | apply Upd.there)) (by repeat (first | exact Put.done | apply Put.put | apply Put.skip))) ?_
  refine lstepB rfl rfl rfl (run_assign (.tmp rfl)) ?_
  refine lnil ?_
  refine xw_then ?_
  refine cw_seq ?_
  refine cw_region ?_
  refine lstep rfl rfl rfl (LR.runs (R := []) (A := []) (lr_gives cb29 .nil (fun w2 hS => sampleK w2)) (by repeat (first | exact Pick.nil | (apply Pick.cons; focus (repeat (first | exact Del.here | apply Del.there))))) (by repeat (first | exact Dels.nil | (apply Dels.cons; focus (repeat (first | exact Del.here | apply Del.there)))))) ?_
  intro ⟨gA10, gC10, gB10, cB10, rB10⟩ hB10
  dsimp only at hB10 ⊢
  refine lstepB rfl rfl rfl (run_call1 cb16 (.cons (.tmp rfl) (.cons .const .nil)) (fun w2 hS => (atQ sampleF (some ⟨gA10, 0, none⟩) (some ⟨gB10, 0, none⟩) (some ⟨gC10, 0, none⟩) 5 cB10 5 0 w2 s_lens (sampleAt (s := (gA10, gC10, gB10, cB10, rB10)) hB10 (hS.mem (b := gA10) (by repeat (first | exact List.Mem.head _ | apply List.Mem.tail))) (hS.mem (b := gB10) (by repeat (first | exact List.Mem.head _ | apply List.Mem.tail))) (hS.mem (b := gC10) (by repeat (first | exact List.Mem.head _ | apply List.Mem.tail))))).as (by rw [s_at0]))) ?_
  refine lstepB rfl rfl rfl (run_move (.tmp rfl)) ?_
  refine lstepB rfl rfl rfl (run_extract (.tmp rfl) rfl) ?_
  refine lstepB rfl rfl rfl (run_extract (.tmp rfl) rfl) ?_
  refine lstep rfl rfl rfl (run_alloc zr28) ?_
  intro b5 _
  refine lstep0 rfl rfl (run_storeN (.tmp rfl) (.tmp rfl) rfl sz28 rfl (by repeat (first | exact Upd.here | apply Upd.there)) (by repeat (first | exact Put.done | apply Put.put | apply Put.skip))) ?_
  refine lstepB rfl rfl rfl (run_assign (.tmp rfl)) ?_
  refine lnil ?_
  refine xw_then ?_
  refine cw_seq ?_
  refine cw_region ?_
  refine lstep rfl rfl rfl (LR.runs (R := []) (A := []) (lr_gives cb29 .nil (fun w2 hS => sampleK w2)) (by repeat (first | exact Pick.nil | (apply Pick.cons; focus (repeat (first | exact Del.here | apply Del.there))))) (by repeat (first | exact Dels.nil | (apply Dels.cons; focus (repeat (first | exact Del.here | apply Del.there)))))) ?_
  intro ⟨gA11, gC11, gB11, cB11, rB11⟩ hB11
  dsimp only at hB11 ⊢
  refine lstepB rfl rfl rfl (run_call1 cb16 (.cons (.tmp rfl) (.cons .const .nil)) (fun w2 hS => (atQ sampleF (some ⟨gA11, 0, none⟩) (some ⟨gB11, 0, none⟩) (some ⟨gC11, 0, none⟩) 5 cB11 5 4 w2 s_lens (sampleAt (s := (gA11, gC11, gB11, cB11, rB11)) hB11 (hS.mem (b := gA11) (by repeat (first | exact List.Mem.head _ | apply List.Mem.tail))) (hS.mem (b := gB11) (by repeat (first | exact List.Mem.head _ | apply List.Mem.tail))) (hS.mem (b := gC11) (by repeat (first | exact List.Mem.head _ | apply List.Mem.tail))))).as (by rw [s_at4]))) ?_
  refine lstepB rfl rfl rfl (run_move (.tmp rfl)) ?_
  refine lstepB rfl rfl rfl (run_extract (.tmp rfl) rfl) ?_
  refine lstepB rfl rfl rfl (run_extract (.tmp rfl) rfl) ?_
  refine lstep rfl rfl rfl (run_alloc zr28) ?_
  intro b7 _
  refine lstep0 rfl rfl (run_storeN (.tmp rfl) (.tmp rfl) rfl sz28 rfl (by repeat (first | exact Upd.here | apply Upd.there)) (by repeat (first | exact Put.done | apply Put.put | apply Put.skip))) ?_
  refine lstepB rfl rfl rfl (run_assign (.tmp rfl)) ?_
  refine lnil ?_
  refine xw_then ?_
  refine cw_seq ?_
  refine cw_region ?_
  refine lstep rfl rfl rfl (LR.runs (R := []) (A := []) (lr_gives cb29 .nil (fun w2 hS => sampleK w2)) (by repeat (first | exact Pick.nil | (apply Pick.cons; focus (repeat (first | exact Del.here | apply Del.there))))) (by repeat (first | exact Dels.nil | (apply Dels.cons; focus (repeat (first | exact Del.here | apply Del.there)))))) ?_
  intro ⟨gA12, gC12, gB12, cB12, rB12⟩ hB12
  dsimp only at hB12 ⊢
  refine lstepB rfl rfl rfl (run_call1 cb23 (.cons (.tmp rfl) (.cons .const .nil)) (fun w2 hS => (wrongQ sampleF (some ⟨gA12, 0, none⟩) (some ⟨gB12, 0, none⟩) (some ⟨gC12, 0, none⟩) 5 cB12 5 3 w2 s_lens (sampleAt (s := (gA12, gC12, gB12, cB12, rB12)) hB12 (hS.mem (b := gA12) (by repeat (first | exact List.Mem.head _ | apply List.Mem.tail))) (hS.mem (b := gB12) (by repeat (first | exact List.Mem.head _ | apply List.Mem.tail))) (hS.mem (b := gC12) (by repeat (first | exact List.Mem.head _ | apply List.Mem.tail))))).as (by rw [s_wrong3]))) ?_
  refine lstepB rfl rfl rfl (run_move (.tmp rfl)) ?_
  refine lstepB rfl rfl rfl (run_extract (.tmp rfl) rfl) ?_
  refine lstepB rfl rfl rfl (run_extract (.tmp rfl) rfl) ?_
  refine lstepB rfl rfl rfl (run_assign (.tmp rfl)) ?_
  refine lstepB rfl rfl rfl (run_assign (.tmp rfl)) ?_
  refine lnil ?_
  refine xw_then ?_
  refine cw_seq ?_
  refine cw_region ?_
  refine lstep rfl rfl rfl (LR.runs (R := []) (A := []) (lr_gives cb29 .nil (fun w2 hS => sampleK w2)) (by repeat (first | exact Pick.nil | (apply Pick.cons; focus (repeat (first | exact Del.here | apply Del.there))))) (by repeat (first | exact Dels.nil | (apply Dels.cons; focus (repeat (first | exact Del.here | apply Del.there)))))) ?_
  intro ⟨gA13, gC13, gB13, cB13, rB13⟩ hB13
  dsimp only at hB13 ⊢
  refine lstepB rfl rfl rfl (run_call1 cb25 (.cons (.tmp rfl) (.cons .const .nil)) (fun w2 hS => (shallowQ sampleF (some ⟨gA13, 0, none⟩) (some ⟨gB13, 0, none⟩) (some ⟨gC13, 0, none⟩) 5 cB13 5 0 w2 s_lens (sampleAt (s := (gA13, gC13, gB13, cB13, rB13)) hB13 (hS.mem (b := gA13) (by repeat (first | exact List.Mem.head _ | apply List.Mem.tail))) (hS.mem (b := gB13) (by repeat (first | exact List.Mem.head _ | apply List.Mem.tail))) (hS.mem (b := gC13) (by repeat (first | exact List.Mem.head _ | apply List.Mem.tail))))).as (by rw [s_shallow0]))) ?_
  refine lstepB rfl rfl rfl (run_move (.tmp rfl)) ?_
  refine lstepB rfl rfl rfl (run_extract (.tmp rfl) rfl) ?_
  refine lstepB rfl rfl rfl (run_extract (.tmp rfl) rfl) ?_
  refine lstepB rfl rfl rfl (run_extract (.tmp rfl) rfl) ?_
  refine lstepB rfl rfl rfl (run_assign (.tmp rfl)) ?_
  refine lstepB rfl rfl rfl (run_assign (.tmp rfl)) ?_
  refine lstepB rfl rfl rfl (run_assign (.tmp rfl)) ?_
  refine lnil ?_
  refine xw_then ?_
  refine cw_seq ?_
  refine cw_chain2 (σ := [0, 1, 2, 3, 4, 5, 6, 7, 8, 9, 10, 11, 12, 13, 14, 15, 16, 17, 18, 19, 20, 21, 22, 23, 24, 25, 26, 27, 28, 29, 30, 31, 32, 33, 34, 35, 36, 37, 38, 39, 40, 41, 42, 43, 44, 45, 46, 47, 48, 49]) [⟨0, [], [], [], 0⟩, ⟨0, [], [], [], 1⟩, ⟨0, [], [], [], 3⟩, ⟨0, [], [], [], 7⟩, ⟨0, [18], [], [], 15⟩, ⟨0, [], [], [], 15⟩, ⟨0, [], [], [], 63⟩, ⟨0, [], [], [], 127⟩, ⟨0, [], [], [], 255⟩, ⟨0, [], [], [], 511⟩, ⟨0, [], [], [], 1023⟩, ⟨0, [], [], [], 2047⟩, ⟨0, [], [], [], 4095⟩, ⟨0, [14], [], [], 8191⟩, ⟨0, [], [], [], 8191⟩, ⟨0, [], [], [], 32767⟩, ⟨0, [], [], [], 65535⟩, ⟨0, [], [], [], 131071⟩, ⟨0, [], [], [], 262143⟩, ⟨0, [], [], [], 524287⟩, ⟨0, [], [], [], 1048575⟩, ⟨0, [], [], [], 2097151⟩, ⟨0, [], [], [], 4194303⟩, ⟨0, [], [], [], 8388607⟩, ⟨0, [], [], [], 16777215⟩, ⟨0, [], [], [], 33554431⟩, ⟨0, [], [], [], 67108863⟩, ⟨0, [], [], [], 134217727⟩, ⟨0, [], [], [], 268435455⟩, ⟨0, [], [], [], 536870911⟩, ⟨0, [], [], [], 1073741823⟩, ⟨0, [], [], [], 2147483647⟩, ⟨0, [], [], [], 4294967295⟩, ⟨0, [], [], [], 8589934591⟩, ⟨0, [], [], [], 17179869183⟩, ⟨0, [], [], [], 34359738367⟩, ⟨0, [], [], [], 68719476735⟩, ⟨0, [], [], [], 137438953471⟩, ⟨0, [], [], [], 274877906943⟩, ⟨0, [], [], [], 549755813887⟩, ⟨0, [], [], [], 1099511627775⟩, ⟨0, [], [], [], 2199023255551⟩, ⟨0, [], [], [], 4398046511103⟩, ⟨0, [], [], [], 8796093022207⟩, ⟨0, [], [], [], 17592186044415⟩, ⟨0, [], [], [], 35184372088831⟩, ⟨0, [], [], [], 70368744177663⟩, ⟨0, [], [], [], 140737488355327⟩, ⟨0, [], [], [], 281474976710655⟩, ⟨0, [], [], [], 562949953421311⟩] [(0, _), (1, _), (2, _), (3, _), (4, _), (5, _), (6, _), (7, _), (8, _), (9, _), (10, _), (11, _), (12, _), (13, _), (14, _), (15, _), (16, _), (17, _), (18, _), (19, _), (20, _), (21, _)] (by kernel_rfl) (by kernel_rfl) rfl ?_
  refine .det (B := []) rfl rfl (.inl rfl) .nil .nil rfl (RunB.lr (run_move .const)) ?_
  refine .det (B := []) rfl rfl (.inr ⟨_, _, _, rfl, rfl, rfl⟩) .nil .nil rfl (RunB.lr (run_call1 cb13 .nil (fun w _ => aliveK w))) ?_
  refine .det (B := []) rfl rfl (.inl rfl) .nil .nil rfl (RunB.lr (by first | exact run_pick_true (.tmp rfl) (.tmp rfl) | exact run_pick_false (.tmp rfl) .const)) ?_
  refine .det (B := []) rfl rfl (.inl rfl) .nil .nil rfl (RunB.lr (run_move (.tmp rfl))) ?_
  refine .det (B := []) rfl rfl (.inr ⟨_, _, _, rfl, rfl, rfl⟩) (.cons rfl .nil) .nil rfl (RunB.lr (run_loadN (.tmp rfl) kd28 sz28 (by repeat (first | exact List.Mem.head _ | apply List.Mem.tail)) (by repeat (first | exact Sub.done | apply Sub.take | apply Sub.skip)))) ?_
  refine .det (B := []) rfl rfl (.inr ⟨_, _, _, rfl, rfl, rfl⟩) .nil .nil rfl (RunB.lr (run_call1 cb30 (.cons .const (.cons .const .nil)) (fun w _ => spanLK _ _ w))) ?_
  refine .det (B := []) rfl rfl (.inr ⟨_, _, _, rfl, rfl, rfl⟩) .nil .nil rfl (RunB.lr (run_eql_agg (.tmp rfl) (.tmp rfl) eg28 (eql28 (by first | exact (show _ = true from by simp only [Bool.and_eq_true, decide_eq_true_eq]; omega) | exact (show _ = false from by simp only [Bool.and_eq_false_iff, decide_eq_false_iff_not]; omega) | exact rfl)))) ?_
  refine .det (B := []) rfl rfl (.inl rfl) .nil .nil rfl (RunB.lr (by first | exact run_pick_true (.tmp rfl) (.tmp rfl) | exact run_pick_false (.tmp rfl) .const)) ?_
  refine .det (B := []) rfl rfl (.inl rfl) .nil .nil rfl (RunB.lr (run_move (.tmp rfl))) ?_
  refine .det (B := []) rfl rfl (.inr ⟨_, _, _, rfl, rfl, rfl⟩) .nil .nil rfl (RunB.lr (run_move (.tmp rfl))) ?_
  refine .det (B := []) rfl rfl (.inr ⟨_, _, _, rfl, rfl, rfl⟩) .nil .nil rfl (RunB.lr (run_eql (.tmp rfl) .const (by first | exact decide_eq_true (by omega) | exact decide_eq_false (by omega) | exact rfl))) ?_
  refine .det (B := []) rfl rfl (.inl rfl) .nil .nil rfl (RunB.lr (by first | exact run_pick_true (.tmp rfl) (.tmp rfl) | exact run_pick_false (.tmp rfl) .const)) ?_
  refine .det (B := []) rfl rfl (.inl rfl) .nil .nil rfl (RunB.lr (run_move (.tmp rfl))) ?_
  refine .det (B := []) rfl rfl (.inr ⟨_, _, _, rfl, rfl, rfl⟩) (.cons rfl .nil) .nil rfl (RunB.lr (run_loadN (.tmp rfl) kd28 sz28 (by repeat (first | exact List.Mem.head _ | apply List.Mem.tail)) (by repeat (first | exact Sub.done | apply Sub.take | apply Sub.skip)))) ?_
  refine .det (B := []) rfl rfl (.inr ⟨_, _, _, rfl, rfl, rfl⟩) .nil .nil rfl (RunB.lr (run_call1 cb30 (.cons .const (.cons .const .nil)) (fun w _ => spanLK _ _ w))) ?_
  refine .det (B := []) rfl rfl (.inr ⟨_, _, _, rfl, rfl, rfl⟩) .nil .nil rfl (RunB.lr (run_eql_agg (.tmp rfl) (.tmp rfl) eg28 (eql28 (by first | exact (show _ = true from by simp only [Bool.and_eq_true, decide_eq_true_eq]; omega) | exact (show _ = false from by simp only [Bool.and_eq_false_iff, decide_eq_false_iff_not]; omega) | exact rfl)))) ?_
  refine .det (B := []) rfl rfl (.inl rfl) .nil .nil rfl (RunB.lr (by first | exact run_pick_true (.tmp rfl) (.tmp rfl) | exact run_pick_false (.tmp rfl) .const)) ?_
  refine .det (B := []) rfl rfl (.inl rfl) .nil .nil rfl (RunB.lr (run_move (.tmp rfl))) ?_
  refine .det (B := []) rfl rfl (.inr ⟨_, _, _, rfl, rfl, rfl⟩) .nil .nil rfl (RunB.lr (run_move (.tmp rfl))) ?_
  refine .det (B := []) rfl rfl (.inr ⟨_, _, _, rfl, rfl, rfl⟩) .nil .nil rfl (RunB.lr (run_eql (.tmp rfl) .const (by first | exact decide_eq_true (by omega) | exact decide_eq_false (by omega) | exact rfl))) ?_
  refine .det (B := []) rfl rfl (.inl rfl) .nil .nil rfl (RunB.lr (by first | exact run_pick_true (.tmp rfl) (.tmp rfl) | exact run_pick_false (.tmp rfl) .const)) ?_
  refine .det (B := []) rfl rfl (.inl rfl) .nil .nil rfl (RunB.lr (run_move (.tmp rfl))) ?_
  refine .det (B := []) rfl rfl (.inr ⟨_, _, _, rfl, rfl, rfl⟩) .nil .nil rfl (RunB.lr (run_move (.tmp rfl))) ?_
  refine .det (B := []) rfl rfl (.inr ⟨_, _, _, rfl, rfl, rfl⟩) .nil .nil rfl (RunB.lr (run_eql (.tmp rfl) .const (by first | exact decide_eq_true (by omega) | exact decide_eq_false (by omega) | exact rfl))) ?_
  refine .det (B := []) rfl rfl (.inl rfl) .nil .nil rfl (RunB.lr (by first | exact run_pick_true (.tmp rfl) (.tmp rfl) | exact run_pick_false (.tmp rfl) .const)) ?_
  refine .det (B := []) rfl rfl (.inl rfl) .nil .nil rfl (RunB.lr (run_move (.tmp rfl))) ?_
  refine .det (B := []) rfl rfl (.inr ⟨_, _, _, rfl, rfl, rfl⟩) .nil .nil rfl (RunB.lr (run_move (.tmp rfl))) ?_
  refine .det (B := []) rfl rfl (.inr ⟨_, _, _, rfl, rfl, rfl⟩) .nil .nil rfl (RunB.lr (run_eql (.tmp rfl) .const (by first | exact decide_eq_true (by omega) | exact decide_eq_false (by omega) | exact rfl))) ?_
  refine .det (B := []) rfl rfl (.inl rfl) .nil .nil rfl (RunB.lr (by first | exact run_pick_true (.tmp rfl) (.tmp rfl) | exact run_pick_false (.tmp rfl) .const)) ?_
  refine .det (B := []) rfl rfl (.inl rfl) .nil .nil rfl (RunB.lr (run_move (.tmp rfl))) ?_
  refine .det (B := []) rfl rfl (.inr ⟨_, _, _, rfl, rfl, rfl⟩) .nil .nil rfl (RunB.lr (run_move (.tmp rfl))) ?_
  refine .det (B := []) rfl rfl (.inr ⟨_, _, _, rfl, rfl, rfl⟩) .nil .nil rfl (RunB.lr (run_eql (.tmp rfl) .const (by first | exact decide_eq_true (by omega) | exact decide_eq_false (by omega) | exact rfl))) ?_
  refine .det (B := []) rfl rfl (.inl rfl) .nil .nil rfl (RunB.lr (by first | exact run_pick_true (.tmp rfl) (.tmp rfl) | exact run_pick_false (.tmp rfl) .const)) ?_
  refine .det (B := []) rfl rfl (.inl rfl) .nil .nil rfl (RunB.lr (run_move (.tmp rfl))) ?_
  refine .det (B := []) rfl rfl (.inr ⟨_, _, _, rfl, rfl, rfl⟩) .nil .nil rfl (RunB.lr (run_move (.tmp rfl))) ?_
  refine .det (B := []) rfl rfl (.inr ⟨_, _, _, rfl, rfl, rfl⟩) .nil .nil rfl (RunB.lr (run_eql (.tmp rfl) .const (by first | exact decide_eq_true (by omega) | exact decide_eq_false (by omega) | exact rfl))) ?_
  refine .det (B := []) rfl rfl (.inl rfl) .nil .nil rfl (RunB.lr (by first | exact run_pick_true (.tmp rfl) (.tmp rfl) | exact run_pick_false (.tmp rfl) .const)) ?_
  refine .det (B := []) rfl rfl (.inl rfl) .nil .nil rfl (RunB.lr (run_move (.tmp rfl))) ?_
  refine .det (B := []) rfl rfl (.inr ⟨_, _, _, rfl, rfl, rfl⟩) .nil .nil rfl (RunB.lr (run_move (.tmp rfl))) ?_
  refine .det (B := []) rfl rfl (.inr ⟨_, _, _, rfl, rfl, rfl⟩) .nil .nil rfl (RunB.lr (run_eql (.tmp rfl) .const (by first | exact decide_eq_true (by omega) | exact decide_eq_false (by omega) | exact rfl))) ?_
  refine .det (B := []) rfl rfl (.inl rfl) .nil .nil rfl (RunB.lr (by first | exact run_pick_true (.tmp rfl) (.tmp rfl) | exact run_pick_false (.tmp rfl) .const)) ?_
  refine .det (B := []) rfl rfl (.inl rfl) .nil .nil rfl (RunB.lr (run_move (.tmp rfl))) ?_
  refine .det (B := []) rfl rfl (.inr ⟨_, _, _, rfl, rfl, rfl⟩) .nil .nil rfl (RunB.lr (run_move (.tmp rfl))) ?_
  refine .det (B := []) rfl rfl (.inr ⟨_, _, _, rfl, rfl, rfl⟩) .nil .nil rfl (RunB.lr (run_eql (.tmp rfl) .const (by first | exact decide_eq_true (by omega) | exact decide_eq_false (by omega) | exact rfl))) ?_
  refine .det (B := []) rfl rfl (.inl rfl) .nil .nil rfl (RunB.lr (by first | exact run_pick_true (.tmp rfl) (.tmp rfl) | exact run_pick_false (.tmp rfl) .const)) ?_
  refine .det (B := []) rfl rfl (.inl rfl) .nil .nil rfl (RunB.lr (run_move (.tmp rfl))) ?_
  refine .det (B := []) rfl rfl (.inr ⟨_, _, _, rfl, rfl, rfl⟩) .nil .nil rfl (RunB.lr (run_move (.tmp rfl))) ?_
  refine .det (B := []) rfl rfl (.inr ⟨_, _, _, rfl, rfl, rfl⟩) .nil .nil rfl (RunB.lr (run_eql (.tmp rfl) .const (by first | exact decide_eq_true (by omega) | exact decide_eq_false (by omega) | exact rfl))) ?_
  refine .det (B := []) rfl rfl (.inl rfl) .nil .nil rfl (RunB.lr (by first | exact run_pick_true (.tmp rfl) (.tmp rfl) | exact run_pick_false (.tmp rfl) .const)) ?_
  refine .det (B := []) rfl rfl (.inl rfl) .nil .nil rfl (RunB.lr (run_assign (.tmp rfl))) ?_
  refine chain_nil (ts := [0, 1, 2, 3, 4, 5, 6, 7, 8, 9, 10, 11, 12, 13, 14, 15, 16, 17, 18, 19, 20, 21]) (.cons rfl (.cons rfl (.cons rfl (.cons rfl (.cons rfl (.cons rfl (.cons rfl (.cons rfl (.cons rfl (.cons rfl (.cons rfl (.cons rfl (.cons rfl (.cons rfl (.cons rfl (.cons rfl (.cons rfl (.cons rfl (.cons rfl (.cons rfl (.cons rfl (.cons rfl .nil)))))))))))))))))))))) (by decide) ?_
  refine xw_then ?_
  refine cw_ret ?_
  refine xw_ret1 Try.results5 rfl (fun w hS => ⟨rfl, hS.kept⟩)
end Go.Proofs.Ytjdeplehhmhpcaa
