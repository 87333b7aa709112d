/- PegTurned: its walk. -/
import Derived.Test.YtkjciobphbcknaaTV
import Derived.Test.YtkjciobphbcknaaEZ
namespace Go.Proofs.Ytkjciobphbcknaa
open Go.RowKit En

set_option maxRecDepth 100000 in
set_option maxHeartbeats 4000000 in
theorem turned_any (p : PegsD) (x y z : Int) (c : Nat) (hc : c < 256) (pa la : Option Addr) (pc lc : Nat) (w : World) (hm : p.ps.length ≤ 9223372036854775807) (hm2 : p.ls.length ≤ 9223372036854775807) (hp : PegsIn w p pa la) :
    Calls Try.prog 9 [.agg [.int .i64 p.side, .slice pa p.ps.length pc, .slice la p.ls.length lc].toArray, .int .i64 x, .int .i64 y, .int .i64 z, .int .u8 (c : Int)].toArray w fun e w' => e = .returned (.bool true) ∧ Below w.heap.size w w' := by
  refine enter (n := 388) Try.func9 rfl rfl rfl (by repeat (first | exact Fill.nil | apply Fill.cons)) ?_
  rcases Bool.eq_false_or_eq_true (heavyB p 3 8) with hh | hh
  ·
    refine cw_seq ?_
    refine cw_region ?_
    refine lstep rfl rfl rfl (run_boxN (.tmp rfl)) ?_
    intro b5 _
    refine lstep rfl rfl rfl (run_box1 (.tmp rfl) rfl) ?_
    intro b9 _
    refine lstepB rfl rfl rfl (run_assign .const) ?_
    refine lnil ?_
    refine xw_then ?_
    refine cw_seq ?_
    refine cw_seq ?_
    refine cw_region ?_
    refine lstepB rfl rfl rfl (run_loadN (.tmp rfl) kd25 sz25 (by repeat (first | exact List.Mem.head _ | apply List.Mem.tail)) (by repeat (first | exact Sub.done | apply Sub.take | apply Sub.skip))) ?_
    refine lstepB rfl rfl rfl (run_call1 cb11 (.cons (.tmp rfl) (.cons .const (.cons .const .nil))) (fun w hS => heavyK hm hm2 hp hS.kept hh)) ?_
    refine lstepB rfl rfl rfl (run_move (.tmp rfl)) ?_
    refine lskip rfl rfl rfl rfl rfl rfl rfl ?_
    refine lskip rfl rfl rfl rfl rfl rfl rfl ?_
    refine lskip rfl rfl rfl rfl rfl rfl rfl ?_
    refine lstepB rfl rfl rfl (by first | exact run_pick_true (.tmp rfl) .const | exact run_pick_false (.tmp rfl) (.tmp rfl)) ?_
    refine lstepB rfl rfl rfl (run_move (.tmp rfl)) ?_
    refine lskip rfl rfl rfl rfl rfl rfl rfl ?_
    refine lskip rfl rfl rfl rfl rfl rfl rfl ?_
    refine lskip rfl rfl rfl rfl rfl rfl rfl ?_
    refine lskip rfl rfl rfl rfl rfl rfl rfl ?_
    refine lstepB rfl rfl rfl (by first | exact run_pick_true (.tmp rfl) .const | exact run_pick_false (.tmp rfl) (.tmp rfl)) ?_
    refine lnil ?_
    refine xw_then ?_
    refine cw_cond_true (.tmp rfl) ?_
    refine cw_seq ?_
    refine cw_region ?_
    refine lstepB rfl rfl rfl (run_call1 cb12 .nil (fun w _ => aliveK w)) ?_
    refine lstepB rfl rfl rfl (run_assign (.tmp rfl)) ?_
    refine lnil ?_
    refine xw_then ?_
    refine cw_ret ?_
    refine xw_then_ret ?_
    refine xw_ret1 Try.results9 rfl (fun w2 hS => ⟨rfl, hS.kept⟩)
  ·
    cases hv : validB p
    ·
      refine cw_seq ?_
      refine cw_region ?_
      refine lstep rfl rfl rfl (run_boxN (.tmp rfl)) ?_
      intro b5 _
      refine lstep rfl rfl rfl (run_box1 (.tmp rfl) rfl) ?_
      intro b9 _
      refine lstepB rfl rfl rfl (run_assign .const) ?_
      refine lnil ?_
      refine xw_then ?_
      refine cw_seq ?_
      refine cw_seq ?_
      refine cw_region ?_
      refine lstepB rfl rfl rfl (run_loadN (.tmp rfl) kd25 sz25 (by repeat (first | exact List.Mem.head _ | apply List.Mem.tail)) (by repeat (first | exact Sub.done | apply Sub.take | apply Sub.skip))) ?_
      refine lstepB rfl rfl rfl (run_call1 cb11 (.cons (.tmp rfl) (.cons .const (.cons .const .nil))) (fun w hS => heavyK hm hm2 hp hS.kept hh)) ?_
      refine lstepB rfl rfl rfl (run_move (.tmp rfl)) ?_
      refine lyes rfl rfl rfl rfl ?_
      refine gstepB rfl rfl (run_loadN (.tmp rfl) kd25 sz25 (by repeat (first | exact List.Mem.head _ | apply List.Mem.tail)) (by repeat (first | exact Sub.done | apply Sub.take | apply Sub.skip))) ?_
      refine lyes rfl rfl rfl rfl ?_
      refine gstepB rfl rfl (run_call1 cb35 (.cons (.tmp rfl) .nil) (fun w hS => validK hm hm2 hp hS.kept hv)) ?_
      refine lyes rfl rfl rfl rfl ?_
      refine gstepB rfl rfl (run_not (.tmp rfl) (by first | exact Bool.not_true | exact Bool.not_false | exact rfl)) ?_
      refine lstepB rfl rfl rfl (by first | exact run_pick_true (.tmp rfl) .const | exact run_pick_false (.tmp rfl) (.tmp rfl)) ?_
      refine lstepB rfl rfl rfl (run_move (.tmp rfl)) ?_
      refine lskip rfl rfl rfl rfl rfl rfl rfl ?_
      refine lskip rfl rfl rfl rfl rfl rfl rfl ?_
      refine lskip rfl rfl rfl rfl rfl rfl rfl ?_
      refine lskip rfl rfl rfl rfl rfl rfl rfl ?_
      refine lstepB rfl rfl rfl (by first | exact run_pick_true (.tmp rfl) .const | exact run_pick_false (.tmp rfl) (.tmp rfl)) ?_
      refine lnil ?_
      refine xw_then ?_
      refine cw_cond_true (.tmp rfl) ?_
      refine cw_seq ?_
      refine cw_region ?_
      refine lstepB rfl rfl rfl (run_call1 cb12 .nil (fun w _ => aliveK w)) ?_
      refine lstepB rfl rfl rfl (run_assign (.tmp rfl)) ?_
      refine lnil ?_
      refine xw_then ?_
      refine cw_ret ?_
      refine xw_then_ret ?_
      refine xw_ret1 Try.results9 rfl (fun w2 hS => ⟨rfl, hS.kept⟩)
    ·
      by_cases hn0 : p.ps.length = 0
      ·
        
        refine cw_seq ?_
        refine cw_region ?_
        refine lstep rfl rfl rfl (run_boxN (.tmp rfl)) ?_
        intro b5 _
        refine lstep rfl rfl rfl (run_box1 (.tmp rfl) rfl) ?_
        intro b9 _
        refine lstepB rfl rfl rfl (run_assign .const) ?_
        refine lnil ?_
        refine xw_then ?_
        refine cw_seq ?_
        refine cw_seq ?_
        refine cw_region ?_
        refine lstepB rfl rfl rfl (run_loadN (.tmp rfl) kd25 sz25 (by repeat (first | exact List.Mem.head _ | apply List.Mem.tail)) (by repeat (first | exact Sub.done | apply Sub.take | apply Sub.skip))) ?_
        refine lstepB rfl rfl rfl (run_call1 cb11 (.cons (.tmp rfl) (.cons .const (.cons .const .nil))) (fun w hS => heavyK hm hm2 hp hS.kept hh)) ?_
        refine lstepB rfl rfl rfl (run_move (.tmp rfl)) ?_
        refine lyes rfl rfl rfl rfl ?_
        refine gstepB rfl rfl (run_loadN (.tmp rfl) kd25 sz25 (by repeat (first | exact List.Mem.head _ | apply List.Mem.tail)) (by repeat (first | exact Sub.done | apply Sub.take | apply Sub.skip))) ?_
        refine lyes rfl rfl rfl rfl ?_
        refine gstepB rfl rfl (run_call1 cb35 (.cons (.tmp rfl) .nil) (fun w hS => validK hm hm2 hp hS.kept hv)) ?_
        refine lyes rfl rfl rfl rfl ?_
        refine gstepB rfl rfl (run_not (.tmp rfl) (by first | exact Bool.not_true | exact Bool.not_false | exact rfl)) ?_
        refine lstepB rfl rfl rfl (by first | exact run_pick_true (.tmp rfl) .const | exact run_pick_false (.tmp rfl) (.tmp rfl)) ?_
        refine lstepB rfl rfl rfl (run_move (.tmp rfl)) ?_
        refine lyes rfl rfl rfl rfl ?_
        refine gstepB rfl rfl (run_fieldAddr (.tmp rfl) fa25_1 (by first | exact Nat.zero_add _ | exact rfl)) ?_
        refine lyes rfl rfl rfl rfl ?_
        refine gstepB rfl rfl (run_load1 (.tmp rfl) kd22 (by repeat (first | exact List.Mem.head _ | apply List.Mem.tail)) (by exact rfl)) ?_
        refine lyes rfl rfl rfl rfl ?_
        refine gstepB rfl rfl (run_len (.tmp rfl) sl22) ?_
        refine lyes rfl rfl rfl rfl ?_
        refine gstepB rfl rfl (run_eql (.tmp rfl) .const (by first | exact decide_eq_true (by omega) | exact decide_eq_false (by omega) | exact rfl)) ?_
        refine lstepB rfl rfl rfl (by first | exact run_pick_true (.tmp rfl) .const | exact run_pick_false (.tmp rfl) (.tmp rfl)) ?_
        refine lnil ?_
        refine xw_then ?_
        refine cw_cond_true (.tmp rfl) ?_
        refine cw_seq ?_
        refine cw_region ?_
        refine lstepB rfl rfl rfl (run_call1 cb12 .nil (fun w _ => aliveK w)) ?_
        refine lstepB rfl rfl rfl (run_assign (.tmp rfl)) ?_
        refine lnil ?_
        refine xw_then ?_
        refine cw_ret ?_
        refine xw_then_ret ?_
        refine xw_ret1 Try.results9 rfl (fun w2 hS => ⟨rfl, hS.kept⟩)
      ·
        refine cw_seq ?_
        refine cw_region ?_
        refine lstep rfl rfl rfl (run_boxN (.tmp rfl)) ?_
        intro b5 _
        refine lstep rfl rfl rfl (run_box1 (.tmp rfl) rfl) ?_
        intro b9 _
        refine lstepB rfl rfl rfl (run_assign .const) ?_
        refine lnil ?_
        refine xw_then ?_
        refine cw_seq ?_
        refine cw_seq ?_
        refine cw_region ?_
        refine lstepB rfl rfl rfl (run_loadN (.tmp rfl) kd25 sz25 (by repeat (first | exact List.Mem.head _ | apply List.Mem.tail)) (by repeat (first | exact Sub.done | apply Sub.take | apply Sub.skip))) ?_
        refine lstepB rfl rfl rfl (run_call1 cb11 (.cons (.tmp rfl) (.cons .const (.cons .const .nil))) (fun w hS => heavyK hm hm2 hp hS.kept hh)) ?_
        refine lstepB rfl rfl rfl (run_move (.tmp rfl)) ?_
        refine lyes rfl rfl rfl rfl ?_
        refine gstepB rfl rfl (run_loadN (.tmp rfl) kd25 sz25 (by repeat (first | exact List.Mem.head _ | apply List.Mem.tail)) (by repeat (first | exact Sub.done | apply Sub.take | apply Sub.skip))) ?_
        refine lyes rfl rfl rfl rfl ?_
        refine gstepB rfl rfl (run_call1 cb35 (.cons (.tmp rfl) .nil) (fun w hS => validK hm hm2 hp hS.kept hv)) ?_
        refine lyes rfl rfl rfl rfl ?_
        refine gstepB rfl rfl (run_not (.tmp rfl) (by first | exact Bool.not_true | exact Bool.not_false | exact rfl)) ?_
        refine lstepB rfl rfl rfl (by first | exact run_pick_true (.tmp rfl) .const | exact run_pick_false (.tmp rfl) (.tmp rfl)) ?_
        refine lstepB rfl rfl rfl (run_move (.tmp rfl)) ?_
        refine lyes rfl rfl rfl rfl ?_
        refine gstepB rfl rfl (run_fieldAddr (.tmp rfl) fa25_1 (by first | exact Nat.zero_add _ | exact rfl)) ?_
        refine lyes rfl rfl rfl rfl ?_
        refine gstepB rfl rfl (run_load1 (.tmp rfl) kd22 (by repeat (first | exact List.Mem.head _ | apply List.Mem.tail)) (by exact rfl)) ?_
        refine lyes rfl rfl rfl rfl ?_
        refine gstepB rfl rfl (run_len (.tmp rfl) sl22) ?_
        refine lyes rfl rfl rfl rfl ?_
        refine gstepB rfl rfl (run_eql (.tmp rfl) .const (by first | exact decide_eq_true (by omega) | exact decide_eq_false (by omega) | exact rfl)) ?_
        refine lstepB rfl rfl rfl (by first | exact run_pick_true (.tmp rfl) .const | exact run_pick_false (.tmp rfl) (.tmp rfl)) ?_
        refine lnil ?_
        refine xw_then ?_
        refine cw_cond_false (.tmp rfl) ?_
        obtain ⟨hn3, hs8⟩ := light hh hv
        have hf := fit_of_valid hv
        have hs0 := hf.s0
        have hn1 : 0 < p.ps.length := by omega
        obtain ⟨pb, po, hpa, hpb, hpq⟩ := postsIn_at hp.1 hn1
        subst hpa
        refine cw_skip ?_
        refine xw_then ?_
        refine cw_seq ?_
        refine cw_chain2 (σ := [0, 1, 2, 3, 4, 5, 6, 7, 8]) [⟨0, [], [], [], 0⟩, ⟨0, [1], [], [], 1⟩, ⟨0, [], [], [], 3⟩, ⟨0, [], [], [], 0⟩, ⟨0, [1], [], [], 8⟩, ⟨0, [], [], [], 24⟩, ⟨2, [], [], [2], 0⟩, ⟨0, [], [2], [2], 71⟩, ⟨0, [], [], [], 255⟩] [(0, _), (1, _)] (by kernel_rfl) (by kernel_rfl) rfl ?_
        refine .det (B := []) rfl rfl (.inl rfl) .nil .nil rfl (RunB.lr (run_fieldAddr (.tmp rfl) fa25_1 (by first | exact Nat.zero_add _ | exact rfl))) ?_
        refine .det (B := []) rfl rfl (.inl rfl) (.cons rfl .nil) .nil rfl (RunB.lr (run_load1 (.tmp rfl) kd22 (by repeat (first | exact List.Mem.head _ | apply List.Mem.tail)) (by exact rfl))) ?_
        refine .det (B := []) rfl rfl (.inl rfl) .nil .nil rfl (RunB.lr (run_len (.tmp rfl) sl22)) ?_
        refine .det (B := []) rfl rfl (.inl rfl) .nil .nil rfl (RunB.lr (run_fieldAddr (.tmp rfl) fa25_2 (by first | exact Nat.zero_add _ | exact rfl))) ?_
        refine .det (B := []) rfl rfl (.inl rfl) (.cons rfl .nil) .nil rfl (RunB.lr (run_load1 (.tmp rfl) kd23 (by repeat (first | exact List.Mem.head _ | apply List.Mem.tail)) (by exact rfl))) ?_
        refine .det (B := []) rfl rfl (.inl rfl) .nil .nil rfl (RunB.lr (run_len (.tmp rfl) sl23)) ?_
        refine .flo rfl rfl rfl (.alloc rfl zr3) trivial rfl rfl rfl ?_
        intro b11
        refine .det (B := [(2, (_, _))]) rfl rfl (.inl rfl) .nil (.cons rfl .nil) rfl (lr_store1 (.tmp rfl) (.tmp rfl) rfl sz3 (by repeat (first | exact Put.done | apply Put.put | apply Put.skip))) ?_
        refine .det (B := []) rfl rfl (.inl rfl) .nil .nil rfl (RunB.lr (run_assign (.tmp rfl))) ?_
        refine chain_nil (ts := [2, 0, 1]) (.cons rfl (.cons rfl (.cons rfl .nil))) (by decide) ?_
        refine xw_then ?_
        refine cw_seq ?_
        refine cw_region ?_
        refine lstepB rfl rfl rfl (run_makeFunc .nil (.cons (.tmp rfl) (.cons (.tmp rfl) .nil))) ?_
        refine lstepB rfl rfl rfl (run_assign (.tmp rfl)) ?_
        refine lnil ?_
        refine xw_then ?_
        refine cw_seq ?_
        refine cw_region ?_
        refine lstepB rfl rfl rfl (run_makeFunc .nil (.cons (.tmp rfl) .nil)) ?_
        refine lstepB rfl rfl rfl (run_assign (.tmp rfl)) ?_
        refine lnil ?_
        refine xw_then ?_
        refine cw_seq ?_
        refine cw_chain2 (σ := [0, 1, 2, 3, 4, 5, 6, 7, 8]) [⟨0, [2], [], [], 0⟩, ⟨0, [2], [], [], 0⟩, ⟨0, [2], [], [], 0⟩, ⟨2, [], [], [3], 0⟩, ⟨2, [], [], [4], 0⟩, ⟨2, [], [], [5], 0⟩, ⟨0, [], [3], [3], 57⟩, ⟨0, [], [4], [4], 123⟩, ⟨0, [], [5], [5], 255⟩] [(0, _), (1, _), (2, _)] (by kernel_rfl) (by kernel_rfl) rfl ?_
        refine .det (B := []) rfl rfl (.inl rfl) (.cons rfl .nil) .nil rfl (RunB.lr (run_loadN (.tmp rfl) kd25 sz25 (by repeat (first | exact List.Mem.head _ | apply List.Mem.tail)) (by repeat (first | exact Sub.done | apply Sub.take | apply Sub.skip)))) ?_
        refine .det (B := []) rfl rfl (.inl rfl) (.cons rfl .nil) .nil rfl (RunB.lr (run_loadN (.tmp rfl) kd25 sz25 (by repeat (first | exact List.Mem.head _ | apply List.Mem.tail)) (by repeat (first | exact Sub.done | apply Sub.take | apply Sub.skip)))) ?_
        refine .det (B := []) rfl rfl (.inl rfl) (.cons rfl .nil) .nil rfl (RunB.lr (run_loadN (.tmp rfl) kd25 sz25 (by repeat (first | exact List.Mem.head _ | apply List.Mem.tail)) (by repeat (first | exact Sub.done | apply Sub.take | apply Sub.skip)))) ?_
        refine .flo rfl rfl rfl (.alloc rfl zr25) trivial rfl rfl rfl ?_
        intro b15
        refine .flo rfl rfl rfl (.alloc rfl zr25) trivial rfl rfl rfl ?_
        intro b16
        refine .flo rfl rfl rfl (.alloc rfl zr25) trivial rfl rfl rfl ?_
        intro b17
        refine .det (B := [(3, (_, _))]) rfl rfl (.inl rfl) .nil (.cons rfl .nil) rfl (lr_storeN (.tmp rfl) (.tmp rfl) rfl sz25 rfl (by repeat (first | exact Put.done | apply Put.put | apply Put.skip))) ?_
        refine .det (B := [(4, (_, _))]) rfl rfl (.inl rfl) .nil (.cons rfl .nil) rfl (lr_storeN (.tmp rfl) (.tmp rfl) rfl sz25 rfl (by repeat (first | exact Put.done | apply Put.put | apply Put.skip))) ?_
        refine .det (B := [(5, (_, _))]) rfl rfl (.inl rfl) .nil (.cons rfl .nil) rfl (lr_storeN (.tmp rfl) (.tmp rfl) rfl sz25 rfl (by repeat (first | exact Put.done | apply Put.put | apply Put.skip))) ?_
        refine chain_nil (ts := [5, 4, 3, 0, 1, 2]) (.cons rfl (.cons rfl (.cons rfl (.cons rfl (.cons rfl (.cons rfl .nil)))))) (by decide) ?_
        refine xw_then ?_
        refine cw_seq ?_
        refine cw_region ?_
        refine lstepB rfl rfl rfl (run_load1 (.tmp rfl) kd3 (by repeat (first | exact List.Mem.head _ | apply List.Mem.tail)) (by exact rfl)) ?_
        refine lstep rfl rfl rfl (LR.runs (R := []) (A := []) (lr_makePosts (.tmp rfl) (.tmp rfl) (by omega)) (by repeat (first | exact Pick.nil | (apply Pick.cons; focus (repeat (first | exact Del.here | apply Del.there))))) (by repeat (first | exact Dels.nil | (apply Dels.cons; focus (repeat (first | exact Del.here | apply Del.there)))))) ?_
        intro gX _
        refine lstepB rfl rfl rfl (run_fieldAddr (.tmp rfl) fa25_1 (by first | exact Nat.zero_add _ | exact rfl)) ?_
        refine lstep0 rfl rfl (run_store1 (.tmp rfl) (.tmp rfl) rfl sz22 (by repeat (first | exact Upd.here | apply Upd.there)) (by repeat (first | exact Put.done | apply Put.put | apply Put.skip))) ?_
        refine lstepB rfl rfl rfl (run_fieldAddr (.tmp rfl) fa25_2 (by first | exact Nat.zero_add _ | exact rfl)) ?_
        refine lstep0 rfl rfl (run_store1 (.tmp rfl) .const rfl sz23 (by repeat (first | exact Upd.here | apply Upd.there)) (by repeat (first | exact Put.done | apply Put.put | apply Put.skip))) ?_
        refine lstepB rfl rfl rfl (run_fieldAddr (.tmp rfl) fa25_1 (by first | exact Nat.zero_add _ | exact rfl)) ?_
        refine lstep0 rfl rfl (run_store1 (.tmp rfl) .const rfl sz22 (by repeat (first | exact Upd.here | apply Upd.there)) (by repeat (first | exact Put.done | apply Put.put | apply Put.skip))) ?_
        refine lstepB rfl rfl rfl (run_fieldAddr (.tmp rfl) fa25_1 (by first | exact Nat.zero_add _ | exact rfl)) ?_
        refine lstep0 rfl rfl (run_store1 (.tmp rfl) .const rfl sz22 (by repeat (first | exact Upd.here | apply Upd.there)) (by repeat (first | exact Put.done | apply Put.put | apply Put.skip))) ?_
        refine lnil ?_
        refine xw_then ?_
        refine cw_seq ?_
        refine cw_seq ?_
        refine cw_region ?_
        refine lstepB rfl rfl rfl (run_fieldAddr (.tmp rfl) fa25_1 (by first | exact Nat.zero_add _ | exact rfl)) ?_
        refine lstepB rfl rfl rfl (run_load1 (.tmp rfl) kd22 (by repeat (first | exact List.Mem.head _ | apply List.Mem.tail)) (by exact rfl)) ?_
        refine lstepB rfl rfl rfl (run_len (.tmp rfl) sl22) ?_
        refine lstepB rfl rfl rfl (run_move .const) ?_
        refine lnil ?_
        refine xw_then ?_
        refine cw_block ?_
        rw [← turnedTo_zero p c]
        refine cw_loop (S := V1) (fun s => [(90, .int .i64 (s.j : Int))]) [(1, _), (2, _), (3, _), (5, _), (9, _), (11, _), (12, _), (13, _), (14, _), (15, _), (16, _), (17, _), (88, _), (89, _)] (fun s => [(b5, Obj.cells [.int .i64 p.side, .slice (some ⟨pb, po, none⟩) p.ps.length pc, .slice la p.ls.length lc].toArray 25 (0, 0)), (b9, Obj.cells [.int .u8 (c : Int)].toArray 5 (0, 0)), (b11, Obj.cells [.int .i64 (p.ps.length : Int)].toArray 3 (0, 0)), (b15, Obj.cells [.int .i64 p.side, .slice (some ⟨gX, 0, none⟩) p.ps.length p.ps.length, .slice none 0 0].toArray 25 (0, 0)), (b16, Obj.cells [.int .i64 p.side, rowV s.y s.j, .slice la p.ls.length lc].toArray 25 (0, 0)), (b17, Obj.cells [.int .i64 p.side, rowV s.z s.j, .slice la p.ls.length lc].toArray 25 (0, 0)), (gX, Obj.cells (postCells (turnedTo p c s.j)).toArray 56 (0, 0))] ++ (rowH s.y 56 ++ rowH s.z 56)) (fun s => s.ok p) (fun s => p.ps.length - s.j) ⟨0, none⟩ ⟨Nat.zero_le _, fun _ => rfl, ⟨rfl, rfl⟩, ⟨rfl, rfl⟩⟩ (by repeat (first | exact Less.nil | refine Less.cons rfl ?_)) (by repeat (first | exact Pick.nil | (apply Pick.cons; focus (repeat (first | exact Del.here | apply Del.there))))) ?_
        intro s hs
        obtain ⟨j, o⟩ := s
        obtain ⟨hj, ho, hY, hZ⟩ := hs
        simp only at hj ho hY hZ
        dsimp only
        refine cw_seq ?_
        refine cw_region ?_
        refine lstepB rfl rfl rfl (run_lss (.tmp rfl) (.tmp rfl) (by first | exact decide_eq_true (by omega) | exact decide_eq_false (by omega) | exact rfl)) ?_
        refine lnil ?_
        refine xw_then ?_
        refine cw_seq ?_
        refine cw_cond_p (.tmp rfl) (fun hlt => ?_) (fun hge => ?_)
        ·
          have hlt2 : j < p.ps.length := Int.ofNat_lt.1 hlt
          obtain ⟨q, hq⟩ : ∃ q, p.ps[j]? = some q := ⟨_, List.getElem?_eq_getElem hlt2⟩
          have hqo := hf.posts q (List.mem_of_getElem? hq)
          unfold postOk at hqo
          have hup := up_lt (c := c) hlt2
          rcases o with _ | ⟨⟨gY, cY, rY⟩, ⟨gZ, cZ, rZ⟩⟩
          ·
            have hj0 : j = 0 := ho rfl
            refine cw_skip ?_
            refine xw_then ?_
            refine cw_seq ?_
            refine cw_block ?_
            refine cw_seq ?_
            refine cw_region ?_
            refine lstepB rfl rfl rfl (run_move (.tmp rfl)) ?_
            refine lstepB rfl rfl rfl (run_indexAddr (.tmp rfl) (.tmp rfl) el22 (by omega) rfl) ?_
            refine lstepB rfl rfl rfl (run_loadN_at (l := [.int .i64 q.xlo, .int .i64 q.xhi, .int .i64 q.ylo, .int .i64 q.yhi]) (.tmp rfl) kd56 sz56 rfl (fun w hS jj v hj => hS.old_cell (fun h => h) (hpq j q hq jj v hj))) ?_
            refine lstep rfl rfl rfl (run_alloc zr56) ?_
            intro b19 _
            refine lstepB rfl rfl rfl (run_assign (.tmp rfl)) ?_
            refine lstep0 rfl rfl (run_storeN (.tmp rfl) (.tmp rfl) rfl sz56 rfl (by repeat (first | exact Upd.here | apply Upd.there)) (by repeat (first | exact Put.done | apply Put.put | apply Put.skip))) ?_
            refine lnil ?_
            refine xw_then ?_
            refine cw_seq ?_
            refine cw_chain2 (σ := [0, 1, 2, 3, 4, 5, 6, 7]) [⟨0, [], [], [], 0⟩, ⟨0, [4], [], [], 1⟩, ⟨0, [], [], [], 0⟩, ⟨0, [], [], [], 0⟩, ⟨0, [3, 2], [], [], 12⟩, ⟨0, [0], [], [], 0⟩, ⟨0, [], [], [], 63⟩, ⟨0, [], [7], [7], 127⟩] [(0, _), (1, _), (2, _), (3, _), (4, _), (5, _), (6, _), (7, _)] (by kernel_rfl) (by kernel_rfl) rfl ?_
            refine .det (B := []) rfl rfl (.inl rfl) .nil .nil rfl (RunB.lr (run_fieldAddr (.tmp rfl) fa25_1 (by first | exact Nat.zero_add _ | exact rfl))) ?_
            refine .det (B := []) rfl rfl (.inl rfl) (.cons rfl .nil) .nil rfl (RunB.lr (run_load1 (.tmp rfl) kd22 (by repeat (first | exact List.Mem.head _ | apply List.Mem.tail)) (by exact rfl))) ?_
            refine .det (B := []) rfl rfl (.inl rfl) .nil .nil rfl (RunB.lr (run_move (.tmp rfl))) ?_
            refine .det (B := []) rfl rfl (.inl rfl) .nil .nil rfl (RunB.lr (run_move (.tmp rfl))) ?_
            refine .det (B := []) rfl rfl (.inl rfl) (.cons rfl (.cons rfl .nil)) .nil rfl (RunB.lr (run_callv1 cb41 (.tmp rfl) (.cons (.tmp rfl) .nil) rfl (fun w hS => (numberK (by omega) (by omega) hc (hS.cell (by repeat (first | exact List.Mem.head _ | apply List.Mem.tail)) rfl) (hS.cell (by repeat (first | exact List.Mem.head _ | apply List.Mem.tail)) rfl)).as (congrArg (Value.int .i64) (fI_up hlt2))))) ?_
            refine .det (B := []) rfl rfl (.inl rfl) (.cons rfl .nil) .nil rfl (RunB.lr (run_loadN (.tmp rfl) kd56 sz56 (by repeat (first | exact List.Mem.head _ | apply List.Mem.tail)) (by repeat (first | exact Sub.done | apply Sub.take | apply Sub.skip)))) ?_
            refine .det (B := []) rfl rfl (.inl rfl) .nil .nil rfl (RunB.lr (run_indexAddr (.tmp rfl) (.tmp rfl) el22 (by omega) rfl)) ?_
            refine .det (B := [(7, (_, _))]) rfl rfl (.inl rfl) .nil (.cons rfl .nil) rfl (lr_storeN (.tmp rfl) (.tmp rfl) rfl sz56 rfl (put_turned hq)) ?_
            refine chain_nil (ts := [0, 1, 2, 3, 4, 5, 6, 7]) (.cons rfl (.cons rfl (.cons rfl (.cons rfl (.cons rfl (.cons rfl (.cons rfl (.cons rfl .nil)))))))) (by decide) ?_
            refine xw_then ?_
            refine cw_seq ?_
            refine cw_chain2 (σ := [0, 1, 2, 3, 4, 5, 6, 7, 8, 9, 10, 11, 12, 13, 14]) [⟨0, [], [], [], 0⟩, ⟨0, [5], [], [], 1⟩, ⟨0, [], [], [], 0⟩, ⟨0, [], [], [], 0⟩, ⟨0, [0], [], [], 8⟩, ⟨0, [1], [], [], 28⟩, ⟨0, [], [], [], 0⟩, ⟨0, [], [], [], 0⟩, ⟨0, [0], [], [], 128⟩, ⟨0, [1], [], [], 508⟩, ⟨0, [], [], [], 1020⟩, ⟨1, [], [], [8], 2044⟩, ⟨1, [8], [], [9], 4095⟩, ⟨0, [], [], [], 8191⟩, ⟨0, [], [5], [5], 16383⟩] [(0, _), (1, _), (2, _), (3, _), (4, _), (5, _), (6, _), (7, _)] (by kernel_rfl) (by kernel_rfl) rfl ?_
            refine .det (B := []) rfl rfl (.inl rfl) .nil .nil rfl (RunB.lr (run_fieldAddr (.tmp rfl) fa25_1 (by first | exact Nat.zero_add _ | exact rfl))) ?_
            refine .det (B := []) rfl rfl (.inl rfl) (.cons rfl .nil) .nil rfl (RunB.lr (run_load1 (.tmp rfl) kd22 (by repeat (first | exact List.Mem.head _ | apply List.Mem.tail)) (by exact rfl))) ?_
            refine .det (B := []) rfl rfl (.inl rfl) .nil .nil rfl (RunB.lr (run_move (.tmp rfl))) ?_
            refine .det (B := []) rfl rfl (.inl rfl) .nil .nil rfl (RunB.lr (run_fieldAddr (.tmp rfl) fa56_0 (by first | exact Nat.zero_add _ | exact rfl))) ?_
            refine .det (B := []) rfl rfl (.inl rfl) (.cons rfl .nil) .nil rfl (RunB.lr (run_loadN (.tmp rfl) kd32 sz32 (by repeat (first | exact List.Mem.head _ | apply List.Mem.tail)) (by repeat (first | exact Sub.done | apply Sub.take | apply Sub.skip)))) ?_
            refine .det (B := []) rfl rfl (.inl rfl) (.cons rfl .nil) .nil rfl (RunB.lr (run_callv1 cb42 (.tmp rfl) (.cons (.tmp rfl) .nil) rfl (fun w hS => leftK (n := p.side) (a := q.xlo) (d := q.xhi) (by omega) (by omega) (by omega) (hS.cell (by repeat (first | exact List.Mem.head _ | apply List.Mem.tail)) rfl)))) ?_
            refine .det (B := []) rfl rfl (.inl rfl) .nil .nil rfl (RunB.lr (run_move (.tmp rfl))) ?_
            refine .det (B := []) rfl rfl (.inl rfl) .nil .nil rfl (RunB.lr (run_fieldAddr (.tmp rfl) fa56_1 (by first | exact Nat.zero_add _ | exact rfl))) ?_
            refine .det (B := []) rfl rfl (.inl rfl) (.cons rfl .nil) .nil rfl (RunB.lr (run_loadN (.tmp rfl) kd32 sz32 (by repeat (first | exact List.Mem.head _ | apply List.Mem.tail)) (by repeat (first | exact Sub.done | apply Sub.take | apply Sub.skip)))) ?_
            refine .det (B := []) rfl rfl (.inl rfl) (.cons rfl .nil) .nil rfl (RunB.lr (run_callv1 cb42 (.tmp rfl) (.cons (.tmp rfl) .nil) rfl (fun w hS => leftK (n := p.side) (a := q.ylo) (d := q.yhi) (by omega) (by omega) (by omega) (hS.cell (by repeat (first | exact List.Mem.head _ | apply List.Mem.tail)) rfl)))) ?_
            refine .det (B := []) rfl rfl (.inl rfl) .nil .nil rfl (RunB.lr (run_build_at (.cons (.tmp rfl) (.cons (.tmp rfl) .nil)) (fun w => bd56_0_1 w))) ?_
            refine .ext (B := fun b => [(8, (b, _))]) rfl rfl (.inl rfl) .nil .nil (fun _ => rfl) ⟨0, trivial⟩ (lr_buildSlice_at (.cons (.tmp rfl) .nil) (fun w => bs22_1_0 w)) ?_
            intro b113 _
            refine .ext (B := fun q => [(9, (q.1, Obj.cells q.2.2.toArray 56 (0, 0)))]) rfl rfl (.inl rfl) (.cons rfl .nil) .nil (fun _ => rfl) (inRow_ne rfl (by decide)) (lr_append_nil ap22 (.tmp rfl) (.tmp rfl) (news := [.int .i64 (p.side - q.xhi), .int .i64 (p.side - q.xlo), .int .i64 (p.side - q.yhi), .int .i64 (p.side - q.ylo)]) rfl (by omega) (by omega) (by decide) (news_own (by repeat (first | exact List.Mem.head _ | apply List.Mem.tail)))) ?_
            rintro ⟨gY2, cY2, rY2⟩ hY2
            refine .det (B := []) rfl rfl (.inl rfl) .nil .nil rfl (RunB.lr (run_fieldAddr (.tmp rfl) fa25_1 (by first | exact Nat.zero_add _ | exact rfl))) ?_
            refine .det (B := [(5, (_, _))]) rfl rfl (.inl rfl) .nil (.cons rfl .nil) rfl (lr_store1 (.tmp rfl) (.tmp rfl) rfl sz22 (by repeat (first | exact Put.done | apply Put.put | apply Put.skip))) ?_
            refine chain_nil (ts := [9, 0, 1, 2, 3, 4, 5, 6, 7]) (.cons rfl (.cons rfl (.cons rfl (.cons rfl (.cons rfl (.cons rfl (.cons rfl (.cons rfl (.cons rfl .nil))))))))) (by decide) ?_
            replace hY2 : InRow 4 (j + 1) cY2 rY2 (postCells ((p.ps.take (j + 1)).map (flipPost p.side))) := by
              rw [flip_at hq, postCells_snoc]
              simp only [hj0, List.take_zero, List.map_nil]; exact hY2
            refine xw_then ?_
            refine cw_region ?_
            refine lstepB rfl rfl rfl (run_fieldAddr (.tmp rfl) fa25_1 (by first | exact Nat.zero_add _ | exact rfl)) ?_
            refine lstepB rfl rfl rfl (run_load1 (.tmp rfl) kd22 (by repeat (first | exact List.Mem.head _ | apply List.Mem.tail)) (by exact rfl)) ?_
            refine lstepB rfl rfl rfl (run_fieldAddr (.tmp rfl) fa56_1 (by first | exact Nat.zero_add _ | exact rfl)) ?_
            refine lstepB rfl rfl rfl (run_loadN (.tmp rfl) kd32 sz32 (by repeat (first | exact List.Mem.head _ | apply List.Mem.tail)) (by repeat (first | exact Sub.done | apply Sub.take | apply Sub.skip))) ?_
            refine lstepB rfl rfl rfl (run_fieldAddr (.tmp rfl) fa56_0 (by first | exact Nat.zero_add _ | exact rfl)) ?_
            refine lstepB rfl rfl rfl (run_loadN (.tmp rfl) kd32 sz32 (by repeat (first | exact List.Mem.head _ | apply List.Mem.tail)) (by repeat (first | exact Sub.done | apply Sub.take | apply Sub.skip))) ?_
            refine lstepB rfl rfl rfl (run_build_at (.cons (.tmp rfl) (.cons (.tmp rfl) .nil)) (fun w => bd56_0_1 w)) ?_
            refine lstep rfl rfl rfl (LR.runs (lr_buildSlice_at (.cons (.tmp rfl) .nil) (fun w => bs22_1_0 w)) (by repeat (first | exact Pick.nil | (apply Pick.cons; focus (repeat (first | exact Del.here | apply Del.there))))) (by repeat (first | exact Dels.nil | (apply Dels.cons; focus (repeat (first | exact Del.here | apply Del.there)))))) ?_
            intro b123 _
            refine lstep rfl rfl rfl (LR.runs (R := [(b123, _)]) (A := []) (lr_append_nil ap22 (.tmp rfl) (.tmp rfl) (news := [.int .i64 q.ylo, .int .i64 q.yhi, .int .i64 q.xlo, .int .i64 q.xhi]) rfl (by omega) (by omega) (by decide) (news_own (by repeat (first | exact List.Mem.head _ | apply List.Mem.tail)))) (by repeat (first | exact Pick.nil | (apply Pick.cons; focus (repeat (first | exact Del.here | apply Del.there))))) (by repeat (first | exact Dels.nil | (apply Dels.cons; focus (repeat (first | exact Del.here | apply Del.there)))))) ?_
            intro ⟨gZ2, cZ2, rZ2⟩ hZ2
            replace hZ2 : InRow 4 (j + 1) cZ2 rZ2 (postCells ((p.ps.take (j + 1)).map swapPost)) := by
              rw [swap_at hq, postCells_snoc]
              simp only [hj0, List.take_zero, List.map_nil]; exact hZ2
            refine lstepB rfl rfl rfl (run_fieldAddr (.tmp rfl) fa25_1 (by first | exact Nat.zero_add _ | exact rfl)) ?_
            refine lstep0 rfl rfl (run_store1 (.tmp rfl) (.tmp rfl) rfl sz22 (by repeat (first | exact Upd.here | apply Upd.there)) (by repeat (first | exact Put.done | apply Put.put | apply Put.skip))) ?_
            refine lnil ?_
            refine xw_in ?_
            refine xw_then ?_
            refine cw_region ?_
            refine lstepB rfl rfl rfl (run_add (.tmp rfl) .const (by first | exact IntWalk.i64_in _ (by omega) | exact rfl)) ?_
            refine lstepB rfl rfl rfl (run_move (.tmp rfl)) ?_
            refine lnil ?_
            subst hj0
            exact xw_round ⟨0 + 1, some (⟨gY2, cY2, rY2⟩, ⟨gZ2, cZ2, rZ2⟩)⟩ ⟨by simp only; omega, (fun h => by cases h), hY2, hZ2⟩ (by simp only; omega) (by repeat (first | exact Less.nil | refine Less.cons rfl ?_)) (by repeat (first | exact Pick.nil | (apply Pick.cons; focus (repeat (first | exact Del.here | apply Del.there)))))
          ·
            have hY : InRow 4 j cY rY (postCells ((p.ps.take j).map (flipPost p.side))) := hY
            have hZ : InRow 4 j cZ rZ (postCells ((p.ps.take j).map swapPost)) := hZ
            refine cw_skip ?_
            refine xw_then ?_
            refine cw_seq ?_
            refine cw_block ?_
            refine cw_seq ?_
            refine cw_region ?_
            refine lstepB rfl rfl rfl (run_move (.tmp rfl)) ?_
            refine lstepB rfl rfl rfl (run_indexAddr (.tmp rfl) (.tmp rfl) el22 (by omega) rfl) ?_
            refine lstepB rfl rfl rfl (run_loadN_at (l := [.int .i64 q.xlo, .int .i64 q.xhi, .int .i64 q.ylo, .int .i64 q.yhi]) (.tmp rfl) kd56 sz56 rfl (fun w hS jj v hj => hS.old_cell (fun h => h) (hpq j q hq jj v hj))) ?_
            refine lstep rfl rfl rfl (run_alloc zr56) ?_
            intro b19 _
            refine lstepB rfl rfl rfl (run_assign (.tmp rfl)) ?_
            refine lstep0 rfl rfl (run_storeN (.tmp rfl) (.tmp rfl) rfl sz56 rfl (by repeat (first | exact Upd.here | apply Upd.there)) (by repeat (first | exact Put.done | apply Put.put | apply Put.skip))) ?_
            refine lnil ?_
            refine xw_then ?_
            refine cw_seq ?_
            refine cw_chain2 (σ := [0, 1, 2, 3, 4, 5, 6, 7]) [⟨0, [], [], [], 0⟩, ⟨0, [4], [], [], 1⟩, ⟨0, [], [], [], 0⟩, ⟨0, [], [], [], 0⟩, ⟨0, [3, 2], [], [], 12⟩, ⟨0, [0], [], [], 0⟩, ⟨0, [], [], [], 63⟩, ⟨0, [], [7], [7], 127⟩] [(0, _), (1, _), (2, _), (3, _), (4, _), (5, _), (6, _), (7, _), (8, _), (9, _)] (by kernel_rfl) (by kernel_rfl) rfl ?_
            refine .det (B := []) rfl rfl (.inl rfl) .nil .nil rfl (RunB.lr (run_fieldAddr (.tmp rfl) fa25_1 (by first | exact Nat.zero_add _ | exact rfl))) ?_
            refine .det (B := []) rfl rfl (.inl rfl) (.cons rfl .nil) .nil rfl (RunB.lr (run_load1 (.tmp rfl) kd22 (by repeat (first | exact List.Mem.head _ | apply List.Mem.tail)) (by exact rfl))) ?_
            refine .det (B := []) rfl rfl (.inl rfl) .nil .nil rfl (RunB.lr (run_move (.tmp rfl))) ?_
            refine .det (B := []) rfl rfl (.inl rfl) .nil .nil rfl (RunB.lr (run_move (.tmp rfl))) ?_
            refine .det (B := []) rfl rfl (.inl rfl) (.cons rfl (.cons rfl .nil)) .nil rfl (RunB.lr (run_callv1 cb41 (.tmp rfl) (.cons (.tmp rfl) .nil) rfl (fun w hS => (numberK (by omega) (by omega) hc (hS.cell (by repeat (first | exact List.Mem.head _ | apply List.Mem.tail)) rfl) (hS.cell (by repeat (first | exact List.Mem.head _ | apply List.Mem.tail)) rfl)).as (congrArg (Value.int .i64) (fI_up hlt2))))) ?_
            refine .det (B := []) rfl rfl (.inl rfl) (.cons rfl .nil) .nil rfl (RunB.lr (run_loadN (.tmp rfl) kd56 sz56 (by repeat (first | exact List.Mem.head _ | apply List.Mem.tail)) (by repeat (first | exact Sub.done | apply Sub.take | apply Sub.skip)))) ?_
            refine .det (B := []) rfl rfl (.inl rfl) .nil .nil rfl (RunB.lr (run_indexAddr (.tmp rfl) (.tmp rfl) el22 (by omega) rfl)) ?_
            refine .det (B := [(7, (_, _))]) rfl rfl (.inl rfl) .nil (.cons rfl .nil) rfl (lr_storeN (.tmp rfl) (.tmp rfl) rfl sz56 rfl (put_turned hq)) ?_
            refine chain_nil (ts := [0, 1, 2, 3, 4, 5, 6, 7, 8, 9]) (.cons rfl (.cons rfl (.cons rfl (.cons rfl (.cons rfl (.cons rfl (.cons rfl (.cons rfl (.cons rfl (.cons rfl .nil)))))))))) (by decide) ?_
            refine xw_then ?_
            refine cw_seq ?_
            refine cw_chain2 (σ := [0, 1, 2, 3, 4, 5, 6, 7, 8, 9, 10, 11, 12, 13, 14]) [⟨0, [], [], [], 0⟩, ⟨0, [5], [], [], 1⟩, ⟨0, [], [], [], 0⟩, ⟨0, [], [], [], 0⟩, ⟨0, [0], [], [], 8⟩, ⟨0, [1], [], [], 28⟩, ⟨0, [], [], [], 0⟩, ⟨0, [], [], [], 0⟩, ⟨0, [0], [], [], 128⟩, ⟨0, [1], [], [], 508⟩, ⟨0, [], [], [], 1020⟩, ⟨1, [], [], [10], 2044⟩, ⟨1, [10], [8], [8], 4095⟩, ⟨0, [], [], [], 8191⟩, ⟨0, [], [5], [5], 16383⟩] [(0, _), (1, _), (2, _), (3, _), (4, _), (5, _), (6, _), (7, _), (8, _), (9, _)] (by kernel_rfl) (by kernel_rfl) rfl ?_
            refine .det (B := []) rfl rfl (.inl rfl) .nil .nil rfl (RunB.lr (run_fieldAddr (.tmp rfl) fa25_1 (by first | exact Nat.zero_add _ | exact rfl))) ?_
            refine .det (B := []) rfl rfl (.inl rfl) (.cons rfl .nil) .nil rfl (RunB.lr (run_load1 (.tmp rfl) kd22 (by repeat (first | exact List.Mem.head _ | apply List.Mem.tail)) (by exact rfl))) ?_
            refine .det (B := []) rfl rfl (.inl rfl) .nil .nil rfl (RunB.lr (run_move (.tmp rfl))) ?_
            refine .det (B := []) rfl rfl (.inl rfl) .nil .nil rfl (RunB.lr (run_fieldAddr (.tmp rfl) fa56_0 (by first | exact Nat.zero_add _ | exact rfl))) ?_
            refine .det (B := []) rfl rfl (.inl rfl) (.cons rfl .nil) .nil rfl (RunB.lr (run_loadN (.tmp rfl) kd32 sz32 (by repeat (first | exact List.Mem.head _ | apply List.Mem.tail)) (by repeat (first | exact Sub.done | apply Sub.take | apply Sub.skip)))) ?_
            refine .det (B := []) rfl rfl (.inl rfl) (.cons rfl .nil) .nil rfl (RunB.lr (run_callv1 cb42 (.tmp rfl) (.cons (.tmp rfl) .nil) rfl (fun w hS => leftK (n := p.side) (a := q.xlo) (d := q.xhi) (by omega) (by omega) (by omega) (hS.cell (by repeat (first | exact List.Mem.head _ | apply List.Mem.tail)) rfl)))) ?_
            refine .det (B := []) rfl rfl (.inl rfl) .nil .nil rfl (RunB.lr (run_move (.tmp rfl))) ?_
            refine .det (B := []) rfl rfl (.inl rfl) .nil .nil rfl (RunB.lr (run_fieldAddr (.tmp rfl) fa56_1 (by first | exact Nat.zero_add _ | exact rfl))) ?_
            refine .det (B := []) rfl rfl (.inl rfl) (.cons rfl .nil) .nil rfl (RunB.lr (run_loadN (.tmp rfl) kd32 sz32 (by repeat (first | exact List.Mem.head _ | apply List.Mem.tail)) (by repeat (first | exact Sub.done | apply Sub.take | apply Sub.skip)))) ?_
            refine .det (B := []) rfl rfl (.inl rfl) (.cons rfl .nil) .nil rfl (RunB.lr (run_callv1 cb42 (.tmp rfl) (.cons (.tmp rfl) .nil) rfl (fun w hS => leftK (n := p.side) (a := q.ylo) (d := q.yhi) (by omega) (by omega) (by omega) (hS.cell (by repeat (first | exact List.Mem.head _ | apply List.Mem.tail)) rfl)))) ?_
            refine .det (B := []) rfl rfl (.inl rfl) .nil .nil rfl (RunB.lr (run_build_at (.cons (.tmp rfl) (.cons (.tmp rfl) .nil)) (fun w => bd56_0_1 w))) ?_
            refine .ext (B := fun b => [(10, (b, _))]) rfl rfl (.inl rfl) .nil .nil (fun _ => rfl) ⟨0, trivial⟩ (lr_buildSlice_at (.cons (.tmp rfl) .nil) (fun w => bs22_1_0 w)) ?_
            intro b113 _
            refine .ext (B := fun q => [(8, (q.1, Obj.cells q.2.2.toArray 56 (0, 0)))]) rfl rfl (.inl rfl) (.cons rfl .nil) (.cons rfl .nil) (fun _ => rfl) (inRow_ne (m := j + 1) (by simp only [List.length_append, postCells_length, List.length_map, List.length_take, List.length_cons, List.length_nil]; omega) (by unfold maxLen; omega)) (lr_append_row ap22 (.tmp rfl) hY (.tmp rfl) (news := [.int .i64 (p.side - q.xhi), .int .i64 (p.side - q.xlo), .int .i64 (p.side - q.yhi), .int .i64 (p.side - q.ylo)]) rfl rfl (by omega) (by unfold maxLen; omega) (news_own (by repeat (first | exact List.Mem.head _ | apply List.Mem.tail)))) ?_
            rintro ⟨gY2, cY2, rY2⟩ hY2
            refine .det (B := []) rfl rfl (.inl rfl) .nil .nil rfl (RunB.lr (run_fieldAddr (.tmp rfl) fa25_1 (by first | exact Nat.zero_add _ | exact rfl))) ?_
            refine .det (B := [(5, (_, _))]) rfl rfl (.inl rfl) .nil (.cons rfl .nil) rfl (lr_store1 (.tmp rfl) (.tmp rfl) rfl sz22 (by repeat (first | exact Put.done | apply Put.put | apply Put.skip))) ?_
            refine chain_nil (ts := [0, 1, 2, 3, 4, 5, 6, 7, 8, 9]) (.cons rfl (.cons rfl (.cons rfl (.cons rfl (.cons rfl (.cons rfl (.cons rfl (.cons rfl (.cons rfl (.cons rfl .nil)))))))))) (by decide) ?_
            replace hY2 : InRow 4 (j + 1) cY2 rY2 (postCells ((p.ps.take (j + 1)).map (flipPost p.side))) := by
              rw [flip_at hq, postCells_snoc]
              exact hY2
            refine xw_then ?_
            refine cw_region ?_
            refine lstepB rfl rfl rfl (run_fieldAddr (.tmp rfl) fa25_1 (by first | exact Nat.zero_add _ | exact rfl)) ?_
            refine lstepB rfl rfl rfl (run_load1 (.tmp rfl) kd22 (by repeat (first | exact List.Mem.head _ | apply List.Mem.tail)) (by exact rfl)) ?_
            refine lstepB rfl rfl rfl (run_fieldAddr (.tmp rfl) fa56_1 (by first | exact Nat.zero_add _ | exact rfl)) ?_
            refine lstepB rfl rfl rfl (run_loadN (.tmp rfl) kd32 sz32 (by repeat (first | exact List.Mem.head _ | apply List.Mem.tail)) (by repeat (first | exact Sub.done | apply Sub.take | apply Sub.skip))) ?_
            refine lstepB rfl rfl rfl (run_fieldAddr (.tmp rfl) fa56_0 (by first | exact Nat.zero_add _ | exact rfl)) ?_
            refine lstepB rfl rfl rfl (run_loadN (.tmp rfl) kd32 sz32 (by repeat (first | exact List.Mem.head _ | apply List.Mem.tail)) (by repeat (first | exact Sub.done | apply Sub.take | apply Sub.skip))) ?_
            refine lstepB rfl rfl rfl (run_build_at (.cons (.tmp rfl) (.cons (.tmp rfl) .nil)) (fun w => bd56_0_1 w)) ?_
            refine lstep rfl rfl rfl (LR.runs (lr_buildSlice_at (.cons (.tmp rfl) .nil) (fun w => bs22_1_0 w)) (by repeat (first | exact Pick.nil | (apply Pick.cons; focus (repeat (first | exact Del.here | apply Del.there))))) (by repeat (first | exact Dels.nil | (apply Dels.cons; focus (repeat (first | exact Del.here | apply Del.there)))))) ?_
            intro b123 _
            refine lstep rfl rfl rfl (LR.runs (R := [(b123, _)]) (A := [(gZ, _)]) (lr_append_row ap22 (.tmp rfl) hZ (.tmp rfl) (news := [.int .i64 q.ylo, .int .i64 q.yhi, .int .i64 q.xlo, .int .i64 q.xhi]) rfl rfl (by omega) (by unfold maxLen; omega) (news_own (by repeat (first | exact List.Mem.head _ | apply List.Mem.tail)))) (by repeat (first | exact Pick.nil | (apply Pick.cons; focus (repeat (first | exact Del.here | apply Del.there))))) (by repeat (first | exact Dels.nil | (apply Dels.cons; focus (repeat (first | exact Del.here | apply Del.there)))))) ?_
            intro ⟨gZ2, cZ2, rZ2⟩ hZ2
            replace hZ2 : InRow 4 (j + 1) cZ2 rZ2 (postCells ((p.ps.take (j + 1)).map swapPost)) := by
              rw [swap_at hq, postCells_snoc]
              exact hZ2
            refine lstepB rfl rfl rfl (run_fieldAddr (.tmp rfl) fa25_1 (by first | exact Nat.zero_add _ | exact rfl)) ?_
            refine lstep0 rfl rfl (run_store1 (.tmp rfl) (.tmp rfl) rfl sz22 (by repeat (first | exact Upd.here | apply Upd.there)) (by repeat (first | exact Put.done | apply Put.put | apply Put.skip))) ?_
            refine lnil ?_
            refine xw_in ?_
            refine xw_then ?_
            refine cw_region ?_
            refine lstepB rfl rfl rfl (run_add (.tmp rfl) .const (by first | exact IntWalk.i64_in _ (by omega) | exact rfl)) ?_
            refine lstepB rfl rfl rfl (run_move (.tmp rfl)) ?_
            refine lnil ?_
            exact xw_round ⟨j + 1, some (⟨gY2, cY2, rY2⟩, ⟨gZ2, cZ2, rZ2⟩)⟩ ⟨by simp only; omega, (fun h => by cases h), hY2, hZ2⟩ (by simp only; omega) (by repeat (first | exact Less.nil | refine Less.cons rfl ?_)) (by repeat (first | exact Pick.nil | (apply Pick.cons; focus (repeat (first | exact Del.here | apply Del.there)))))
        ·
          have hjn : j = p.ps.length := by have h : ¬ ((j : Int) < (p.ps.length : Int)) := hge; omega
          subst hjn
          clear hge hj
          rcases o with _ | ⟨⟨gY, cY, rY⟩, ⟨gZ, cZ, rZ⟩⟩
          ·
            exact absurd (ho rfl) hn0
          ·
            have hY : InRow 4 p.ps.length cY rY (postCells (p.ps.map (flipPost p.side))) := by have h := hY; rw [List.take_length] at h; exact h
            have hZ : InRow 4 p.ps.length cZ rZ (postCells (p.ps.map swapPost)) := by have h := hZ; rw [List.take_length] at h; exact h
            clear ho
            refine cw_exit ?_
            refine xw_then_exit ?_
            refine xw_then_exit ?_
            refine xw_in_exit ?_
            refine xw_then ?_
            refine cw_seq ?_
            refine cw_seq ?_
            refine cw_region ?_
            refine lstepB rfl rfl rfl (run_fieldAddr (.tmp rfl) fa25_2 (by first | exact Nat.zero_add _ | exact rfl)) ?_
            refine lstepB rfl rfl rfl (run_load1 (.tmp rfl) kd23 (by repeat (first | exact List.Mem.head _ | apply List.Mem.tail)) (by exact rfl)) ?_
            refine lstepB rfl rfl rfl (run_len (.tmp rfl) sl23) ?_
            refine lstepB rfl rfl rfl (run_move .const) ?_
            refine lnil ?_
            refine xw_then ?_
            refine cw_block ?_
            refine cw_loop (S := V2) (fun s => [(130, .int .i64 (s.j : Int))]) [(1, _), (2, _), (3, _), (5, _), (9, _), (11, _), (12, _), (13, _), (14, _), (15, _), (16, _), (17, _), (129, _)] (fun s => [(b5, Obj.cells [.int .i64 p.side, .slice (some ⟨pb, po, none⟩) p.ps.length pc, .slice la p.ls.length lc].toArray 25 (0, 0)), (b9, Obj.cells [.int .u8 (c : Int)].toArray 5 (0, 0)), (b11, Obj.cells [.int .i64 (p.ps.length : Int)].toArray 3 (0, 0)), (b15, Obj.cells [.int .i64 p.side, .slice (some ⟨gX, 0, none⟩) p.ps.length p.ps.length, rowV s.o s.j].toArray 25 (0, 0)), (b16, Obj.cells [.int .i64 p.side, .slice (some ⟨gY, 0, none⟩) p.ps.length cY, .slice la p.ls.length lc].toArray 25 (0, 0)), (b17, Obj.cells [.int .i64 p.side, .slice (some ⟨gZ, 0, none⟩) p.ps.length cZ, .slice la p.ls.length lc].toArray 25 (0, 0)), (gX, Obj.cells (postCells (turnedTo p c p.ps.length)).toArray 56 (0, 0)), (gY, Obj.cells rY.toArray 56 (0, 0)), (gZ, Obj.cells rZ.toArray 56 (0, 0))] ++ rowH s.o 65) (fun s => s.ok p c) (fun s => p.ls.length - s.j) ⟨0, none⟩ ⟨Nat.zero_le _, fun _ => rfl, ⟨rfl, rfl⟩⟩ (by repeat (first | exact Less.nil | refine Less.cons rfl ?_)) (by repeat (first | exact Pick.nil | (apply Pick.cons; focus (repeat (first | exact Del.here | apply Del.there))))) ?_
            intro s hs
            obtain ⟨j, o⟩ := s
            obtain ⟨hj, ho, hL⟩ := hs
            simp only at hj ho hL
            dsimp only
            refine cw_seq ?_
            refine cw_region ?_
            refine lstepB rfl rfl rfl (run_lss (.tmp rfl) (.tmp rfl) (by first | exact decide_eq_true (by omega) | exact decide_eq_false (by omega) | exact rfl)) ?_
            refine lnil ?_
            refine xw_then ?_
            refine cw_seq ?_
            refine cw_cond_p (.tmp rfl) (fun hlt => ?_) (fun hge => ?_)
            ·
              have hlt2 : j < p.ls.length := Int.ofNat_lt.1 hlt
              obtain ⟨l, hl⟩ : ∃ l, p.ls[p.ls.length - 1 - j]? = some l := ⟨_, List.getElem?_eq_getElem (by omega)⟩
              obtain ⟨lb, lo, hla, hlb, hlq⟩ := lensIn_at hp.2 (by omega)
              subst hla
              have hl6 := hf.l6
              rcases o with _ | ⟨gL, cL, rL⟩
              ·
                have hj0 : j = 0 := ho rfl
                refine cw_skip ?_
                refine xw_then ?_
                refine cw_seq ?_
                refine cw_block ?_
                refine cw_seq ?_
                refine cw_region ?_
                refine lstepB rfl rfl rfl (run_move (.tmp rfl)) ?_
                refine lstepB rfl rfl rfl (run_assign (.tmp rfl)) ?_
                refine lnil ?_
                refine xw_then ?_
                refine cw_seq ?_
                refine cw_region ?_
                refine lstepB rfl rfl rfl (run_fieldAddr (.tmp rfl) fa25_2 (by first | exact Nat.zero_add _ | exact rfl)) ?_
                refine lstepB rfl rfl rfl (run_load1 (.tmp rfl) kd23 (by repeat (first | exact List.Mem.head _ | apply List.Mem.tail)) (by exact rfl)) ?_
                refine lstepB rfl rfl rfl (run_move (.tmp rfl)) ?_
                refine lstepB rfl rfl rfl (run_sub (.tmp rfl) .const (by first | exact IntWalk.i64_in _ (by omega) | exact rfl)) ?_
                refine lstepB rfl rfl rfl (run_move (.tmp rfl)) ?_
                refine lstepB rfl rfl rfl (run_sub (.tmp rfl) (.tmp rfl) (show IntKind.i64.wrap ((p.ls.length : Int) - 1 - (j : Int)) = ((p.ls.length - 1 - j : Nat) : Int) from (IntWalk.i64_in _ (by omega)).trans (by omega))) ?_
                refine lstepB rfl rfl rfl (run_indexAddr (.tmp rfl) (.tmp rfl) el23 (by omega) rfl) ?_
                refine lstepB rfl rfl rfl (run_loadN_at (l := [.int .i64 l.a, .int .i64 l.b, .int .i64 l.lo, .int .i64 l.hi]) (.tmp rfl) kd65 sz65 rfl (fun w hS jj v hj => hS.old_cell (fun h => h) (hlq _ l hl jj v hj))) ?_
                refine lstep rfl rfl rfl (run_alloc zr65) ?_
                intro b21 _
                refine lstep0 rfl rfl (run_storeN (.tmp rfl) (.tmp rfl) rfl sz65 rfl (by repeat (first | exact Upd.here | apply Upd.there)) (by repeat (first | exact Put.done | apply Put.put | apply Put.skip))) ?_
                refine lnil ?_
                refine xw_then ?_
                refine cw_chain2 (σ := [0, 1, 2, 3, 4, 5, 6, 7, 8, 9, 10, 11, 12, 13, 14, 15, 16]) [⟨0, [], [], [], 0⟩, ⟨0, [4], [], [], 1⟩, ⟨0, [], [], [], 0⟩, ⟨0, [], [], [], 0⟩, ⟨0, [0], [], [], 8⟩, ⟨0, [3, 2], [], [], 28⟩, ⟨0, [], [], [], 0⟩, ⟨0, [], [], [], 0⟩, ⟨0, [0], [], [], 128⟩, ⟨0, [3, 2], [], [], 508⟩, ⟨0, [], [], [], 0⟩, ⟨0, [0], [], [], 1024⟩, ⟨0, [], [], [], 4092⟩, ⟨1, [], [], [10], 8188⟩, ⟨1, [10], [], [11], 16383⟩, ⟨0, [], [], [], 32767⟩, ⟨0, [], [4], [4], 65535⟩] [(0, _), (1, _), (2, _), (3, _), (4, _), (5, _), (6, _), (7, _), (8, _), (9, _)] (by kernel_rfl) (by kernel_rfl) rfl ?_
                refine .det (B := []) rfl rfl (.inl rfl) .nil .nil rfl (RunB.lr (run_fieldAddr (.tmp rfl) fa25_2 (by first | exact Nat.zero_add _ | exact rfl))) ?_
                refine .det (B := []) rfl rfl (.inl rfl) (.cons rfl .nil) .nil rfl (RunB.lr (run_load1 (.tmp rfl) kd23 (by repeat (first | exact List.Mem.head _ | apply List.Mem.tail)) (by exact rfl))) ?_
                refine .det (B := []) rfl rfl (.inl rfl) .nil .nil rfl (RunB.lr (run_move (.tmp rfl))) ?_
                refine .det (B := []) rfl rfl (.inl rfl) .nil .nil rfl (RunB.lr (run_fieldAddr (.tmp rfl) fa65_1 (by first | exact Nat.zero_add _ | exact rfl))) ?_
                refine .det (B := []) rfl rfl (.inl rfl) (.cons rfl .nil) .nil rfl (RunB.lr (run_load1 (.tmp rfl) kd3 (by repeat (first | exact List.Mem.head _ | apply List.Mem.tail)) (by exact rfl))) ?_
                refine .det (B := []) rfl rfl (.inl rfl) (.cons rfl (.cons rfl .nil)) .nil rfl (RunB.lr (run_callv1 cb41 (.tmp rfl) (.cons (.tmp rfl) .nil) rfl (fun w hS => (numberK (by omega) (by omega) hc (hS.cell (by repeat (first | exact List.Mem.head _ | apply List.Mem.tail)) rfl) (hS.cell (by repeat (first | exact List.Mem.head _ | apply List.Mem.tail)) rfl))))) ?_
                refine .det (B := []) rfl rfl (.inl rfl) .nil .nil rfl (RunB.lr (run_move (.tmp rfl))) ?_
                refine .det (B := []) rfl rfl (.inl rfl) .nil .nil rfl (RunB.lr (run_fieldAddr (.tmp rfl) fa65_0 (by first | exact Nat.zero_add _ | exact rfl))) ?_
                refine .det (B := []) rfl rfl (.inl rfl) (.cons rfl .nil) .nil rfl (RunB.lr (run_load1 (.tmp rfl) kd3 (by repeat (first | exact List.Mem.head _ | apply List.Mem.tail)) (by exact rfl))) ?_
                refine .det (B := []) rfl rfl (.inl rfl) (.cons rfl (.cons rfl .nil)) .nil rfl (RunB.lr (run_callv1 cb41 (.tmp rfl) (.cons (.tmp rfl) .nil) rfl (fun w hS => (numberK (by omega) (by omega) hc (hS.cell (by repeat (first | exact List.Mem.head _ | apply List.Mem.tail)) rfl) (hS.cell (by repeat (first | exact List.Mem.head _ | apply List.Mem.tail)) rfl))))) ?_
                refine .det (B := []) rfl rfl (.inl rfl) .nil .nil rfl (RunB.lr (run_fieldAddr (.tmp rfl) fa65_2 (by first | exact Nat.zero_add _ | exact rfl))) ?_
                refine .det (B := []) rfl rfl (.inl rfl) (.cons rfl .nil) .nil rfl (RunB.lr (run_loadN (.tmp rfl) kd32 sz32 (by repeat (first | exact List.Mem.head _ | apply List.Mem.tail)) (by repeat (first | exact Sub.done | apply Sub.take | apply Sub.skip)))) ?_
                refine .det (B := []) rfl rfl (.inl rfl) .nil .nil rfl (RunB.lr (run_build_at (.cons (.tmp rfl) (.cons (.tmp rfl) (.cons (.tmp rfl) .nil))) (fun w => bd65_0_1_2 w))) ?_
                refine .ext (B := fun b => [(10, (b, _))]) rfl rfl (.inl rfl) .nil .nil (fun _ => rfl) ⟨0, trivial⟩ (lr_buildSlice_at (.cons (.tmp rfl) .nil) (fun w => bs23_1_0 w)) ?_
                intro b154 _
                refine .ext (B := fun q => [(11, (q.1, Obj.cells q.2.2.toArray 65 (0, 0)))]) rfl rfl (.inl rfl) (.cons rfl .nil) .nil (fun _ => rfl) (inRow_ne rfl (by decide)) (lr_append_nil ap23 (.tmp rfl) (.tmp rfl) (news := [.int .i64 (fI (up p.ps.length c) p.ps.length l.b), .int .i64 (fI (up p.ps.length c) p.ps.length l.a), .int .i64 l.lo, .int .i64 l.hi]) rfl (by omega) (by omega) (by decide) (news_own (by repeat (first | exact List.Mem.head _ | apply List.Mem.tail)))) ?_
                rintro ⟨gL2, cL2, rL2⟩ hL2
                refine .det (B := []) rfl rfl (.inl rfl) .nil .nil rfl (RunB.lr (run_fieldAddr (.tmp rfl) fa25_2 (by first | exact Nat.zero_add _ | exact rfl))) ?_
                refine .det (B := [(4, (_, _))]) rfl rfl (.inl rfl) .nil (.cons rfl .nil) rfl (lr_store1 (.tmp rfl) (.tmp rfl) rfl sz23 (by repeat (first | exact Put.done | apply Put.put | apply Put.skip))) ?_
                refine chain_nil (ts := [11, 0, 1, 2, 3, 4, 5, 6, 7, 8, 9]) (.cons rfl (.cons rfl (.cons rfl (.cons rfl (.cons rfl (.cons rfl (.cons rfl (.cons rfl (.cons rfl (.cons rfl (.cons rfl .nil))))))))))) (by decide) ?_
                replace hL2 : InRow 4 (j + 1) cL2 rL2 (lenCells ((p.ls.reverse.take (j + 1)).map (turnLen p.ps.length c))) := by
                  rw [turn_at hlt2 hl, lenCells_snoc]
                  simp only [hj0, List.take_zero, List.map_nil]; exact hL2
                refine xw_in ?_
                refine xw_then ?_
                refine cw_region ?_
                refine lstepB rfl rfl rfl (run_add (.tmp rfl) .const (by first | exact IntWalk.i64_in _ (by omega) | exact rfl)) ?_
                refine lstepB rfl rfl rfl (run_move (.tmp rfl)) ?_
                refine lnil ?_
                subst hj0
                exact xw_round ⟨0 + 1, some ⟨gL2, cL2, rL2⟩⟩ ⟨by simp only; omega, (fun h => by cases h), hL2⟩ (by simp only; omega) (by repeat (first | exact Less.nil | refine Less.cons rfl ?_)) (by repeat (first | exact Pick.nil | (apply Pick.cons; focus (repeat (first | exact Del.here | apply Del.there)))))
              ·
                have hL : InRow 4 j cL rL (lenCells ((p.ls.reverse.take j).map (turnLen p.ps.length c))) := hL
                refine cw_skip ?_
                refine xw_then ?_
                refine cw_seq ?_
                refine cw_block ?_
                refine cw_seq ?_
                refine cw_region ?_
                refine lstepB rfl rfl rfl (run_move (.tmp rfl)) ?_
                refine lstepB rfl rfl rfl (run_assign (.tmp rfl)) ?_
                refine lnil ?_
                refine xw_then ?_
                refine cw_seq ?_
                refine cw_region ?_
                refine lstepB rfl rfl rfl (run_fieldAddr (.tmp rfl) fa25_2 (by first | exact Nat.zero_add _ | exact rfl)) ?_
                refine lstepB rfl rfl rfl (run_load1 (.tmp rfl) kd23 (by repeat (first | exact List.Mem.head _ | apply List.Mem.tail)) (by exact rfl)) ?_
                refine lstepB rfl rfl rfl (run_move (.tmp rfl)) ?_
                refine lstepB rfl rfl rfl (run_sub (.tmp rfl) .const (by first | exact IntWalk.i64_in _ (by omega) | exact rfl)) ?_
                refine lstepB rfl rfl rfl (run_move (.tmp rfl)) ?_
                refine lstepB rfl rfl rfl (run_sub (.tmp rfl) (.tmp rfl) (show IntKind.i64.wrap ((p.ls.length : Int) - 1 - (j : Int)) = ((p.ls.length - 1 - j : Nat) : Int) from (IntWalk.i64_in _ (by omega)).trans (by omega))) ?_
                refine lstepB rfl rfl rfl (run_indexAddr (.tmp rfl) (.tmp rfl) el23 (by omega) rfl) ?_
                refine lstepB rfl rfl rfl (run_loadN_at (l := [.int .i64 l.a, .int .i64 l.b, .int .i64 l.lo, .int .i64 l.hi]) (.tmp rfl) kd65 sz65 rfl (fun w hS jj v hj => hS.old_cell (fun h => h) (hlq _ l hl jj v hj))) ?_
                refine lstep rfl rfl rfl (run_alloc zr65) ?_
                intro b21 _
                refine lstep0 rfl rfl (run_storeN (.tmp rfl) (.tmp rfl) rfl sz65 rfl (by repeat (first | exact Upd.here | apply Upd.there)) (by repeat (first | exact Put.done | apply Put.put | apply Put.skip))) ?_
                refine lnil ?_
                refine xw_then ?_
                refine cw_chain2 (σ := [0, 1, 2, 3, 4, 5, 6, 7, 8, 9, 10, 11, 12, 13, 14, 15, 16]) [⟨0, [], [], [], 0⟩, ⟨0, [4], [], [], 1⟩, ⟨0, [], [], [], 0⟩, ⟨0, [], [], [], 0⟩, ⟨0, [0], [], [], 8⟩, ⟨0, [3, 2], [], [], 28⟩, ⟨0, [], [], [], 0⟩, ⟨0, [], [], [], 0⟩, ⟨0, [0], [], [], 128⟩, ⟨0, [3, 2], [], [], 508⟩, ⟨0, [], [], [], 0⟩, ⟨0, [0], [], [], 1024⟩, ⟨0, [], [], [], 4092⟩, ⟨1, [], [], [11], 8188⟩, ⟨1, [11], [10], [10], 16383⟩, ⟨0, [], [], [], 32767⟩, ⟨0, [], [4], [4], 65535⟩] [(0, _), (1, _), (2, _), (3, _), (4, _), (5, _), (6, _), (7, _), (8, _), (9, _), (10, _)] (by kernel_rfl) (by kernel_rfl) rfl ?_
                refine .det (B := []) rfl rfl (.inl rfl) .nil .nil rfl (RunB.lr (run_fieldAddr (.tmp rfl) fa25_2 (by first | exact Nat.zero_add _ | exact rfl))) ?_
                refine .det (B := []) rfl rfl (.inl rfl) (.cons rfl .nil) .nil rfl (RunB.lr (run_load1 (.tmp rfl) kd23 (by repeat (first | exact List.Mem.head _ | apply List.Mem.tail)) (by exact rfl))) ?_
                refine .det (B := []) rfl rfl (.inl rfl) .nil .nil rfl (RunB.lr (run_move (.tmp rfl))) ?_
                refine .det (B := []) rfl rfl (.inl rfl) .nil .nil rfl (RunB.lr (run_fieldAddr (.tmp rfl) fa65_1 (by first | exact Nat.zero_add _ | exact rfl))) ?_
                refine .det (B := []) rfl rfl (.inl rfl) (.cons rfl .nil) .nil rfl (RunB.lr (run_load1 (.tmp rfl) kd3 (by repeat (first | exact List.Mem.head _ | apply List.Mem.tail)) (by exact rfl))) ?_
                refine .det (B := []) rfl rfl (.inl rfl) (.cons rfl (.cons rfl .nil)) .nil rfl (RunB.lr (run_callv1 cb41 (.tmp rfl) (.cons (.tmp rfl) .nil) rfl (fun w hS => (numberK (by omega) (by omega) hc (hS.cell (by repeat (first | exact List.Mem.head _ | apply List.Mem.tail)) rfl) (hS.cell (by repeat (first | exact List.Mem.head _ | apply List.Mem.tail)) rfl))))) ?_
                refine .det (B := []) rfl rfl (.inl rfl) .nil .nil rfl (RunB.lr (run_move (.tmp rfl))) ?_
                refine .det (B := []) rfl rfl (.inl rfl) .nil .nil rfl (RunB.lr (run_fieldAddr (.tmp rfl) fa65_0 (by first | exact Nat.zero_add _ | exact rfl))) ?_
                refine .det (B := []) rfl rfl (.inl rfl) (.cons rfl .nil) .nil rfl (RunB.lr (run_load1 (.tmp rfl) kd3 (by repeat (first | exact List.Mem.head _ | apply List.Mem.tail)) (by exact rfl))) ?_
                refine .det (B := []) rfl rfl (.inl rfl) (.cons rfl (.cons rfl .nil)) .nil rfl (RunB.lr (run_callv1 cb41 (.tmp rfl) (.cons (.tmp rfl) .nil) rfl (fun w hS => (numberK (by omega) (by omega) hc (hS.cell (by repeat (first | exact List.Mem.head _ | apply List.Mem.tail)) rfl) (hS.cell (by repeat (first | exact List.Mem.head _ | apply List.Mem.tail)) rfl))))) ?_
                refine .det (B := []) rfl rfl (.inl rfl) .nil .nil rfl (RunB.lr (run_fieldAddr (.tmp rfl) fa65_2 (by first | exact Nat.zero_add _ | exact rfl))) ?_
                refine .det (B := []) rfl rfl (.inl rfl) (.cons rfl .nil) .nil rfl (RunB.lr (run_loadN (.tmp rfl) kd32 sz32 (by repeat (first | exact List.Mem.head _ | apply List.Mem.tail)) (by repeat (first | exact Sub.done | apply Sub.take | apply Sub.skip)))) ?_
                refine .det (B := []) rfl rfl (.inl rfl) .nil .nil rfl (RunB.lr (run_build_at (.cons (.tmp rfl) (.cons (.tmp rfl) (.cons (.tmp rfl) .nil))) (fun w => bd65_0_1_2 w))) ?_
                refine .ext (B := fun b => [(11, (b, _))]) rfl rfl (.inl rfl) .nil .nil (fun _ => rfl) ⟨0, trivial⟩ (lr_buildSlice_at (.cons (.tmp rfl) .nil) (fun w => bs23_1_0 w)) ?_
                intro b154 _
                refine .ext (B := fun q => [(10, (q.1, Obj.cells q.2.2.toArray 65 (0, 0)))]) rfl rfl (.inl rfl) (.cons rfl .nil) (.cons rfl .nil) (fun _ => rfl) (inRow_ne (m := j + 1) (by simp only [List.length_append, lenCells_length, List.length_map, List.length_take, List.length_reverse, List.length_cons, List.length_nil]; omega) (by unfold maxLen; omega)) (lr_append_row ap23 (.tmp rfl) hL (.tmp rfl) (news := [.int .i64 (fI (up p.ps.length c) p.ps.length l.b), .int .i64 (fI (up p.ps.length c) p.ps.length l.a), .int .i64 l.lo, .int .i64 l.hi]) rfl rfl (by omega) (by unfold maxLen; omega) (news_own (by repeat (first | exact List.Mem.head _ | apply List.Mem.tail)))) ?_
                rintro ⟨gL2, cL2, rL2⟩ hL2
                refine .det (B := []) rfl rfl (.inl rfl) .nil .nil rfl (RunB.lr (run_fieldAddr (.tmp rfl) fa25_2 (by first | exact Nat.zero_add _ | exact rfl))) ?_
                refine .det (B := [(4, (_, _))]) rfl rfl (.inl rfl) .nil (.cons rfl .nil) rfl (lr_store1 (.tmp rfl) (.tmp rfl) rfl sz23 (by repeat (first | exact Put.done | apply Put.put | apply Put.skip))) ?_
                refine chain_nil (ts := [0, 1, 2, 3, 4, 5, 6, 7, 8, 9, 10]) (.cons rfl (.cons rfl (.cons rfl (.cons rfl (.cons rfl (.cons rfl (.cons rfl (.cons rfl (.cons rfl (.cons rfl (.cons rfl .nil))))))))))) (by decide) ?_
                replace hL2 : InRow 4 (j + 1) cL2 rL2 (lenCells ((p.ls.reverse.take (j + 1)).map (turnLen p.ps.length c))) := by
                  rw [turn_at hlt2 hl, lenCells_snoc]
                  exact hL2
                refine xw_in ?_
                refine xw_then ?_
                refine cw_region ?_
                refine lstepB rfl rfl rfl (run_add (.tmp rfl) .const (by first | exact IntWalk.i64_in _ (by omega) | exact rfl)) ?_
                refine lstepB rfl rfl rfl (run_move (.tmp rfl)) ?_
                refine lnil ?_
                exact xw_round ⟨j + 1, some ⟨gL2, cL2, rL2⟩⟩ ⟨by simp only; omega, (fun h => by cases h), hL2⟩ (by simp only; omega) (by repeat (first | exact Less.nil | refine Less.cons rfl ?_)) (by repeat (first | exact Pick.nil | (apply Pick.cons; focus (repeat (first | exact Del.here | apply Del.there)))))
            ·
              have hjl : j = p.ls.length := by have h : ¬ ((j : Int) < (p.ls.length : Int)) := hge; omega
              subst hjl
              clear hge hj ho
              replace hL : rowIs o 4 p.ls.length (lenCells (p.ls.reverse.map (turnLen p.ps.length c))) := by have h := hL; rw [List.take_of_length_le (by simp)] at h; exact h
              refine cw_exit ?_
              refine xw_then_exit ?_
              refine xw_then_exit ?_
              refine xw_in_exit ?_
              refine xw_then ?_
              refine cw_seq ?_
              rw [rowV_eq hL]
              refine cw_base2 (fun w1 hS1 => ?_)
              have hB1 : Below w.heap.size w w1 := hS1.kept
              have hp1 := hp.kept hB1
              have hx1 := pegs_turned (hS1.own (gX, _) (by repeat (first | exact List.Mem.head _ | apply List.Mem.tail))).1 (by omega) (fun z hz => (hS1.own z (List.mem_append_right _ hz)).1) hL
              have hy1 := pegs_flip (hS1.own (gY, _) (by repeat (first | exact List.Mem.head _ | apply List.Mem.tail))).1 hY hp1.2
              have hz1 := pegs_swap (hS1.own (gZ, _) (by repeat (first | exact List.Mem.head _ | apply List.Mem.tail))).1 hZ hp1.2
              have c5 : ∀ j v, [Value.int .i64 p.side, .slice (some ⟨pb, po, none⟩) p.ps.length pc, .slice la p.ls.length lc][j]? = some v → w1.cell? ⟨b5, 0 + j, none⟩ = some v := fun j v h => hS1.cell (by repeat (first | exact List.Mem.head _ | apply List.Mem.tail)) (by rw [Nat.zero_add]; exact h)
              have c15 : ∀ j v, [Value.int .i64 p.side, .slice (some ⟨gX, 0, none⟩) p.ps.length p.ps.length, .slice (rowA o) p.ls.length (rowC o)][j]? = some v → w1.cell? ⟨b15, 0 + j, none⟩ = some v := fun j v h => hS1.cell (by repeat (first | exact List.Mem.head _ | apply List.Mem.tail)) (by rw [Nat.zero_add]; exact h)
              have c16 : ∀ j v, [Value.int .i64 p.side, .slice (some ⟨gY, 0, none⟩) p.ps.length cY, .slice la p.ls.length lc][j]? = some v → w1.cell? ⟨b16, 0 + j, none⟩ = some v := fun j v h => hS1.cell (by repeat (first | exact List.Mem.head _ | apply List.Mem.tail)) (by rw [Nat.zero_add]; exact h)
              have c17 : ∀ j v, [Value.int .i64 p.side, .slice (some ⟨gZ, 0, none⟩) p.ps.length cZ, .slice la p.ls.length lc][j]? = some v → w1.cell? ⟨b17, 0 + j, none⟩ = some v := fun j v h => hS1.cell (by repeat (first | exact List.Mem.head _ | apply List.Mem.tail)) (by rw [Nat.zero_add]; exact h)
              have c11 : w1.cell? ⟨b11, 0, none⟩ = some (.int .i64 (p.ps.length : Int)) := hS1.cell (by repeat (first | exact List.Mem.head _ | apply List.Mem.tail)) rfl
              have c9 : w1.cell? ⟨b9, 0, none⟩ = some (.int .u8 (c : Int)) := hS1.cell (by repeat (first | exact List.Mem.head _ | apply List.Mem.tail)) rfl
              clear hS1
              have hl6 := hf.l6
              obtain ⟨tv, te, tn, ⟨S, S1, hS0, hS1, hS8, hS18, hbits⟩, tw, ta, tr, tb⟩ := told_turned hv (built_turned p c) x y z
              refine cw_chain2 (σ := [1, 2, 5, 6, 0, 3, 4, 7, 8, 9]) [⟨2, [], [], [0], 0⟩, ⟨0, [], [], [], 0⟩, ⟨0, [], [], [], 2⟩, ⟨1, [], [0], [0], 7⟩, ⟨2, [], [], [1], 0⟩, ⟨0, [], [], [], 0⟩, ⟨0, [], [], [], 32⟩, ⟨1, [], [1], [1], 127⟩, ⟨0, [], [], [], 255⟩, ⟨0, [], [], [], 511⟩] [] (by kernel_rfl) (by kernel_rfl) rfl ?_
              refine .det (B := []) rfl rfl (.inl rfl) .nil .nil rfl (RunB.lr (run_fieldAddr (.tmp rfl) fa25_1 (by first | exact Nat.zero_add _ | exact rfl))) ?_
              refine .det (B := []) rfl rfl (.inl rfl) .nil .nil rfl (RunB.lr (run_load1_at (.tmp rfl) kd22 (fun w hS => hS.old_cell (fun h => h) (c5 1 _ rfl)))) ?_
              refine .det (B := []) rfl rfl (.inl rfl) .nil .nil rfl (RunB.lr (run_fieldAddr (.tmp rfl) fa25_2 (by first | exact Nat.zero_add _ | exact rfl))) ?_
              refine .det (B := []) rfl rfl (.inl rfl) .nil .nil rfl (RunB.lr (run_load1_at (.tmp rfl) kd23 (fun w hS => hS.old_cell (fun h => h) (c5 2 _ rfl)))) ?_
              refine .flo rfl rfl rfl (.none rfl (fun w => bs22_0_ w)) trivial rfl rfl rfl ?_
              intro b158
              refine .ext (B := fun q => [(0, (q.1, Obj.cells q.2.2.toArray 56 (0, 0)))]) rfl rfl (.inl rfl) .nil (.cons rfl .nil) (fun _ => rfl) (inRow_ne (m := 0 + p.ps.length) (by simp only [List.length_append, postCells_length, List.length_nil]; omega) (by unfold maxLen; omega)) (lr_append_in ap22 (.tmp rfl) (inRow_none 4) (.tmp rfl) (news := postCells p.ps) (postCells_length _) (by decide) (postCells_plain _) (by omega) (by unfold maxLen; omega) (fun w hS => (hp1.1.kept hS.kept).cellsIn)) ?_
              rintro ⟨gP, cP, rP⟩ hP
              refine .flo rfl rfl rfl (.none rfl (fun w => bs23_0_ w)) trivial rfl rfl rfl ?_
              intro b162
              refine .ext (B := fun q => [(1, (q.1, Obj.cells q.2.2.toArray 65 (0, 0)))]) rfl rfl (.inl rfl) .nil (.cons rfl .nil) (fun _ => rfl) (inRow_ne (m := 0 + p.ls.length) (by simp only [List.length_append, lenCells_length, List.length_nil]; omega) (by unfold maxLen; omega)) (lr_append_in ap23 (.tmp rfl) (inRow_none 4) (.tmp rfl) (news := lenCells p.ls) (lenCells_length _) (by decide) (lenCells_plain _) (by omega) (by unfold maxLen; omega) (fun w hS => (hp1.2.kept hS.kept).cellsIn)) ?_
              rintro ⟨gQ, cQ, rQ⟩ hQ
              refine .det (B := []) rfl rfl (.inl rfl) .nil .nil rfl (RunB.lr (run_assign (.tmp rfl))) ?_
              refine .det (B := []) rfl rfl (.inl rfl) .nil .nil rfl (RunB.lr (run_assign (.tmp rfl))) ?_
              refine chain_nil (ts := [1, 0]) (.cons rfl (.cons rfl .nil)) (by decide) ?_
              obtain ⟨bm, hbm⟩ : ∃ b, (valOf (0, 0, false) (movedR p)).2.2 = b := ⟨_, rfl⟩
              obtain ⟨em, hem⟩ : ∃ e, errOf (movedR p) = e := ⟨_, rfl⟩
              obtain ⟨⟨⟨wa, wb⟩, ⟨wc, wd⟩⟩, hw⟩ : ∃ v, valOf ((0, 0), (0, 0)) (whereR p x) = v := ⟨_, rfl⟩
              obtain ⟨ew, hew⟩ : ∃ e, errOf (whereR p x) = e := ⟨_, rfl⟩
              obtain ⟨⟨aa, ab⟩, ha⟩ : ∃ v, valOf (0, 0) (apartR p x y) = v := ⟨_, rfl⟩
              obtain ⟨ea, hea⟩ : ∃ e, errOf (apartR p x y) = e := ⟨_, rfl⟩
              obtain ⟨⟨ra, rb⟩, hr⟩ : ∃ v, valOf (0, 0) (areaR p x y z) = v := ⟨_, rfl⟩
              obtain ⟨er, her⟩ : ∃ e, errOf (areaR p x y z) = e := ⟨_, rfl⟩
              obtain ⟨⟨ba, bb⟩, hbk⟩ : ∃ v, valOf (0, 0) (backR p x) = v := ⟨_, rfl⟩
              obtain ⟨eb, heb⟩ : ∃ e, errOf (backR p x) = e := ⟨_, rfl⟩
              refine xw_then ?_
              refine cw_seq ?_
              refine cw_region ?_
              refine lstepB rfl rfl rfl (run_loadN_at (l := [.int .i64 p.side, .slice (some ⟨pb, po, none⟩) p.ps.length pc, .slice la p.ls.length lc]) (.tmp rfl) kd25 sz25 rfl (fun w hS jj v hj => hS.old_cell (fun h => h) (c5 jj v hj))) ?_
              refine lstepB rfl rfl rfl (run_call1 cb13 (.cons (.tmp rfl) .nil) (fun w hS => movedG hv hp1 hS.kept hS0 hbm hem)) ?_
              refine lstepB rfl rfl rfl (run_move (.tmp rfl)) ?_
              refine lstepB rfl rfl rfl (run_extract (.tmp rfl) rfl) ?_
              refine lstepB rfl rfl rfl (run_extract (.tmp rfl) rfl) ?_
              refine lstepB rfl rfl rfl (run_extract (.tmp rfl) rfl) ?_
              refine lstepB rfl rfl rfl (run_assign (.tmp rfl)) ?_
              refine lstepB rfl rfl rfl (run_assign (.tmp rfl)) ?_
              refine lstepB rfl rfl rfl (run_assign (.tmp rfl)) ?_
              refine lnil ?_
              refine xw_then ?_
              refine cw_seq ?_
              refine cw_region ?_
              refine lstepB rfl rfl rfl (run_loadN_at (l := [.int .i64 p.side, .slice (some ⟨pb, po, none⟩) p.ps.length pc, .slice la p.ls.length lc]) (.tmp rfl) kd25 sz25 rfl (fun w hS jj v hj => hS.old_cell (fun h => h) (c5 jj v hj))) ?_
              refine lstepB rfl rfl rfl (run_move (.tmp rfl)) ?_
              refine lstepB rfl rfl rfl (run_call1 cb15 (.cons (.tmp rfl) (.cons (.tmp rfl) .nil)) (fun w hS => whereG hv hp1 hS.kept hw hew)) ?_
              refine lstepB rfl rfl rfl (run_move (.tmp rfl)) ?_
              refine lstepB rfl rfl rfl (run_extract (.tmp rfl) rfl) ?_
              refine lstepB rfl rfl rfl (run_extract (.tmp rfl) rfl) ?_
              refine lstepB rfl rfl rfl (run_extract (.tmp rfl) rfl) ?_
              refine lstep rfl rfl rfl (run_alloc zr32) ?_
              intro b27 _
              refine lstep rfl rfl rfl (run_alloc zr32) ?_
              intro b28 _
              refine lstep0 rfl rfl (run_storeN (.tmp rfl) (.tmp rfl) rfl sz32 rfl (by repeat (first | exact Upd.here | apply Upd.there)) (by repeat (first | exact Put.done | apply Put.put | apply Put.skip))) ?_
              refine lstep0 rfl rfl (run_storeN (.tmp rfl) (.tmp rfl) rfl sz32 rfl (by repeat (first | exact Upd.here | apply Upd.there)) (by repeat (first | exact Put.done | apply Put.put | apply Put.skip))) ?_
              refine lstepB rfl rfl rfl (run_assign (.tmp rfl)) ?_
              refine lnil ?_
              refine xw_then ?_
              refine cw_seq ?_
              refine cw_region ?_
              refine lstepB rfl rfl rfl (run_loadN_at (l := [.int .i64 p.side, .slice (some ⟨pb, po, none⟩) p.ps.length pc, .slice la p.ls.length lc]) (.tmp rfl) kd25 sz25 rfl (fun w hS jj v hj => hS.old_cell (fun h => h) (c5 jj v hj))) ?_
              refine lstepB rfl rfl rfl (run_move (.tmp rfl)) ?_
              refine lstepB rfl rfl rfl (run_move (.tmp rfl)) ?_
              refine lstepB rfl rfl rfl (run_call1 cb21 (.cons (.tmp rfl) (.cons (.tmp rfl) (.cons (.tmp rfl) .nil))) (fun w hS => apartG hv hp1 hS.kept ha hea)) ?_
              refine lstepB rfl rfl rfl (run_move (.tmp rfl)) ?_
              refine lstepB rfl rfl rfl (run_extract (.tmp rfl) rfl) ?_
              refine lstepB rfl rfl rfl (run_extract (.tmp rfl) rfl) ?_
              refine lstep rfl rfl rfl (run_alloc zr32) ?_
              intro b30 _
              refine lstep0 rfl rfl (run_storeN (.tmp rfl) (.tmp rfl) rfl sz32 rfl (by repeat (first | exact Upd.here | apply Upd.there)) (by repeat (first | exact Put.done | apply Put.put | apply Put.skip))) ?_
              refine lstepB rfl rfl rfl (run_assign (.tmp rfl)) ?_
              refine lnil ?_
              refine xw_then ?_
              refine cw_seq ?_
              refine cw_region ?_
              refine lstepB rfl rfl rfl (run_loadN_at (l := [.int .i64 p.side, .slice (some ⟨pb, po, none⟩) p.ps.length pc, .slice la p.ls.length lc]) (.tmp rfl) kd25 sz25 rfl (fun w hS jj v hj => hS.old_cell (fun h => h) (c5 jj v hj))) ?_
              refine lstepB rfl rfl rfl (run_move (.tmp rfl)) ?_
              refine lstepB rfl rfl rfl (run_move (.tmp rfl)) ?_
              refine lstepB rfl rfl rfl (run_move (.tmp rfl)) ?_
              refine lstepB rfl rfl rfl (run_call1 cb23 (.cons (.tmp rfl) (.cons (.tmp rfl) (.cons (.tmp rfl) (.cons (.tmp rfl) .nil)))) (fun w hS => areaG hv hp1 hS.kept hr her)) ?_
              refine lstepB rfl rfl rfl (run_move (.tmp rfl)) ?_
              refine lstepB rfl rfl rfl (run_extract (.tmp rfl) rfl) ?_
              refine lstepB rfl rfl rfl (run_extract (.tmp rfl) rfl) ?_
              refine lstep rfl rfl rfl (run_alloc zr32) ?_
              intro b32 _
              refine lstep0 rfl rfl (run_storeN (.tmp rfl) (.tmp rfl) rfl sz32 rfl (by repeat (first | exact Upd.here | apply Upd.there)) (by repeat (first | exact Put.done | apply Put.put | apply Put.skip))) ?_
              refine lstepB rfl rfl rfl (run_assign (.tmp rfl)) ?_
              refine lnil ?_
              refine xw_then ?_
              refine cw_seq ?_
              refine cw_region ?_
              refine lstepB rfl rfl rfl (run_loadN_at (l := [.int .i64 p.side, .slice (some ⟨pb, po, none⟩) p.ps.length pc, .slice la p.ls.length lc]) (.tmp rfl) kd25 sz25 rfl (fun w hS jj v hj => hS.old_cell (fun h => h) (c5 jj v hj))) ?_
              refine lstepB rfl rfl rfl (run_move (.tmp rfl)) ?_
              refine lstepB rfl rfl rfl (run_call1 cb19 (.cons (.tmp rfl) (.cons (.tmp rfl) .nil)) (fun w hS => backG hv hp1 hS.kept hbk heb)) ?_
              refine lstepB rfl rfl rfl (run_move (.tmp rfl)) ?_
              refine lstepB rfl rfl rfl (run_extract (.tmp rfl) rfl) ?_
              refine lstepB rfl rfl rfl (run_extract (.tmp rfl) rfl) ?_
              refine lstep rfl rfl rfl (run_alloc zr32) ?_
              intro b34 _
              refine lstep0 rfl rfl (run_storeN (.tmp rfl) (.tmp rfl) rfl sz32 rfl (by repeat (first | exact Upd.here | apply Upd.there)) (by repeat (first | exact Put.done | apply Put.put | apply Put.skip))) ?_
              refine lstepB rfl rfl rfl (run_assign (.tmp rfl)) ?_
              refine lnil ?_
              refine xw_then ?_
              refine cw_seq ?_
              refine cw_seq ?_
              refine cw_region ?_
              refine lstepB rfl rfl rfl (run_move (.tmp rfl)) ?_
              refine lstepB rfl rfl rfl (run_lss (.tmp rfl) .const (by first | exact decide_eq_true (by omega) | exact decide_eq_false (by omega) | exact rfl)) ?_
              refine lnil ?_
              refine xw_then ?_
              refine cw_cond_false (.tmp rfl) ?_
              refine cw_skip ?_
              refine xw_then ?_
              refine cw_seq ?_
              refine cw_seq ?_
              refine cw_region ?_
              refine lstepB rfl rfl rfl (run_loadN_at (l := [.int .i64 p.side, .slice (some ⟨gX, 0, none⟩) p.ps.length p.ps.length, .slice (rowA o) p.ls.length (rowC o)]) (.tmp rfl) kd25 sz25 rfl (fun w hS jj v hj => hS.old_cell (fun h => h) (c15 jj v hj))) ?_
              refine lstepB rfl rfl rfl (run_loadN_at (l := [.int .i64 p.side, .slice (some ⟨gY, 0, none⟩) p.ps.length cY, .slice la p.ls.length lc]) (.tmp rfl) kd25 sz25 rfl (fun w hS jj v hj => hS.old_cell (fun h => h) (c16 jj v hj))) ?_
              refine lstepB rfl rfl rfl (run_loadN_at (l := [.int .i64 p.side, .slice (some ⟨gZ, 0, none⟩) p.ps.length cZ, .slice la p.ls.length lc]) (.tmp rfl) kd25 sz25 rfl (fun w hS jj v hj => hS.old_cell (fun h => h) (c17 jj v hj))) ?_
              refine lstep rfl rfl rfl (LR.runs (lr_buildSlice_at (.cons (.tmp rfl) (.cons (.tmp rfl) (.cons (.tmp rfl) .nil))) (fun w => bs68_3_0_1_2 w)) (by repeat (first | exact Pick.nil | (apply Pick.cons; focus (repeat (first | exact Del.here | apply Del.there))))) (by repeat (first | exact Dels.nil | (apply Dels.cons; focus (repeat (first | exact Del.here | apply Del.there)))))) ?_
              intro b205 _
              refine lstepB rfl rfl rfl (run_len (.tmp rfl) sl68) ?_
              refine lstepB rfl rfl rfl (run_move .const) ?_
              refine lnil ?_
              refine xw_then ?_
              refine cw_block ?_
              refine cw_loop (S := Nat) (fun k => [(207, .int .i64 (k : Int))]) [(1, _), (2, _), (3, _), (5, _), (9, _), (11, _), (13, _), (14, _), (22, _), (23, _), (24, _), (25, _), (26, _), (27, _), (28, _), (29, _), (30, _), (31, _), (32, _), (33, _), (34, _), (35, _), (205, _), (206, _)] (fun k => [(gP, Obj.cells rP.toArray 56 (0, 0)), (gQ, Obj.cells rQ.toArray 65 (0, 0)), (b27, Obj.cells [.int .i64 wa, .int .i64 wb].toArray 32 (0, 0)), (b28, Obj.cells [.int .i64 wc, .int .i64 wd].toArray 32 (0, 0)), (b30, Obj.cells [.int .i64 aa, .int .i64 ab].toArray 32 (0, 0)), (b32, Obj.cells [.int .i64 ra, .int .i64 rb].toArray 32 (0, 0)), (b34, Obj.cells [.int .i64 ba, .int .i64 bb].toArray 32 (0, 0)), (b205, Obj.cells [.int .i64 p.side, .slice (some ⟨gX, 0, none⟩) p.ps.length p.ps.length, .slice (rowA o) p.ls.length (rowC o), .int .i64 p.side, .slice (some ⟨gY, 0, none⟩) p.ps.length cY, .slice la p.ls.length lc, .int .i64 p.side, .slice (some ⟨gZ, 0, none⟩) p.ps.length cZ, .slice la p.ls.length lc].toArray 25 (0, 0))]) (fun k => k ≤ 3) (fun k => 3 - k) 0 (by omega) (by repeat (first | exact Less.nil | refine Less.cons rfl ?_)) (by repeat (first | exact Pick.nil | (apply Pick.cons; focus (repeat (first | exact Del.here | apply Del.there))))) ?_
              intro k hk
              try dsimp only
              refine cw_seq ?_
              refine cw_region ?_
              refine lstepB rfl rfl rfl (run_lss (.tmp rfl) (.tmp rfl) (by first | exact decide_eq_true (by omega) | exact decide_eq_false (by omega) | exact rfl)) ?_
              refine lnil ?_
              refine xw_then ?_
              refine cw_seq ?_
              refine cw_cond_p (.tmp rfl) (fun hlt => ?_) (fun hge => ?_)
              ·
                have hk3 : k < 3 := by have h : (k : Int) < ((3 : Nat) : Int) := hlt; omega
                obtain rfl | rfl | rfl : k = 0 ∨ k = 1 ∨ k = 2 := by omega
                ·
                  refine cw_skip ?_
                  refine xw_then ?_
                  refine cw_seq ?_
                  refine cw_block ?_
                  refine cw_seq ?_
                  refine cw_region ?_
                  refine lstepB rfl rfl rfl (run_move (.tmp rfl)) ?_
                  refine lstepB rfl rfl rfl (run_indexAddr (i := 0) (off' := 0) (.tmp rfl) (.tmp rfl) el68 (by omega) rfl) ?_
                  refine lstepB rfl rfl rfl (run_loadN (.tmp rfl) kd25 sz25 (by repeat (first | exact List.Mem.head _ | apply List.Mem.tail)) (by repeat (first | exact Sub.done | apply Sub.take | apply Sub.skip))) ?_
                  refine lstep rfl rfl rfl (run_alloc zr25) ?_
                  intro b37 _
                  refine lstepB rfl rfl rfl (run_assign (.tmp rfl)) ?_
                  refine lstep0 rfl rfl (run_storeN (.tmp rfl) (.tmp rfl) rfl sz25 rfl (by repeat (first | exact Upd.here | apply Upd.there)) (by repeat (first | exact Put.done | apply Put.put | apply Put.skip))) ?_
                  refine lnil ?_
                  refine xw_then ?_
                  refine cw_seq ?_
                  refine cw_region ?_
                  refine lstepB rfl rfl rfl (run_move (.tmp rfl)) ?_
                  refine lstepB rfl rfl rfl (run_move (.tmp rfl)) ?_
                  refine lstepB rfl rfl rfl (run_move (.tmp rfl)) ?_
                  refine lstepB rfl rfl rfl (run_assign (.tmp rfl)) ?_
                  refine lstepB rfl rfl rfl (run_assign (.tmp rfl)) ?_
                  refine lstepB rfl rfl rfl (run_assign (.tmp rfl)) ?_
                  refine lnil ?_
                  refine xw_then ?_
                  refine cw_seq ?_
                  refine cw_seq ?_
                  refine cw_region ?_
                  refine lstepB rfl rfl rfl (run_move (.tmp rfl)) ?_
                  refine lstepB rfl rfl rfl (run_eql (.tmp rfl) .const (by first | exact decide_eq_true (by omega) | exact decide_eq_false (by omega) | exact rfl)) ?_
                  refine lnil ?_
                  refine xw_then ?_
                  refine cw_cond_true (.tmp rfl) ?_
                  refine cw_region ?_
                  refine lstepB rfl rfl rfl (run_move (.tmp rfl)) ?_
                  refine lstepB rfl rfl rfl (run_move (.tmp rfl)) ?_
                  refine lstepB rfl rfl rfl (run_callv1 cb41 (.tmp rfl) (.cons (.tmp rfl) .nil) rfl (fun w hS => numberK (by omega) (by omega) hc (hS.old_cell (fun h => h) c11) (hS.old_cell (fun h => h) c9))) ?_
                  refine lstepB rfl rfl rfl (run_move (.tmp rfl)) ?_
                  refine lstepB rfl rfl rfl (run_move (.tmp rfl)) ?_
                  refine lstepB rfl rfl rfl (run_callv1 cb41 (.tmp rfl) (.cons (.tmp rfl) .nil) rfl (fun w hS => numberK (by omega) (by omega) hc (hS.old_cell (fun h => h) c11) (hS.old_cell (fun h => h) c9))) ?_
                  refine lstepB rfl rfl rfl (run_move (.tmp rfl)) ?_
                  refine lstepB rfl rfl rfl (run_move (.tmp rfl)) ?_
                  refine lstepB rfl rfl rfl (run_callv1 cb41 (.tmp rfl) (.cons (.tmp rfl) .nil) rfl (fun w hS => numberK (by omega) (by omega) hc (hS.old_cell (fun h => h) c11) (hS.old_cell (fun h => h) c9))) ?_
                  refine lstepB rfl rfl rfl (run_assign (.tmp rfl)) ?_
                  refine lstepB rfl rfl rfl (run_assign (.tmp rfl)) ?_
                  refine lstepB rfl rfl rfl (run_assign (.tmp rfl)) ?_
                  refine lnil ?_
                  refine xw_then ?_
                  refine cw_seq ?_
                  refine cw_region ?_
                  refine lstepB rfl rfl rfl (run_loadN (.tmp rfl) kd25 sz25 (by repeat (first | exact List.Mem.head _ | apply List.Mem.tail)) (by repeat (first | exact Sub.done | apply Sub.take | apply Sub.skip))) ?_
                  refine lstepB rfl rfl rfl (run_call1 cb13 (.cons (.tmp rfl) .nil) (fun w hS => movedH tv hx1 rfl (turnedTo_len _ _ _) (by simp) hS.kept hS1 (tn.trans hbm) (te.trans hem))) ?_
                  refine lstepB rfl rfl rfl (run_move (.tmp rfl)) ?_
                  refine lstepB rfl rfl rfl (run_extract (.tmp rfl) rfl) ?_
                  refine lstepB rfl rfl rfl (run_extract (.tmp rfl) rfl) ?_
                  refine lstepB rfl rfl rfl (run_extract (.tmp rfl) rfl) ?_
                  refine lstepB rfl rfl rfl (run_assign (.tmp rfl)) ?_
                  refine lstepB rfl rfl rfl (run_assign (.tmp rfl)) ?_
                  refine lstepB rfl rfl rfl (run_assign (.tmp rfl)) ?_
                  refine lnil ?_
                  refine xw_then ?_
                  refine cw_seq ?_
                  refine cw_region ?_
                  refine lstepB rfl rfl rfl (run_loadN (.tmp rfl) kd25 sz25 (by repeat (first | exact List.Mem.head _ | apply List.Mem.tail)) (by repeat (first | exact Sub.done | apply Sub.take | apply Sub.skip))) ?_
                  refine lstepB rfl rfl rfl (run_move (.tmp rfl)) ?_
                  refine lstepB rfl rfl rfl (run_call1 cb15 (.cons (.tmp rfl) (.cons (.tmp rfl) .nil)) (fun w hS => whereH tv hx1 rfl (turnedTo_len _ _ _) (by simp) hS.kept (Eq.trans (congrArg (valOf ((0, 0), (0, 0))) tw) hw) (Eq.trans (congrArg errOf tw) hew))) ?_
                  refine lstepB rfl rfl rfl (run_move (.tmp rfl)) ?_
                  refine lstepB rfl rfl rfl (run_extract (.tmp rfl) rfl) ?_
                  refine lstepB rfl rfl rfl (run_extract (.tmp rfl) rfl) ?_
                  refine lstepB rfl rfl rfl (run_extract (.tmp rfl) rfl) ?_
                  refine lstep rfl rfl rfl (run_alloc zr32) ?_
                  intro b44 _
                  refine lstep rfl rfl rfl (run_alloc zr32) ?_
                  intro b45 _
                  refine lstep0 rfl rfl (run_storeN (.tmp rfl) (.tmp rfl) rfl sz32 rfl (by repeat (first | exact Upd.here | apply Upd.there)) (by repeat (first | exact Put.done | apply Put.put | apply Put.skip))) ?_
                  refine lstep0 rfl rfl (run_storeN (.tmp rfl) (.tmp rfl) rfl sz32 rfl (by repeat (first | exact Upd.here | apply Upd.there)) (by repeat (first | exact Put.done | apply Put.put | apply Put.skip))) ?_
                  refine lstepB rfl rfl rfl (run_assign (.tmp rfl)) ?_
                  refine lnil ?_
                  refine xw_then ?_
                  refine cw_seq ?_
                  refine cw_region ?_
                  refine lstepB rfl rfl rfl (run_loadN (.tmp rfl) kd25 sz25 (by repeat (first | exact List.Mem.head _ | apply List.Mem.tail)) (by repeat (first | exact Sub.done | apply Sub.take | apply Sub.skip))) ?_
                  refine lstepB rfl rfl rfl (run_move (.tmp rfl)) ?_
                  refine lstepB rfl rfl rfl (run_move (.tmp rfl)) ?_
                  refine lstepB rfl rfl rfl (run_call1 cb21 (.cons (.tmp rfl) (.cons (.tmp rfl) (.cons (.tmp rfl) .nil))) (fun w hS => apartH tv hx1 rfl (turnedTo_len _ _ _) (by simp) hS.kept (Eq.trans (congrArg (valOf (0, 0)) ta) ha) (Eq.trans (congrArg errOf ta) hea))) ?_
                  refine lstepB rfl rfl rfl (run_move (.tmp rfl)) ?_
                  refine lstepB rfl rfl rfl (run_extract (.tmp rfl) rfl) ?_
                  refine lstepB rfl rfl rfl (run_extract (.tmp rfl) rfl) ?_
                  refine lstep rfl rfl rfl (run_alloc zr32) ?_
                  intro b47 _
                  refine lstep0 rfl rfl (run_storeN (.tmp rfl) (.tmp rfl) rfl sz32 rfl (by repeat (first | exact Upd.here | apply Upd.there)) (by repeat (first | exact Put.done | apply Put.put | apply Put.skip))) ?_
                  refine lstepB rfl rfl rfl (run_assign (.tmp rfl)) ?_
                  refine lnil ?_
                  refine xw_then ?_
                  refine cw_seq ?_
                  refine cw_region ?_
                  refine lstepB rfl rfl rfl (run_loadN (.tmp rfl) kd25 sz25 (by repeat (first | exact List.Mem.head _ | apply List.Mem.tail)) (by repeat (first | exact Sub.done | apply Sub.take | apply Sub.skip))) ?_
                  refine lstepB rfl rfl rfl (run_move (.tmp rfl)) ?_
                  refine lstepB rfl rfl rfl (run_move (.tmp rfl)) ?_
                  refine lstepB rfl rfl rfl (run_move (.tmp rfl)) ?_
                  refine lstepB rfl rfl rfl (run_call1 cb23 (.cons (.tmp rfl) (.cons (.tmp rfl) (.cons (.tmp rfl) (.cons (.tmp rfl) .nil)))) (fun w hS => areaH tv hx1 rfl (turnedTo_len _ _ _) (by simp) hS.kept (Eq.trans (congrArg (valOf (0, 0)) tr) hr) (Eq.trans (congrArg errOf tr) her))) ?_
                  refine lstepB rfl rfl rfl (run_move (.tmp rfl)) ?_
                  refine lstepB rfl rfl rfl (run_extract (.tmp rfl) rfl) ?_
                  refine lstepB rfl rfl rfl (run_extract (.tmp rfl) rfl) ?_
                  refine lstep rfl rfl rfl (run_alloc zr32) ?_
                  intro b49 _
                  refine lstep0 rfl rfl (run_storeN (.tmp rfl) (.tmp rfl) rfl sz32 rfl (by repeat (first | exact Upd.here | apply Upd.there)) (by repeat (first | exact Put.done | apply Put.put | apply Put.skip))) ?_
                  refine lstepB rfl rfl rfl (run_assign (.tmp rfl)) ?_
                  refine lnil ?_
                  refine xw_then ?_
                  refine cw_seq ?_
                  refine cw_region ?_
                  refine lstepB rfl rfl rfl (run_loadN (.tmp rfl) kd25 sz25 (by repeat (first | exact List.Mem.head _ | apply List.Mem.tail)) (by repeat (first | exact Sub.done | apply Sub.take | apply Sub.skip))) ?_
                  refine lstepB rfl rfl rfl (run_move (.tmp rfl)) ?_
                  refine lstepB rfl rfl rfl (run_call1 cb19 (.cons (.tmp rfl) (.cons (.tmp rfl) .nil)) (fun w hS => backH tv hx1 rfl (turnedTo_len _ _ _) (by simp) hS.kept (Eq.trans (congrArg (valOf (0, 0)) tb) hbk) (Eq.trans (congrArg errOf tb) heb))) ?_
                  refine lstepB rfl rfl rfl (run_move (.tmp rfl)) ?_
                  refine lstepB rfl rfl rfl (run_extract (.tmp rfl) rfl) ?_
                  refine lstepB rfl rfl rfl (run_extract (.tmp rfl) rfl) ?_
                  refine lstep rfl rfl rfl (run_alloc zr32) ?_
                  intro b51 _
                  refine lstep0 rfl rfl (run_storeN (.tmp rfl) (.tmp rfl) rfl sz32 rfl (by repeat (first | exact Upd.here | apply Upd.there)) (by repeat (first | exact Put.done | apply Put.put | apply Put.skip))) ?_
                  refine lstepB rfl rfl rfl (run_assign (.tmp rfl)) ?_
                  refine lnil ?_
                  refine xw_then ?_
                  refine cw_seq ?_
                  refine cw_seq ?_
                  refine cw_region ?_
                  refine lstepB rfl rfl rfl (run_move (.tmp rfl)) ?_
                  refine lnil ?_
                  refine xw_then ?_
                  refine cw_block ?_
                  refine cw_seq ?_
                  refine cw_region ?_
                  refine lstepB rfl rfl rfl (run_eql (.tmp rfl) .const (by first | exact decide_eq_true (by omega) | exact decide_eq_false (by omega) | exact rfl)) ?_
                  refine lstepB rfl rfl rfl (run_assign (.tmp rfl)) ?_
                  refine lnil ?_
                  refine xw_then ?_
                  refine cw_cond_true (.tmp rfl) ?_
                  refine cw_seq ?_
                  refine cw_region ?_
                  refine lstepB rfl rfl rfl (run_move (.tmp rfl)) ?_
                  refine lstepB rfl rfl rfl (run_len (.tmp rfl) sl22) ?_
                  refine lstepB rfl rfl rfl (run_move .const) ?_
                  refine lnil ?_
                  refine xw_then ?_
                  refine cw_block ?_
                  refine cw_loop (S := Nat) (fun j => [(267, .int .i64 (j : Int))]) [(1, _), (2, _), (3, _), (5, _), (9, _), (11, _), (13, _), (14, _), (22, _), (23, _), (24, _), (25, _), (26, _), (27, _), (28, _), (29, _), (30, _), (31, _), (32, _), (33, _), (34, _), (35, _), (205, _), (206, _), (207, _), (36, _), (41, _), (42, _), (43, _), (44, _), (45, _), (46, _), (47, _), (48, _), (49, _), (50, _), (51, _), (52, _), (266, _)] (fun j => [(gP, Obj.cells rP.toArray 56 (0, 0)), (gQ, Obj.cells rQ.toArray 65 (0, 0)), (b27, Obj.cells [.int .i64 wa, .int .i64 wb].toArray 32 (0, 0)), (b28, Obj.cells [.int .i64 wc, .int .i64 wd].toArray 32 (0, 0)), (b30, Obj.cells [.int .i64 aa, .int .i64 ab].toArray 32 (0, 0)), (b32, Obj.cells [.int .i64 ra, .int .i64 rb].toArray 32 (0, 0)), (b34, Obj.cells [.int .i64 ba, .int .i64 bb].toArray 32 (0, 0)), (b44, Obj.cells [.int .i64 wa, .int .i64 wb].toArray 32 (0, 0)), (b45, Obj.cells [.int .i64 wc, .int .i64 wd].toArray 32 (0, 0)), (b47, Obj.cells [.int .i64 aa, .int .i64 ab].toArray 32 (0, 0)), (b49, Obj.cells [.int .i64 ra, .int .i64 rb].toArray 32 (0, 0)), (b51, Obj.cells [.int .i64 ba, .int .i64 bb].toArray 32 (0, 0)), (b205, Obj.cells [.int .i64 p.side, .slice (some ⟨gX, 0, none⟩) p.ps.length p.ps.length, .slice (rowA o) p.ls.length (rowC o), .int .i64 p.side, .slice (some ⟨gY, 0, none⟩) p.ps.length cY, .slice la p.ls.length lc, .int .i64 p.side, .slice (some ⟨gZ, 0, none⟩) p.ps.length cZ, .slice la p.ls.length lc].toArray 25 (0, 0))]) (fun j => j ≤ p.ps.length) (fun j => p.ps.length - j) 0 (by omega) (by repeat (first | exact Less.nil | refine Less.cons rfl ?_)) (by repeat (first | exact Pick.nil | (apply Pick.cons; focus (repeat (first | exact Del.here | apply Del.there))))) ?_
                  intro j hj
                  try dsimp only
                  refine cw_seq ?_
                  refine cw_region ?_
                  refine lstepB rfl rfl rfl (run_lss (.tmp rfl) (.tmp rfl) (by first | exact decide_eq_true (by omega) | exact decide_eq_false (by omega) | exact rfl)) ?_
                  refine lnil ?_
                  refine xw_then ?_
                  refine cw_seq ?_
                  refine cw_cond_p (.tmp rfl) (fun hlt4 => ?_) (fun hge4 => ?_)
                  ·
                    have hlt5 : j < p.ps.length := by have h : (j : Int) < ((0 + p.ps.length : Nat) : Int) := hlt4; omega
                    have hup := up_lt (c := c) hlt5
                    have hbit := bit_same (hbits j hlt5)
                    have hS16 : S / 2 ^ j < 16 := Nat.lt_of_le_of_lt (Nat.div_le_self _ _) hS8
                    have hS17 : S1 / 2 ^ up p.ps.length c j < 16 := Nat.lt_of_le_of_lt (Nat.div_le_self _ _) hS18
                    refine cw_skip ?_
                    refine xw_then ?_
                    refine cw_seq ?_
                    refine cw_block ?_
                    refine cw_seq ?_
                    refine cw_region ?_
                    refine lstepB rfl rfl rfl (run_move (.tmp rfl)) ?_
                    refine lstepB rfl rfl rfl (run_assign (.tmp rfl)) ?_
                    refine lnil ?_
                    refine xw_then ?_
                    refine cw_seq ?_
                    refine cw_chain2 (σ := [0, 1, 2, 3, 4, 5, 6, 7, 8, 9, 10]) [⟨0, [], [], [], 0⟩, ⟨0, [], [], [], 0⟩, ⟨0, [], [], [], 3⟩, ⟨0, [], [], [], 7⟩, ⟨0, [], [], [], 0⟩, ⟨0, [], [], [], 0⟩, ⟨0, [], [], [], 0⟩, ⟨0, [], [], [], 96⟩, ⟨0, [], [], [], 240⟩, ⟨0, [], [], [], 496⟩, ⟨0, [], [], [], 1023⟩] [(0, _), (1, _), (2, _), (3, _), (4, _), (5, _), (6, _), (7, _), (8, _), (9, _), (10, _), (11, _), (12, _)] (by kernel_rfl) (by kernel_rfl) rfl ?_
                    refine .det (B := []) rfl rfl (.inl rfl) .nil .nil rfl (RunB.lr (run_move (.tmp rfl))) ?_
                    refine .det (B := []) rfl rfl (.inl rfl) .nil .nil rfl (RunB.lr (run_move (.tmp rfl))) ?_
                    refine .det (B := []) rfl rfl (.inl rfl) .nil .nil rfl (RunB.lr (run_shr16 (.tmp rfl) (.tmp rfl) hS8 (by omega))) ?_
                    refine .det (B := []) rfl rfl (.inl rfl) .nil .nil rfl (RunB.lr (run_and16 (.tmp rfl) .const hS16)) ?_
                    refine .det (B := []) rfl rfl (.inl rfl) .nil .nil rfl (RunB.lr (run_move (.tmp rfl))) ?_
                    refine .det (B := []) rfl rfl (.inl rfl) .nil .nil rfl (RunB.lr (run_move (.tmp rfl))) ?_
                    refine .det (B := []) rfl rfl (.inl rfl) .nil .nil rfl (RunB.lr (run_move (.tmp rfl))) ?_
                    refine .det (B := []) rfl rfl (.inl rfl) .nil .nil rfl (RunB.lr (run_callv1 cb41 (.tmp rfl) (.cons (.tmp rfl) .nil) rfl (fun w hS => (numberK (by omega) (by omega) hc (hS.old_cell (fun h => h) c11) (hS.old_cell (fun h => h) c9)).as (congrArg (Value.int .i64) (fI_up hlt5))))) ?_
                    refine .det (B := []) rfl rfl (.inl rfl) .nil .nil rfl (RunB.lr (run_shr16 (.tmp rfl) (.tmp rfl) hS18 (by omega))) ?_
                    refine .det (B := []) rfl rfl (.inl rfl) .nil .nil rfl (RunB.lr (run_and16 (.tmp rfl) .const hS17)) ?_
                    refine .det (B := []) rfl rfl (.inl rfl) .nil .nil rfl (RunB.lr (run_neq (.tmp rfl) (.tmp rfl) (decide_eq_false (fun h => h (congrArg (fun z : Nat => (z : Int)) hbit))))) ?_
                    refine chain_nil (ts := [0, 1, 2, 3, 4, 5, 6, 7, 8, 9, 10, 11, 12]) (.cons rfl (.cons rfl (.cons rfl (.cons rfl (.cons rfl (.cons rfl (.cons rfl (.cons rfl (.cons rfl (.cons rfl (.cons rfl (.cons rfl (.cons rfl .nil))))))))))))) (by decide) ?_
                    refine xw_then ?_
                    refine cw_cond_false (.tmp rfl) ?_
                    refine cw_skip ?_
                    refine xw_in ?_
                    refine xw_then ?_
                    refine cw_region ?_
                    refine lstepB rfl rfl rfl (run_add (.tmp rfl) .const (by first | exact IntWalk.i64_in _ (by omega) | exact rfl)) ?_
                    refine lstepB rfl rfl rfl (run_move (.tmp rfl)) ?_
                    refine lnil ?_
                    exact xw_round (j + 1) (by omega) (by omega) (by repeat (first | exact Less.nil | refine Less.cons rfl ?_)) (by repeat (first | exact Pick.nil | (apply Pick.cons; focus (repeat (first | exact Del.here | apply Del.there)))))
                  ·
                    refine cw_exit ?_
                    refine xw_then_exit ?_
                    refine xw_then_exit ?_
                    refine xw_in_exit ?_
                    refine xw_in ?_
                    refine xw_then ?_
                    refine cw_seq ?_
                    refine cw_region ?_
                    refine lstepB rfl rfl rfl (run_move (.tmp rfl)) ?_
                    refine lstepB rfl rfl rfl (run_move (.tmp rfl)) ?_
                    refine lstepB rfl rfl rfl (run_neq (.tmp rfl) (.tmp rfl) (by first | exact decide_eq_true (by omega) | exact decide_eq_false (by omega) | exact rfl)) ?_
                    refine lstepB rfl rfl rfl (run_move (.tmp rfl)) ?_
                    refine lyes rfl rfl rfl rfl ?_
                    refine gstepB rfl rfl (run_move (.tmp rfl)) ?_
                    refine lyes rfl rfl rfl rfl ?_
                    refine gstepB rfl rfl (run_move (.tmp rfl)) ?_
                    refine lyes rfl rfl rfl rfl ?_
                    refine gstepB rfl rfl (En.run_neq_bool (.tmp rfl) (.tmp rfl) bl4 (show (!(bm == bm)) = false by simp)) ?_
                    refine lstepB rfl rfl rfl (by first | exact run_pick_true (.tmp rfl) .const | exact run_pick_false (.tmp rfl) (.tmp rfl)) ?_
                    refine lstepB rfl rfl rfl (run_move (.tmp rfl)) ?_
                    refine lyes rfl rfl rfl rfl ?_
                    refine gstepB rfl rfl (run_move (.tmp rfl)) ?_
                    refine lyes rfl rfl rfl rfl ?_
                    refine gstepB rfl rfl (run_gtr (.tmp rfl) .const (by first | exact decide_eq_true (by omega) | exact decide_eq_false (by omega) | exact rfl)) ?_
                    refine lyes rfl rfl rfl rfl ?_
                    refine gstepB rfl rfl (run_move (.tmp rfl)) ?_
                    refine lskip rfl rfl rfl rfl rfl rfl rfl ?_
                    refine lskip rfl rfl rfl rfl rfl rfl rfl ?_
                    refine lskip rfl rfl rfl rfl rfl rfl rfl ?_
                    refine lyes rfl rfl rfl rfl ?_
                    refine gstepB rfl rfl (by first | exact run_pick_true (.tmp rfl) (.tmp rfl) | exact run_pick_false (.tmp rfl) .const) ?_
                    refine lstepB rfl rfl rfl (by first | exact run_pick_true (.tmp rfl) .const | exact run_pick_false (.tmp rfl) (.tmp rfl)) ?_
                    refine lstepB rfl rfl rfl (run_move (.tmp rfl)) ?_
                    refine lyes rfl rfl rfl rfl ?_
                    refine gstepB rfl rfl (run_move (.tmp rfl)) ?_
                    refine lyes rfl rfl rfl rfl ?_
                    refine gstepB rfl rfl (run_move (.tmp rfl)) ?_
                    refine lyes rfl rfl rfl rfl ?_
                    refine gstepB rfl rfl (run_neq (.tmp rfl) (.tmp rfl) (by first | exact decide_eq_true (by omega) | exact decide_eq_false (by omega) | exact rfl)) ?_
                    refine lstepB rfl rfl rfl (by first | exact run_pick_true (.tmp rfl) .const | exact run_pick_false (.tmp rfl) (.tmp rfl)) ?_
                    refine lstepB rfl rfl rfl (run_move (.tmp rfl)) ?_
                    refine lyes rfl rfl rfl rfl ?_
                    refine gstepB rfl rfl (run_loadN (.tmp rfl) kd32 sz32 (by repeat (first | exact List.Mem.head _ | apply List.Mem.tail)) (by repeat (first | exact Sub.done | apply Sub.take | apply Sub.skip))) ?_
                    refine lyes rfl rfl rfl rfl ?_
                    refine gstepB rfl rfl (run_loadN (.tmp rfl) kd32 sz32 (by repeat (first | exact List.Mem.head _ | apply List.Mem.tail)) (by repeat (first | exact Sub.done | apply Sub.take | apply Sub.skip))) ?_
                    refine lyes rfl rfl rfl rfl ?_
                    refine gstepB rfl rfl (run_eql_agg (.tmp rfl) (.tmp rfl) eg32 (neq32 (show _ = false from by first | (simp; done) | (simp only [Bool.not_eq_false', Bool.and_eq_true, decide_eq_true_eq]; omega)))) ?_
                    refine lstepB rfl rfl rfl (by first | exact run_pick_true (.tmp rfl) .const | exact run_pick_false (.tmp rfl) (.tmp rfl)) ?_
                    refine lstepB rfl rfl rfl (run_move (.tmp rfl)) ?_
                    refine lyes rfl rfl rfl rfl ?_
                    refine gstepB rfl rfl (run_loadN (.tmp rfl) kd32 sz32 (by repeat (first | exact List.Mem.head _ | apply List.Mem.tail)) (by repeat (first | exact Sub.done | apply Sub.take | apply Sub.skip))) ?_
                    refine lyes rfl rfl rfl rfl ?_
                    refine gstepB rfl rfl (run_loadN (.tmp rfl) kd32 sz32 (by repeat (first | exact List.Mem.head _ | apply List.Mem.tail)) (by repeat (first | exact Sub.done | apply Sub.take | apply Sub.skip))) ?_
                    refine lyes rfl rfl rfl rfl ?_
                    refine gstepB rfl rfl (run_eql_agg (.tmp rfl) (.tmp rfl) eg32 (neq32 (show _ = false from by first | (simp; done) | (simp only [Bool.not_eq_false', Bool.and_eq_true, decide_eq_true_eq]; omega)))) ?_
                    refine lstepB rfl rfl rfl (by first | exact run_pick_true (.tmp rfl) .const | exact run_pick_false (.tmp rfl) (.tmp rfl)) ?_
                    refine lstepB rfl rfl rfl (run_move (.tmp rfl)) ?_
                    refine lyes rfl rfl rfl rfl ?_
                    refine gstepB rfl rfl (run_move (.tmp rfl)) ?_
                    refine lyes rfl rfl rfl rfl ?_
                    refine gstepB rfl rfl (run_move (.tmp rfl)) ?_
                    refine lyes rfl rfl rfl rfl ?_
                    refine gstepB rfl rfl (run_neq (.tmp rfl) (.tmp rfl) (by first | exact decide_eq_true (by omega) | exact decide_eq_false (by omega) | exact rfl)) ?_
                    refine lstepB rfl rfl rfl (by first | exact run_pick_true (.tmp rfl) .const | exact run_pick_false (.tmp rfl) (.tmp rfl)) ?_
                    refine lstepB rfl rfl rfl (run_move (.tmp rfl)) ?_
                    refine lyes rfl rfl rfl rfl ?_
                    refine gstepB rfl rfl (run_loadN (.tmp rfl) kd32 sz32 (by repeat (first | exact List.Mem.head _ | apply List.Mem.tail)) (by repeat (first | exact Sub.done | apply Sub.take | apply Sub.skip))) ?_
                    refine lyes rfl rfl rfl rfl ?_
                    refine gstepB rfl rfl (run_loadN (.tmp rfl) kd32 sz32 (by repeat (first | exact List.Mem.head _ | apply List.Mem.tail)) (by repeat (first | exact Sub.done | apply Sub.take | apply Sub.skip))) ?_
                    refine lyes rfl rfl rfl rfl ?_
                    refine gstepB rfl rfl (run_eql_agg (.tmp rfl) (.tmp rfl) eg32 (neq32 (show _ = false from by first | (simp; done) | (simp only [Bool.not_eq_false', Bool.and_eq_true, decide_eq_true_eq]; omega)))) ?_
                    refine lstepB rfl rfl rfl (by first | exact run_pick_true (.tmp rfl) .const | exact run_pick_false (.tmp rfl) (.tmp rfl)) ?_
                    refine lstepB rfl rfl rfl (run_move (.tmp rfl)) ?_
                    refine lyes rfl rfl rfl rfl ?_
                    refine gstepB rfl rfl (run_move (.tmp rfl)) ?_
                    refine lyes rfl rfl rfl rfl ?_
                    refine gstepB rfl rfl (run_move (.tmp rfl)) ?_
                    refine lyes rfl rfl rfl rfl ?_
                    refine gstepB rfl rfl (run_neq (.tmp rfl) (.tmp rfl) (by first | exact decide_eq_true (by omega) | exact decide_eq_false (by omega) | exact rfl)) ?_
                    refine lstepB rfl rfl rfl (by first | exact run_pick_true (.tmp rfl) .const | exact run_pick_false (.tmp rfl) (.tmp rfl)) ?_
                    refine lstepB rfl rfl rfl (run_move (.tmp rfl)) ?_
                    refine lyes rfl rfl rfl rfl ?_
                    refine gstepB rfl rfl (run_loadN (.tmp rfl) kd32 sz32 (by repeat (first | exact List.Mem.head _ | apply List.Mem.tail)) (by repeat (first | exact Sub.done | apply Sub.take | apply Sub.skip))) ?_
                    refine lyes rfl rfl rfl rfl ?_
                    refine gstepB rfl rfl (run_loadN (.tmp rfl) kd32 sz32 (by repeat (first | exact List.Mem.head _ | apply List.Mem.tail)) (by repeat (first | exact Sub.done | apply Sub.take | apply Sub.skip))) ?_
                    refine lyes rfl rfl rfl rfl ?_
                    refine gstepB rfl rfl (run_eql_agg (.tmp rfl) (.tmp rfl) eg32 (neq32 (show _ = false from by first | (simp; done) | (simp only [Bool.not_eq_false', Bool.and_eq_true, decide_eq_true_eq]; omega)))) ?_
                    refine lstepB rfl rfl rfl (by first | exact run_pick_true (.tmp rfl) .const | exact run_pick_false (.tmp rfl) (.tmp rfl)) ?_
                    refine lstepB rfl rfl rfl (run_move (.tmp rfl)) ?_
                    refine lyes rfl rfl rfl rfl ?_
                    refine gstepB rfl rfl (run_move (.tmp rfl)) ?_
                    refine lyes rfl rfl rfl rfl ?_
                    refine gstepB rfl rfl (run_move (.tmp rfl)) ?_
                    refine lyes rfl rfl rfl rfl ?_
                    refine gstepB rfl rfl (run_neq (.tmp rfl) (.tmp rfl) (by first | exact decide_eq_true (by omega) | exact decide_eq_false (by omega) | exact rfl)) ?_
                    refine lstepB rfl rfl rfl (by first | exact run_pick_true (.tmp rfl) .const | exact run_pick_false (.tmp rfl) (.tmp rfl)) ?_
                    refine lstepB rfl rfl rfl (run_move (.tmp rfl)) ?_
                    refine lyes rfl rfl rfl rfl ?_
                    refine gstepB rfl rfl (run_loadN (.tmp rfl) kd32 sz32 (by repeat (first | exact List.Mem.head _ | apply List.Mem.tail)) (by repeat (first | exact Sub.done | apply Sub.take | apply Sub.skip))) ?_
                    refine lyes rfl rfl rfl rfl ?_
                    refine gstepB rfl rfl (run_loadN (.tmp rfl) kd32 sz32 (by repeat (first | exact List.Mem.head _ | apply List.Mem.tail)) (by repeat (first | exact Sub.done | apply Sub.take | apply Sub.skip))) ?_
                    refine lyes rfl rfl rfl rfl ?_
                    refine gstepB rfl rfl (run_eql_agg (.tmp rfl) (.tmp rfl) eg32 (neq32 (show _ = false from by first | (simp; done) | (simp only [Bool.not_eq_false', Bool.and_eq_true, decide_eq_true_eq]; omega)))) ?_
                    refine lstepB rfl rfl rfl (by first | exact run_pick_true (.tmp rfl) .const | exact run_pick_false (.tmp rfl) (.tmp rfl)) ?_
                    refine lnil ?_
                    refine xw_then ?_
                    refine cw_cond_false (.tmp rfl) ?_
                    refine cw_skip ?_
                    refine xw_in ?_
                    refine xw_then ?_
                    refine cw_region ?_
                    refine lstepB rfl rfl rfl (run_add (.tmp rfl) .const (by first | exact IntWalk.i64_in _ (by omega) | exact rfl)) ?_
                    refine lstepB rfl rfl rfl (run_move (.tmp rfl)) ?_
                    refine lnil ?_
                    exact xw_round (0 + 1) (by omega) (by omega) (by repeat (first | exact Less.nil | refine Less.cons rfl ?_)) (by repeat (first | exact Pick.nil | (apply Pick.cons; focus (repeat (first | exact Del.here | apply Del.there)))))
                ·
                  obtain ⟨fv, fe, fm, fw, fa, fr, fb⟩ := told_flip hv x y z
                  rcases fw with ⟨f1, f2⟩ | ⟨v, f1, f2⟩
                  ·
                    have hne : ew ≠ 0 := by rw [← hew]; exact f1
                    refine cw_skip ?_
                    refine xw_then ?_
                    refine cw_seq ?_
                    refine cw_block ?_
                    refine cw_seq ?_
                    refine cw_region ?_
                    refine lstepB rfl rfl rfl (run_move (.tmp rfl)) ?_
                    refine lstepB rfl rfl rfl (run_indexAddr (i := 1) (off' := 3) (.tmp rfl) (.tmp rfl) el68 (by omega) rfl) ?_
                    refine lstepB rfl rfl rfl (run_loadN (.tmp rfl) kd25 sz25 (by repeat (first | exact List.Mem.head _ | apply List.Mem.tail)) (by repeat (first | exact Sub.done | apply Sub.take | apply Sub.skip))) ?_
                    refine lstep rfl rfl rfl (run_alloc zr25) ?_
                    intro b37 _
                    refine lstepB rfl rfl rfl (run_assign (.tmp rfl)) ?_
                    refine lstep0 rfl rfl (run_storeN (.tmp rfl) (.tmp rfl) rfl sz25 rfl (by repeat (first | exact Upd.here | apply Upd.there)) (by repeat (first | exact Put.done | apply Put.put | apply Put.skip))) ?_
                    refine lnil ?_
                    refine xw_then ?_
                    refine cw_seq ?_
                    refine cw_region ?_
                    refine lstepB rfl rfl rfl (run_move (.tmp rfl)) ?_
                    refine lstepB rfl rfl rfl (run_move (.tmp rfl)) ?_
                    refine lstepB rfl rfl rfl (run_move (.tmp rfl)) ?_
                    refine lstepB rfl rfl rfl (run_assign (.tmp rfl)) ?_
                    refine lstepB rfl rfl rfl (run_assign (.tmp rfl)) ?_
                    refine lstepB rfl rfl rfl (run_assign (.tmp rfl)) ?_
                    refine lnil ?_
                    refine xw_then ?_
                    refine cw_seq ?_
                    refine cw_seq ?_
                    refine cw_region ?_
                    refine lstepB rfl rfl rfl (run_move (.tmp rfl)) ?_
                    refine lstepB rfl rfl rfl (run_eql (.tmp rfl) .const (by first | exact decide_eq_true (by omega) | exact decide_eq_false (by omega) | exact rfl)) ?_
                    refine lnil ?_
                    refine xw_then ?_
                    refine cw_cond_false (.tmp rfl) ?_
                    refine cw_skip ?_
                    refine xw_then ?_
                    refine cw_seq ?_
                    refine cw_region ?_
                    refine lstepB rfl rfl rfl (run_loadN (.tmp rfl) kd25 sz25 (by repeat (first | exact List.Mem.head _ | apply List.Mem.tail)) (by repeat (first | exact Sub.done | apply Sub.take | apply Sub.skip))) ?_
                    refine lstepB rfl rfl rfl (run_call1 cb13 (.cons (.tmp rfl) .nil) (fun w hS => movedH fv hy1 rfl (by simp [flipP]) rfl hS.kept (Eq.trans (congrArg Prod.fst fm) hS0) (Eq.trans (congrArg Prod.snd fm) hbm) (fe.trans hem))) ?_
                    refine lstepB rfl rfl rfl (run_move (.tmp rfl)) ?_
                    refine lstepB rfl rfl rfl (run_extract (.tmp rfl) rfl) ?_
                    refine lstepB rfl rfl rfl (run_extract (.tmp rfl) rfl) ?_
                    refine lstepB rfl rfl rfl (run_extract (.tmp rfl) rfl) ?_
                    refine lstepB rfl rfl rfl (run_assign (.tmp rfl)) ?_
                    refine lstepB rfl rfl rfl (run_assign (.tmp rfl)) ?_
                    refine lstepB rfl rfl rfl (run_assign (.tmp rfl)) ?_
                    refine lnil ?_
                    refine xw_then ?_
                    refine cw_seq ?_
                    refine cw_region ?_
                    refine lstepB rfl rfl rfl (run_loadN (.tmp rfl) kd25 sz25 (by repeat (first | exact List.Mem.head _ | apply List.Mem.tail)) (by repeat (first | exact Sub.done | apply Sub.take | apply Sub.skip))) ?_
                    refine lstepB rfl rfl rfl (run_move (.tmp rfl)) ?_
                    refine lstepB rfl rfl rfl (run_call1 cb15 (.cons (.tmp rfl) (.cons (.tmp rfl) .nil)) (fun w hS => whereH fv hy1 rfl (by simp [flipP]) rfl hS.kept (Eq.trans (congrArg (valOf ((0, 0), (0, 0))) f2) hw) (Eq.trans (congrArg errOf f2) hew))) ?_
                    refine lstepB rfl rfl rfl (run_move (.tmp rfl)) ?_
                    refine lstepB rfl rfl rfl (run_extract (.tmp rfl) rfl) ?_
                    refine lstepB rfl rfl rfl (run_extract (.tmp rfl) rfl) ?_
                    refine lstepB rfl rfl rfl (run_extract (.tmp rfl) rfl) ?_
                    refine lstep rfl rfl rfl (run_alloc zr32) ?_
                    intro b44 _
                    refine lstep rfl rfl rfl (run_alloc zr32) ?_
                    intro b45 _
                    refine lstep0 rfl rfl (run_storeN (.tmp rfl) (.tmp rfl) rfl sz32 rfl (by repeat (first | exact Upd.here | apply Upd.there)) (by repeat (first | exact Put.done | apply Put.put | apply Put.skip))) ?_
                    refine lstep0 rfl rfl (run_storeN (.tmp rfl) (.tmp rfl) rfl sz32 rfl (by repeat (first | exact Upd.here | apply Upd.there)) (by repeat (first | exact Put.done | apply Put.put | apply Put.skip))) ?_
                    refine lstepB rfl rfl rfl (run_assign (.tmp rfl)) ?_
                    refine lnil ?_
                    refine xw_then ?_
                    refine cw_seq ?_
                    refine cw_region ?_
                    refine lstepB rfl rfl rfl (run_loadN (.tmp rfl) kd25 sz25 (by repeat (first | exact List.Mem.head _ | apply List.Mem.tail)) (by repeat (first | exact Sub.done | apply Sub.take | apply Sub.skip))) ?_
                    refine lstepB rfl rfl rfl (run_move (.tmp rfl)) ?_
                    refine lstepB rfl rfl rfl (run_move (.tmp rfl)) ?_
                    refine lstepB rfl rfl rfl (run_call1 cb21 (.cons (.tmp rfl) (.cons (.tmp rfl) (.cons (.tmp rfl) .nil))) (fun w hS => apartH fv hy1 rfl (by simp [flipP]) rfl hS.kept (Eq.trans (congrArg (valOf (0, 0)) fa) ha) (Eq.trans (congrArg errOf fa) hea))) ?_
                    refine lstepB rfl rfl rfl (run_move (.tmp rfl)) ?_
                    refine lstepB rfl rfl rfl (run_extract (.tmp rfl) rfl) ?_
                    refine lstepB rfl rfl rfl (run_extract (.tmp rfl) rfl) ?_
                    refine lstep rfl rfl rfl (run_alloc zr32) ?_
                    intro b47 _
                    refine lstep0 rfl rfl (run_storeN (.tmp rfl) (.tmp rfl) rfl sz32 rfl (by repeat (first | exact Upd.here | apply Upd.there)) (by repeat (first | exact Put.done | apply Put.put | apply Put.skip))) ?_
                    refine lstepB rfl rfl rfl (run_assign (.tmp rfl)) ?_
                    refine lnil ?_
                    refine xw_then ?_
                    refine cw_seq ?_
                    refine cw_region ?_
                    refine lstepB rfl rfl rfl (run_loadN (.tmp rfl) kd25 sz25 (by repeat (first | exact List.Mem.head _ | apply List.Mem.tail)) (by repeat (first | exact Sub.done | apply Sub.take | apply Sub.skip))) ?_
                    refine lstepB rfl rfl rfl (run_move (.tmp rfl)) ?_
                    refine lstepB rfl rfl rfl (run_move (.tmp rfl)) ?_
                    refine lstepB rfl rfl rfl (run_move (.tmp rfl)) ?_
                    refine lstepB rfl rfl rfl (run_call1 cb23 (.cons (.tmp rfl) (.cons (.tmp rfl) (.cons (.tmp rfl) (.cons (.tmp rfl) .nil)))) (fun w hS => areaH fv hy1 rfl (by simp [flipP]) rfl hS.kept (Eq.trans (congrArg (valOf (0, 0)) fr) hr) (Eq.trans (congrArg errOf fr) her))) ?_
                    refine lstepB rfl rfl rfl (run_move (.tmp rfl)) ?_
                    refine lstepB rfl rfl rfl (run_extract (.tmp rfl) rfl) ?_
                    refine lstepB rfl rfl rfl (run_extract (.tmp rfl) rfl) ?_
                    refine lstep rfl rfl rfl (run_alloc zr32) ?_
                    intro b49 _
                    refine lstep0 rfl rfl (run_storeN (.tmp rfl) (.tmp rfl) rfl sz32 rfl (by repeat (first | exact Upd.here | apply Upd.there)) (by repeat (first | exact Put.done | apply Put.put | apply Put.skip))) ?_
                    refine lstepB rfl rfl rfl (run_assign (.tmp rfl)) ?_
                    refine lnil ?_
                    refine xw_then ?_
                    refine cw_seq ?_
                    refine cw_region ?_
                    refine lstepB rfl rfl rfl (run_loadN (.tmp rfl) kd25 sz25 (by repeat (first | exact List.Mem.head _ | apply List.Mem.tail)) (by repeat (first | exact Sub.done | apply Sub.take | apply Sub.skip))) ?_
                    refine lstepB rfl rfl rfl (run_move (.tmp rfl)) ?_
                    refine lstepB rfl rfl rfl (run_call1 cb19 (.cons (.tmp rfl) (.cons (.tmp rfl) .nil)) (fun w hS => backH fv hy1 rfl (by simp [flipP]) rfl hS.kept (Eq.trans (congrArg (valOf (0, 0)) fb) hbk) (Eq.trans (congrArg errOf fb) heb))) ?_
                    refine lstepB rfl rfl rfl (run_move (.tmp rfl)) ?_
                    refine lstepB rfl rfl rfl (run_extract (.tmp rfl) rfl) ?_
                    refine lstepB rfl rfl rfl (run_extract (.tmp rfl) rfl) ?_
                    refine lstep rfl rfl rfl (run_alloc zr32) ?_
                    intro b51 _
                    refine lstep0 rfl rfl (run_storeN (.tmp rfl) (.tmp rfl) rfl sz32 rfl (by repeat (first | exact Upd.here | apply Upd.there)) (by repeat (first | exact Put.done | apply Put.put | apply Put.skip))) ?_
                    refine lstepB rfl rfl rfl (run_assign (.tmp rfl)) ?_
                    refine lnil ?_
                    refine xw_then ?_
                    refine cw_seq ?_
                    refine cw_seq ?_
                    refine cw_region ?_
                    refine lstepB rfl rfl rfl (run_move (.tmp rfl)) ?_
                    refine lnil ?_
                    refine xw_then ?_
                    refine cw_block ?_
                    refine cw_seq ?_
                    refine cw_region ?_
                    refine lstepB rfl rfl rfl (run_eql (.tmp rfl) .const (by first | exact decide_eq_true (by omega) | exact decide_eq_false (by omega) | exact rfl)) ?_
                    refine lstepB rfl rfl rfl (run_assign (.tmp rfl)) ?_
                    refine lnil ?_
                    refine xw_then ?_
                    refine cw_cond_false (.tmp rfl) ?_
                    refine cw_seq ?_
                    refine cw_region ?_
                    refine lstepB rfl rfl rfl (run_eql (.tmp rfl) .const (by first | exact decide_eq_true (by omega) | exact decide_eq_false (by omega) | exact rfl)) ?_
                    refine lstepB rfl rfl rfl (run_assign (.tmp rfl)) ?_
                    refine lnil ?_
                    refine xw_then ?_
                    refine cw_cond_true (.tmp rfl) ?_
                    refine cw_seq ?_
                    refine cw_region ?_
                    refine lstepB rfl rfl rfl (run_move (.tmp rfl)) ?_
                    refine lstepB rfl rfl rfl (run_eql (.tmp rfl) .const (by first | exact decide_eq_true (by omega) | exact decide_eq_false (by omega) | exact rfl)) ?_
                    refine lnil ?_
                    refine xw_then ?_
                    refine cw_cond_false (.tmp rfl) ?_
                    refine cw_skip ?_
                    refine xw_in ?_
                    refine xw_then ?_
                    refine cw_seq ?_
                    refine cw_region ?_
                    refine lstepB rfl rfl rfl (run_move (.tmp rfl)) ?_
                    refine lstepB rfl rfl rfl (run_move (.tmp rfl)) ?_
                    refine lstepB rfl rfl rfl (run_neq (.tmp rfl) (.tmp rfl) (by first | exact decide_eq_true (by omega) | exact decide_eq_false (by omega) | exact rfl)) ?_
                    refine lstepB rfl rfl rfl (run_move (.tmp rfl)) ?_
                    refine lyes rfl rfl rfl rfl ?_
                    refine gstepB rfl rfl (run_move (.tmp rfl)) ?_
                    refine lyes rfl rfl rfl rfl ?_
                    refine gstepB rfl rfl (run_move (.tmp rfl)) ?_
                    refine lyes rfl rfl rfl rfl ?_
                    refine gstepB rfl rfl (En.run_neq_bool (.tmp rfl) (.tmp rfl) bl4 (show (!(bm == bm)) = false by simp)) ?_
                    refine lstepB rfl rfl rfl (by first | exact run_pick_true (.tmp rfl) .const | exact run_pick_false (.tmp rfl) (.tmp rfl)) ?_
                    refine lstepB rfl rfl rfl (run_move (.tmp rfl)) ?_
                    refine lyes rfl rfl rfl rfl ?_
                    refine gstepB rfl rfl (run_move (.tmp rfl)) ?_
                    refine lyes rfl rfl rfl rfl ?_
                    refine gstepB rfl rfl (run_gtr (.tmp rfl) .const (by first | exact decide_eq_true (by omega) | exact decide_eq_false (by omega) | exact rfl)) ?_
                    refine lyes rfl rfl rfl rfl ?_
                    refine gstepB rfl rfl (run_move (.tmp rfl)) ?_
                    refine lyes rfl rfl rfl rfl ?_
                    refine gstepB rfl rfl (run_move (.tmp rfl)) ?_
                    refine lyes rfl rfl rfl rfl ?_
                    refine gstepB rfl rfl (run_move (.tmp rfl)) ?_
                    refine lyes rfl rfl rfl rfl ?_
                    refine gstepB rfl rfl (run_neq (.tmp rfl) (.tmp rfl) (by first | exact decide_eq_true (by omega) | exact decide_eq_false (by omega) | exact rfl)) ?_
                    refine lyes rfl rfl rfl rfl ?_
                    refine gstepB rfl rfl (by first | exact run_pick_true (.tmp rfl) (.tmp rfl) | exact run_pick_false (.tmp rfl) .const) ?_
                    refine lstepB rfl rfl rfl (by first | exact run_pick_true (.tmp rfl) .const | exact run_pick_false (.tmp rfl) (.tmp rfl)) ?_
                    refine lstepB rfl rfl rfl (run_move (.tmp rfl)) ?_
                    refine lyes rfl rfl rfl rfl ?_
                    refine gstepB rfl rfl (run_move (.tmp rfl)) ?_
                    refine lyes rfl rfl rfl rfl ?_
                    refine gstepB rfl rfl (run_move (.tmp rfl)) ?_
                    refine lyes rfl rfl rfl rfl ?_
                    refine gstepB rfl rfl (run_neq (.tmp rfl) (.tmp rfl) (by first | exact decide_eq_true (by omega) | exact decide_eq_false (by omega) | exact rfl)) ?_
                    refine lstepB rfl rfl rfl (by first | exact run_pick_true (.tmp rfl) .const | exact run_pick_false (.tmp rfl) (.tmp rfl)) ?_
                    refine lstepB rfl rfl rfl (run_move (.tmp rfl)) ?_
                    refine lyes rfl rfl rfl rfl ?_
                    refine gstepB rfl rfl (run_loadN (.tmp rfl) kd32 sz32 (by repeat (first | exact List.Mem.head _ | apply List.Mem.tail)) (by repeat (first | exact Sub.done | apply Sub.take | apply Sub.skip))) ?_
                    refine lyes rfl rfl rfl rfl ?_
                    refine gstepB rfl rfl (run_loadN (.tmp rfl) kd32 sz32 (by repeat (first | exact List.Mem.head _ | apply List.Mem.tail)) (by repeat (first | exact Sub.done | apply Sub.take | apply Sub.skip))) ?_
                    refine lyes rfl rfl rfl rfl ?_
                    refine gstepB rfl rfl (run_eql_agg (.tmp rfl) (.tmp rfl) eg32 (neq32 (show _ = false from by first | (simp; done) | (simp only [Bool.not_eq_false', Bool.and_eq_true, decide_eq_true_eq]; omega)))) ?_
                    refine lstepB rfl rfl rfl (by first | exact run_pick_true (.tmp rfl) .const | exact run_pick_false (.tmp rfl) (.tmp rfl)) ?_
                    refine lstepB rfl rfl rfl (run_move (.tmp rfl)) ?_
                    refine lyes rfl rfl rfl rfl ?_
                    refine gstepB rfl rfl (run_loadN (.tmp rfl) kd32 sz32 (by repeat (first | exact List.Mem.head _ | apply List.Mem.tail)) (by repeat (first | exact Sub.done | apply Sub.take | apply Sub.skip))) ?_
                    refine lyes rfl rfl rfl rfl ?_
                    refine gstepB rfl rfl (run_loadN (.tmp rfl) kd32 sz32 (by repeat (first | exact List.Mem.head _ | apply List.Mem.tail)) (by repeat (first | exact Sub.done | apply Sub.take | apply Sub.skip))) ?_
                    refine lyes rfl rfl rfl rfl ?_
                    refine gstepB rfl rfl (run_eql_agg (.tmp rfl) (.tmp rfl) eg32 (neq32 (show _ = false from by first | (simp; done) | (simp only [Bool.not_eq_false', Bool.and_eq_true, decide_eq_true_eq]; omega)))) ?_
                    refine lstepB rfl rfl rfl (by first | exact run_pick_true (.tmp rfl) .const | exact run_pick_false (.tmp rfl) (.tmp rfl)) ?_
                    refine lstepB rfl rfl rfl (run_move (.tmp rfl)) ?_
                    refine lyes rfl rfl rfl rfl ?_
                    refine gstepB rfl rfl (run_move (.tmp rfl)) ?_
                    refine lyes rfl rfl rfl rfl ?_
                    refine gstepB rfl rfl (run_move (.tmp rfl)) ?_
                    refine lyes rfl rfl rfl rfl ?_
                    refine gstepB rfl rfl (run_neq (.tmp rfl) (.tmp rfl) (by first | exact decide_eq_true (by omega) | exact decide_eq_false (by omega) | exact rfl)) ?_
                    refine lstepB rfl rfl rfl (by first | exact run_pick_true (.tmp rfl) .const | exact run_pick_false (.tmp rfl) (.tmp rfl)) ?_
                    refine lstepB rfl rfl rfl (run_move (.tmp rfl)) ?_
                    refine lyes rfl rfl rfl rfl ?_
                    refine gstepB rfl rfl (run_loadN (.tmp rfl) kd32 sz32 (by repeat (first | exact List.Mem.head _ | apply List.Mem.tail)) (by repeat (first | exact Sub.done | apply Sub.take | apply Sub.skip))) ?_
                    refine lyes rfl rfl rfl rfl ?_
                    refine gstepB rfl rfl (run_loadN (.tmp rfl) kd32 sz32 (by repeat (first | exact List.Mem.head _ | apply List.Mem.tail)) (by repeat (first | exact Sub.done | apply Sub.take | apply Sub.skip))) ?_
                    refine lyes rfl rfl rfl rfl ?_
                    refine gstepB rfl rfl (run_eql_agg (.tmp rfl) (.tmp rfl) eg32 (neq32 (show _ = false from by first | (simp; done) | (simp only [Bool.not_eq_false', Bool.and_eq_true, decide_eq_true_eq]; omega)))) ?_
                    refine lstepB rfl rfl rfl (by first | exact run_pick_true (.tmp rfl) .const | exact run_pick_false (.tmp rfl) (.tmp rfl)) ?_
                    refine lstepB rfl rfl rfl (run_move (.tmp rfl)) ?_
                    refine lyes rfl rfl rfl rfl ?_
                    refine gstepB rfl rfl (run_move (.tmp rfl)) ?_
                    refine lyes rfl rfl rfl rfl ?_
                    refine gstepB rfl rfl (run_move (.tmp rfl)) ?_
                    refine lyes rfl rfl rfl rfl ?_
                    refine gstepB rfl rfl (run_neq (.tmp rfl) (.tmp rfl) (by first | exact decide_eq_true (by omega) | exact decide_eq_false (by omega) | exact rfl)) ?_
                    refine lstepB rfl rfl rfl (by first | exact run_pick_true (.tmp rfl) .const | exact run_pick_false (.tmp rfl) (.tmp rfl)) ?_
                    refine lstepB rfl rfl rfl (run_move (.tmp rfl)) ?_
                    refine lyes rfl rfl rfl rfl ?_
                    refine gstepB rfl rfl (run_loadN (.tmp rfl) kd32 sz32 (by repeat (first | exact List.Mem.head _ | apply List.Mem.tail)) (by repeat (first | exact Sub.done | apply Sub.take | apply Sub.skip))) ?_
                    refine lyes rfl rfl rfl rfl ?_
                    refine gstepB rfl rfl (run_loadN (.tmp rfl) kd32 sz32 (by repeat (first | exact List.Mem.head _ | apply List.Mem.tail)) (by repeat (first | exact Sub.done | apply Sub.take | apply Sub.skip))) ?_
                    refine lyes rfl rfl rfl rfl ?_
                    refine gstepB rfl rfl (run_eql_agg (.tmp rfl) (.tmp rfl) eg32 (neq32 (show _ = false from by first | (simp; done) | (simp only [Bool.not_eq_false', Bool.and_eq_true, decide_eq_true_eq]; omega)))) ?_
                    refine lstepB rfl rfl rfl (by first | exact run_pick_true (.tmp rfl) .const | exact run_pick_false (.tmp rfl) (.tmp rfl)) ?_
                    refine lstepB rfl rfl rfl (run_move (.tmp rfl)) ?_
                    refine lyes rfl rfl rfl rfl ?_
                    refine gstepB rfl rfl (run_move (.tmp rfl)) ?_
                    refine lyes rfl rfl rfl rfl ?_
                    refine gstepB rfl rfl (run_move (.tmp rfl)) ?_
                    refine lyes rfl rfl rfl rfl ?_
                    refine gstepB rfl rfl (run_neq (.tmp rfl) (.tmp rfl) (by first | exact decide_eq_true (by omega) | exact decide_eq_false (by omega) | exact rfl)) ?_
                    refine lstepB rfl rfl rfl (by first | exact run_pick_true (.tmp rfl) .const | exact run_pick_false (.tmp rfl) (.tmp rfl)) ?_
                    refine lstepB rfl rfl rfl (run_move (.tmp rfl)) ?_
                    refine lyes rfl rfl rfl rfl ?_
                    refine gstepB rfl rfl (run_loadN (.tmp rfl) kd32 sz32 (by repeat (first | exact List.Mem.head _ | apply List.Mem.tail)) (by repeat (first | exact Sub.done | apply Sub.take | apply Sub.skip))) ?_
                    refine lyes rfl rfl rfl rfl ?_
                    refine gstepB rfl rfl (run_loadN (.tmp rfl) kd32 sz32 (by repeat (first | exact List.Mem.head _ | apply List.Mem.tail)) (by repeat (first | exact Sub.done | apply Sub.take | apply Sub.skip))) ?_
                    refine lyes rfl rfl rfl rfl ?_
                    refine gstepB rfl rfl (run_eql_agg (.tmp rfl) (.tmp rfl) eg32 (neq32 (show _ = false from by first | (simp; done) | (simp only [Bool.not_eq_false', Bool.and_eq_true, decide_eq_true_eq]; omega)))) ?_
                    refine lstepB rfl rfl rfl (by first | exact run_pick_true (.tmp rfl) .const | exact run_pick_false (.tmp rfl) (.tmp rfl)) ?_
                    refine lnil ?_
                    refine xw_then ?_
                    refine cw_cond_false (.tmp rfl) ?_
                    refine cw_skip ?_
                    refine xw_in ?_
                    refine xw_then ?_
                    refine cw_region ?_
                    refine lstepB rfl rfl rfl (run_add (.tmp rfl) .const (by first | exact IntWalk.i64_in _ (by omega) | exact rfl)) ?_
                    refine lstepB rfl rfl rfl (run_move (.tmp rfl)) ?_
                    refine lnil ?_
                    exact xw_round (1 + 1) (by omega) (by omega) (by repeat (first | exact Less.nil | refine Less.cons rfl ?_)) (by repeat (first | exact Pick.nil | (apply Pick.cons; focus (repeat (first | exact Del.here | apply Del.there)))))
                  ·
                    have hv2 : v = ((wa, wb), (wc, wd)) := by have h := hw; rw [f1] at h; exact h
                    subst hv2
                    have he0 : ew = 0 := by have h := hew; rw [f1] at h; exact h.symm
                    subst he0
                    have hwi := where_in hv f1
                    refine cw_skip ?_
                    refine xw_then ?_
                    refine cw_seq ?_
                    refine cw_block ?_
                    refine cw_seq ?_
                    refine cw_region ?_
                    refine lstepB rfl rfl rfl (run_move (.tmp rfl)) ?_
                    refine lstepB rfl rfl rfl (run_indexAddr (i := 1) (off' := 3) (.tmp rfl) (.tmp rfl) el68 (by omega) rfl) ?_
                    refine lstepB rfl rfl rfl (run_loadN (.tmp rfl) kd25 sz25 (by repeat (first | exact List.Mem.head _ | apply List.Mem.tail)) (by repeat (first | exact Sub.done | apply Sub.take | apply Sub.skip))) ?_
                    refine lstep rfl rfl rfl (run_alloc zr25) ?_
                    intro b37 _
                    refine lstepB rfl rfl rfl (run_assign (.tmp rfl)) ?_
                    refine lstep0 rfl rfl (run_storeN (.tmp rfl) (.tmp rfl) rfl sz25 rfl (by repeat (first | exact Upd.here | apply Upd.there)) (by repeat (first | exact Put.done | apply Put.put | apply Put.skip))) ?_
                    refine lnil ?_
                    refine xw_then ?_
                    refine cw_seq ?_
                    refine cw_region ?_
                    refine lstepB rfl rfl rfl (run_move (.tmp rfl)) ?_
                    refine lstepB rfl rfl rfl (run_move (.tmp rfl)) ?_
                    refine lstepB rfl rfl rfl (run_move (.tmp rfl)) ?_
                    refine lstepB rfl rfl rfl (run_assign (.tmp rfl)) ?_
                    refine lstepB rfl rfl rfl (run_assign (.tmp rfl)) ?_
                    refine lstepB rfl rfl rfl (run_assign (.tmp rfl)) ?_
                    refine lnil ?_
                    refine xw_then ?_
                    refine cw_seq ?_
                    refine cw_seq ?_
                    refine cw_region ?_
                    refine lstepB rfl rfl rfl (run_move (.tmp rfl)) ?_
                    refine lstepB rfl rfl rfl (run_eql (.tmp rfl) .const (by first | exact decide_eq_true (by omega) | exact decide_eq_false (by omega) | exact rfl)) ?_
                    refine lnil ?_
                    refine xw_then ?_
                    refine cw_cond_false (.tmp rfl) ?_
                    refine cw_skip ?_
                    refine xw_then ?_
                    refine cw_seq ?_
                    refine cw_region ?_
                    refine lstepB rfl rfl rfl (run_loadN (.tmp rfl) kd25 sz25 (by repeat (first | exact List.Mem.head _ | apply List.Mem.tail)) (by repeat (first | exact Sub.done | apply Sub.take | apply Sub.skip))) ?_
                    refine lstepB rfl rfl rfl (run_call1 cb13 (.cons (.tmp rfl) .nil) (fun w hS => movedH fv hy1 rfl (by simp [flipP]) rfl hS.kept (Eq.trans (congrArg Prod.fst fm) hS0) (Eq.trans (congrArg Prod.snd fm) hbm) (fe.trans hem))) ?_
                    refine lstepB rfl rfl rfl (run_move (.tmp rfl)) ?_
                    refine lstepB rfl rfl rfl (run_extract (.tmp rfl) rfl) ?_
                    refine lstepB rfl rfl rfl (run_extract (.tmp rfl) rfl) ?_
                    refine lstepB rfl rfl rfl (run_extract (.tmp rfl) rfl) ?_
                    refine lstepB rfl rfl rfl (run_assign (.tmp rfl)) ?_
                    refine lstepB rfl rfl rfl (run_assign (.tmp rfl)) ?_
                    refine lstepB rfl rfl rfl (run_assign (.tmp rfl)) ?_
                    refine lnil ?_
                    refine xw_then ?_
                    refine cw_seq ?_
                    refine cw_region ?_
                    refine lstepB rfl rfl rfl (run_loadN (.tmp rfl) kd25 sz25 (by repeat (first | exact List.Mem.head _ | apply List.Mem.tail)) (by repeat (first | exact Sub.done | apply Sub.take | apply Sub.skip))) ?_
                    refine lstepB rfl rfl rfl (run_move (.tmp rfl)) ?_
                    refine lstepB rfl rfl rfl (run_call1 cb15 (.cons (.tmp rfl) (.cons (.tmp rfl) .nil)) (fun w hS => whereH fv hy1 rfl (by simp [flipP]) rfl hS.kept (show valOf ((0, 0), (0, 0)) (whereR (flipP p) x) = ((p.side - wb, p.side - wa), (p.side - wd, p.side - wc)) from by rw [f2]; rfl) (show errOf (whereR (flipP p) x) = 0 from by rw [f2]; rfl))) ?_
                    refine lstepB rfl rfl rfl (run_move (.tmp rfl)) ?_
                    refine lstepB rfl rfl rfl (run_extract (.tmp rfl) rfl) ?_
                    refine lstepB rfl rfl rfl (run_extract (.tmp rfl) rfl) ?_
                    refine lstepB rfl rfl rfl (run_extract (.tmp rfl) rfl) ?_
                    refine lstep rfl rfl rfl (run_alloc zr32) ?_
                    intro b44 _
                    refine lstep rfl rfl rfl (run_alloc zr32) ?_
                    intro b45 _
                    refine lstep0 rfl rfl (run_storeN (.tmp rfl) (.tmp rfl) rfl sz32 rfl (by repeat (first | exact Upd.here | apply Upd.there)) (by repeat (first | exact Put.done | apply Put.put | apply Put.skip))) ?_
                    refine lstep0 rfl rfl (run_storeN (.tmp rfl) (.tmp rfl) rfl sz32 rfl (by repeat (first | exact Upd.here | apply Upd.there)) (by repeat (first | exact Put.done | apply Put.put | apply Put.skip))) ?_
                    refine lstepB rfl rfl rfl (run_assign (.tmp rfl)) ?_
                    refine lnil ?_
                    refine xw_then ?_
                    refine cw_seq ?_
                    refine cw_region ?_
                    refine lstepB rfl rfl rfl (run_loadN (.tmp rfl) kd25 sz25 (by repeat (first | exact List.Mem.head _ | apply List.Mem.tail)) (by repeat (first | exact Sub.done | apply Sub.take | apply Sub.skip))) ?_
                    refine lstepB rfl rfl rfl (run_move (.tmp rfl)) ?_
                    refine lstepB rfl rfl rfl (run_move (.tmp rfl)) ?_
                    refine lstepB rfl rfl rfl (run_call1 cb21 (.cons (.tmp rfl) (.cons (.tmp rfl) (.cons (.tmp rfl) .nil))) (fun w hS => apartH fv hy1 rfl (by simp [flipP]) rfl hS.kept (Eq.trans (congrArg (valOf (0, 0)) fa) ha) (Eq.trans (congrArg errOf fa) hea))) ?_
                    refine lstepB rfl rfl rfl (run_move (.tmp rfl)) ?_
                    refine lstepB rfl rfl rfl (run_extract (.tmp rfl) rfl) ?_
                    refine lstepB rfl rfl rfl (run_extract (.tmp rfl) rfl) ?_
                    refine lstep rfl rfl rfl (run_alloc zr32) ?_
                    intro b47 _
                    refine lstep0 rfl rfl (run_storeN (.tmp rfl) (.tmp rfl) rfl sz32 rfl (by repeat (first | exact Upd.here | apply Upd.there)) (by repeat (first | exact Put.done | apply Put.put | apply Put.skip))) ?_
                    refine lstepB rfl rfl rfl (run_assign (.tmp rfl)) ?_
                    refine lnil ?_
                    refine xw_then ?_
                    refine cw_seq ?_
                    refine cw_region ?_
                    refine lstepB rfl rfl rfl (run_loadN (.tmp rfl) kd25 sz25 (by repeat (first | exact List.Mem.head _ | apply List.Mem.tail)) (by repeat (first | exact Sub.done | apply Sub.take | apply Sub.skip))) ?_
                    refine lstepB rfl rfl rfl (run_move (.tmp rfl)) ?_
                    refine lstepB rfl rfl rfl (run_move (.tmp rfl)) ?_
                    refine lstepB rfl rfl rfl (run_move (.tmp rfl)) ?_
                    refine lstepB rfl rfl rfl (run_call1 cb23 (.cons (.tmp rfl) (.cons (.tmp rfl) (.cons (.tmp rfl) (.cons (.tmp rfl) .nil)))) (fun w hS => areaH fv hy1 rfl (by simp [flipP]) rfl hS.kept (Eq.trans (congrArg (valOf (0, 0)) fr) hr) (Eq.trans (congrArg errOf fr) her))) ?_
                    refine lstepB rfl rfl rfl (run_move (.tmp rfl)) ?_
                    refine lstepB rfl rfl rfl (run_extract (.tmp rfl) rfl) ?_
                    refine lstepB rfl rfl rfl (run_extract (.tmp rfl) rfl) ?_
                    refine lstep rfl rfl rfl (run_alloc zr32) ?_
                    intro b49 _
                    refine lstep0 rfl rfl (run_storeN (.tmp rfl) (.tmp rfl) rfl sz32 rfl (by repeat (first | exact Upd.here | apply Upd.there)) (by repeat (first | exact Put.done | apply Put.put | apply Put.skip))) ?_
                    refine lstepB rfl rfl rfl (run_assign (.tmp rfl)) ?_
                    refine lnil ?_
                    refine xw_then ?_
                    refine cw_seq ?_
                    refine cw_region ?_
                    refine lstepB rfl rfl rfl (run_loadN (.tmp rfl) kd25 sz25 (by repeat (first | exact List.Mem.head _ | apply List.Mem.tail)) (by repeat (first | exact Sub.done | apply Sub.take | apply Sub.skip))) ?_
                    refine lstepB rfl rfl rfl (run_move (.tmp rfl)) ?_
                    refine lstepB rfl rfl rfl (run_call1 cb19 (.cons (.tmp rfl) (.cons (.tmp rfl) .nil)) (fun w hS => backH fv hy1 rfl (by simp [flipP]) rfl hS.kept (Eq.trans (congrArg (valOf (0, 0)) fb) hbk) (Eq.trans (congrArg errOf fb) heb))) ?_
                    refine lstepB rfl rfl rfl (run_move (.tmp rfl)) ?_
                    refine lstepB rfl rfl rfl (run_extract (.tmp rfl) rfl) ?_
                    refine lstepB rfl rfl rfl (run_extract (.tmp rfl) rfl) ?_
                    refine lstep rfl rfl rfl (run_alloc zr32) ?_
                    intro b51 _
                    refine lstep0 rfl rfl (run_storeN (.tmp rfl) (.tmp rfl) rfl sz32 rfl (by repeat (first | exact Upd.here | apply Upd.there)) (by repeat (first | exact Put.done | apply Put.put | apply Put.skip))) ?_
                    refine lstepB rfl rfl rfl (run_assign (.tmp rfl)) ?_
                    refine lnil ?_
                    refine xw_then ?_
                    refine cw_seq ?_
                    refine cw_seq ?_
                    refine cw_region ?_
                    refine lstepB rfl rfl rfl (run_move (.tmp rfl)) ?_
                    refine lnil ?_
                    refine xw_then ?_
                    refine cw_block ?_
                    refine cw_seq ?_
                    refine cw_region ?_
                    refine lstepB rfl rfl rfl (run_eql (.tmp rfl) .const (by first | exact decide_eq_true (by omega) | exact decide_eq_false (by omega) | exact rfl)) ?_
                    refine lstepB rfl rfl rfl (run_assign (.tmp rfl)) ?_
                    refine lnil ?_
                    refine xw_then ?_
                    refine cw_cond_false (.tmp rfl) ?_
                    refine cw_seq ?_
                    refine cw_region ?_
                    refine lstepB rfl rfl rfl (run_eql (.tmp rfl) .const (by first | exact decide_eq_true (by omega) | exact decide_eq_false (by omega) | exact rfl)) ?_
                    refine lstepB rfl rfl rfl (run_assign (.tmp rfl)) ?_
                    refine lnil ?_
                    refine xw_then ?_
                    refine cw_cond_true (.tmp rfl) ?_
                    refine cw_seq ?_
                    refine cw_region ?_
                    refine lstepB rfl rfl rfl (run_move (.tmp rfl)) ?_
                    refine lstepB rfl rfl rfl (run_eql (.tmp rfl) .const (by first | exact decide_eq_true (by omega) | exact decide_eq_false (by omega) | exact rfl)) ?_
                    refine lnil ?_
                    refine xw_then ?_
                    refine cw_cond_true (.tmp rfl) ?_
                    refine cw_chain2 (σ := [0, 1, 2, 3, 4, 5, 6, 7]) [⟨0, [], [], [], 0⟩, ⟨0, [4], [], [], 0⟩, ⟨0, [], [], [], 3⟩, ⟨0, [], [], [], 0⟩, ⟨0, [3], [], [], 0⟩, ⟨0, [], [], [], 31⟩, ⟨0, [], [4], [4], 63⟩, ⟨0, [], [3], [3], 127⟩] [(0, _), (1, _), (2, _), (3, _), (4, _), (5, _), (6, _), (7, _), (8, _), (9, _), (10, _), (11, _), (12, _), (13, _)] (by kernel_rfl) (by kernel_rfl) rfl ?_
                    refine .det (B := []) rfl rfl (.inl rfl) .nil .nil rfl (RunB.lr (run_move (.tmp rfl))) ?_
                    refine .det (B := []) rfl rfl (.inl rfl) (.cons rfl .nil) .nil rfl (RunB.lr (run_loadN (.tmp rfl) kd32 sz32 (by repeat (first | exact List.Mem.head _ | apply List.Mem.tail)) (by repeat (first | exact Sub.done | apply Sub.take | apply Sub.skip)))) ?_
                    refine .det (B := []) rfl rfl (.inl rfl) .nil .nil rfl (RunB.lr (run_callv1 cb42 (.tmp rfl) (.cons (.tmp rfl) .nil) rfl (fun w hS => leftK (n := p.side) (a := p.side - wb) (d := p.side - wa) (by omega) (by omega) (by omega) (hS.old_cell (fun h => h) (c5 0 _ rfl))))) ?_
                    refine .det (B := []) rfl rfl (.inl rfl) .nil .nil rfl (RunB.lr (run_move (.tmp rfl))) ?_
                    refine .det (B := []) rfl rfl (.inl rfl) (.cons rfl .nil) .nil rfl (RunB.lr (run_loadN (.tmp rfl) kd32 sz32 (by repeat (first | exact List.Mem.head _ | apply List.Mem.tail)) (by repeat (first | exact Sub.done | apply Sub.take | apply Sub.skip)))) ?_
                    refine .det (B := []) rfl rfl (.inl rfl) .nil .nil rfl (RunB.lr (run_callv1 cb42 (.tmp rfl) (.cons (.tmp rfl) .nil) rfl (fun w hS => leftK (n := p.side) (a := p.side - wd) (d := p.side - wc) (by omega) (by omega) (by omega) (hS.old_cell (fun h => h) (c5 0 _ rfl))))) ?_
                    refine .det (B := [(4, (_, _))]) rfl rfl (.inl rfl) .nil (.cons rfl .nil) rfl (lr_storeN (.tmp rfl) (.tmp rfl) rfl sz32 rfl (by repeat (first | exact Put.done | apply Put.put | apply Put.skip))) ?_
                    refine .det (B := [(3, (_, _))]) rfl rfl (.inl rfl) .nil (.cons rfl .nil) rfl (lr_storeN (.tmp rfl) (.tmp rfl) rfl sz32 rfl (by repeat (first | exact Put.done | apply Put.put | apply Put.skip))) ?_
                    refine chain_nil (ts := [0, 1, 2, 3, 4, 5, 6, 7, 8, 9, 10, 11, 12, 13]) (.cons rfl (.cons rfl (.cons rfl (.cons rfl (.cons rfl (.cons rfl (.cons rfl (.cons rfl (.cons rfl (.cons rfl (.cons rfl (.cons rfl (.cons rfl (.cons rfl .nil)))))))))))))) (by decide) ?_
                    refine xw_in ?_
                    refine xw_then ?_
                    refine cw_seq ?_
                    refine cw_region ?_
                    refine lstepB rfl rfl rfl (run_move (.tmp rfl)) ?_
                    refine lstepB rfl rfl rfl (run_move (.tmp rfl)) ?_
                    refine lstepB rfl rfl rfl (run_neq (.tmp rfl) (.tmp rfl) (by first | exact decide_eq_true (by omega) | exact decide_eq_false (by omega) | exact rfl)) ?_
                    refine lstepB rfl rfl rfl (run_move (.tmp rfl)) ?_
                    refine lyes rfl rfl rfl rfl ?_
                    refine gstepB rfl rfl (run_move (.tmp rfl)) ?_
                    refine lyes rfl rfl rfl rfl ?_
                    refine gstepB rfl rfl (run_move (.tmp rfl)) ?_
                    refine lyes rfl rfl rfl rfl ?_
                    refine gstepB rfl rfl (En.run_neq_bool (.tmp rfl) (.tmp rfl) bl4 (show (!(bm == bm)) = false by simp)) ?_
                    refine lstepB rfl rfl rfl (by first | exact run_pick_true (.tmp rfl) .const | exact run_pick_false (.tmp rfl) (.tmp rfl)) ?_
                    refine lstepB rfl rfl rfl (run_move (.tmp rfl)) ?_
                    refine lyes rfl rfl rfl rfl ?_
                    refine gstepB rfl rfl (run_move (.tmp rfl)) ?_
                    refine lyes rfl rfl rfl rfl ?_
                    refine gstepB rfl rfl (run_gtr (.tmp rfl) .const (by first | exact decide_eq_true (by omega) | exact decide_eq_false (by omega) | exact rfl)) ?_
                    refine lyes rfl rfl rfl rfl ?_
                    refine gstepB rfl rfl (run_move (.tmp rfl)) ?_
                    refine lyes rfl rfl rfl rfl ?_
                    refine gstepB rfl rfl (run_move (.tmp rfl)) ?_
                    refine lyes rfl rfl rfl rfl ?_
                    refine gstepB rfl rfl (run_move (.tmp rfl)) ?_
                    refine lyes rfl rfl rfl rfl ?_
                    refine gstepB rfl rfl (run_neq (.tmp rfl) (.tmp rfl) (by first | exact decide_eq_true (by omega) | exact decide_eq_false (by omega) | exact rfl)) ?_
                    refine lyes rfl rfl rfl rfl ?_
                    refine gstepB rfl rfl (by first | exact run_pick_true (.tmp rfl) (.tmp rfl) | exact run_pick_false (.tmp rfl) .const) ?_
                    refine lstepB rfl rfl rfl (by first | exact run_pick_true (.tmp rfl) .const | exact run_pick_false (.tmp rfl) (.tmp rfl)) ?_
                    refine lstepB rfl rfl rfl (run_move (.tmp rfl)) ?_
                    refine lyes rfl rfl rfl rfl ?_
                    refine gstepB rfl rfl (run_move (.tmp rfl)) ?_
                    refine lyes rfl rfl rfl rfl ?_
                    refine gstepB rfl rfl (run_move (.tmp rfl)) ?_
                    refine lyes rfl rfl rfl rfl ?_
                    refine gstepB rfl rfl (run_neq (.tmp rfl) (.tmp rfl) (by first | exact decide_eq_true (by omega) | exact decide_eq_false (by omega) | exact rfl)) ?_
                    refine lstepB rfl rfl rfl (by first | exact run_pick_true (.tmp rfl) .const | exact run_pick_false (.tmp rfl) (.tmp rfl)) ?_
                    refine lstepB rfl rfl rfl (run_move (.tmp rfl)) ?_
                    refine lyes rfl rfl rfl rfl ?_
                    refine gstepB rfl rfl (run_loadN (.tmp rfl) kd32 sz32 (by repeat (first | exact List.Mem.head _ | apply List.Mem.tail)) (by repeat (first | exact Sub.done | apply Sub.take | apply Sub.skip))) ?_
                    refine lyes rfl rfl rfl rfl ?_
                    refine gstepB rfl rfl (run_loadN (.tmp rfl) kd32 sz32 (by repeat (first | exact List.Mem.head _ | apply List.Mem.tail)) (by repeat (first | exact Sub.done | apply Sub.take | apply Sub.skip))) ?_
                    refine lyes rfl rfl rfl rfl ?_
                    refine gstepB rfl rfl (run_eql_agg (.tmp rfl) (.tmp rfl) eg32 (neq32 (show _ = false from by first | (simp; done) | (simp only [Bool.not_eq_false', Bool.and_eq_true, decide_eq_true_eq]; omega)))) ?_
                    refine lstepB rfl rfl rfl (by first | exact run_pick_true (.tmp rfl) .const | exact run_pick_false (.tmp rfl) (.tmp rfl)) ?_
                    refine lstepB rfl rfl rfl (run_move (.tmp rfl)) ?_
                    refine lyes rfl rfl rfl rfl ?_
                    refine gstepB rfl rfl (run_loadN (.tmp rfl) kd32 sz32 (by repeat (first | exact List.Mem.head _ | apply List.Mem.tail)) (by repeat (first | exact Sub.done | apply Sub.take | apply Sub.skip))) ?_
                    refine lyes rfl rfl rfl rfl ?_
                    refine gstepB rfl rfl (run_loadN (.tmp rfl) kd32 sz32 (by repeat (first | exact List.Mem.head _ | apply List.Mem.tail)) (by repeat (first | exact Sub.done | apply Sub.take | apply Sub.skip))) ?_
                    refine lyes rfl rfl rfl rfl ?_
                    refine gstepB rfl rfl (run_eql_agg (.tmp rfl) (.tmp rfl) eg32 (neq32 (show _ = false from by first | (simp; done) | (simp only [Bool.not_eq_false', Bool.and_eq_true, decide_eq_true_eq]; omega)))) ?_
                    refine lstepB rfl rfl rfl (by first | exact run_pick_true (.tmp rfl) .const | exact run_pick_false (.tmp rfl) (.tmp rfl)) ?_
                    refine lstepB rfl rfl rfl (run_move (.tmp rfl)) ?_
                    refine lyes rfl rfl rfl rfl ?_
                    refine gstepB rfl rfl (run_move (.tmp rfl)) ?_
                    refine lyes rfl rfl rfl rfl ?_
                    refine gstepB rfl rfl (run_move (.tmp rfl)) ?_
                    refine lyes rfl rfl rfl rfl ?_
                    refine gstepB rfl rfl (run_neq (.tmp rfl) (.tmp rfl) (by first | exact decide_eq_true (by omega) | exact decide_eq_false (by omega) | exact rfl)) ?_
                    refine lstepB rfl rfl rfl (by first | exact run_pick_true (.tmp rfl) .const | exact run_pick_false (.tmp rfl) (.tmp rfl)) ?_
                    refine lstepB rfl rfl rfl (run_move (.tmp rfl)) ?_
                    refine lyes rfl rfl rfl rfl ?_
                    refine gstepB rfl rfl (run_loadN (.tmp rfl) kd32 sz32 (by repeat (first | exact List.Mem.head _ | apply List.Mem.tail)) (by repeat (first | exact Sub.done | apply Sub.take | apply Sub.skip))) ?_
                    refine lyes rfl rfl rfl rfl ?_
                    refine gstepB rfl rfl (run_loadN (.tmp rfl) kd32 sz32 (by repeat (first | exact List.Mem.head _ | apply List.Mem.tail)) (by repeat (first | exact Sub.done | apply Sub.take | apply Sub.skip))) ?_
                    refine lyes rfl rfl rfl rfl ?_
                    refine gstepB rfl rfl (run_eql_agg (.tmp rfl) (.tmp rfl) eg32 (neq32 (show _ = false from by first | (simp; done) | (simp only [Bool.not_eq_false', Bool.and_eq_true, decide_eq_true_eq]; omega)))) ?_
                    refine lstepB rfl rfl rfl (by first | exact run_pick_true (.tmp rfl) .const | exact run_pick_false (.tmp rfl) (.tmp rfl)) ?_
                    refine lstepB rfl rfl rfl (run_move (.tmp rfl)) ?_
                    refine lyes rfl rfl rfl rfl ?_
                    refine gstepB rfl rfl (run_move (.tmp rfl)) ?_
                    refine lyes rfl rfl rfl rfl ?_
                    refine gstepB rfl rfl (run_move (.tmp rfl)) ?_
                    refine lyes rfl rfl rfl rfl ?_
                    refine gstepB rfl rfl (run_neq (.tmp rfl) (.tmp rfl) (by first | exact decide_eq_true (by omega) | exact decide_eq_false (by omega) | exact rfl)) ?_
                    refine lstepB rfl rfl rfl (by first | exact run_pick_true (.tmp rfl) .const | exact run_pick_false (.tmp rfl) (.tmp rfl)) ?_
                    refine lstepB rfl rfl rfl (run_move (.tmp rfl)) ?_
                    refine lyes rfl rfl rfl rfl ?_
                    refine gstepB rfl rfl (run_loadN (.tmp rfl) kd32 sz32 (by repeat (first | exact List.Mem.head _ | apply List.Mem.tail)) (by repeat (first | exact Sub.done | apply Sub.take | apply Sub.skip))) ?_
                    refine lyes rfl rfl rfl rfl ?_
                    refine gstepB rfl rfl (run_loadN (.tmp rfl) kd32 sz32 (by repeat (first | exact List.Mem.head _ | apply List.Mem.tail)) (by repeat (first | exact Sub.done | apply Sub.take | apply Sub.skip))) ?_
                    refine lyes rfl rfl rfl rfl ?_
                    refine gstepB rfl rfl (run_eql_agg (.tmp rfl) (.tmp rfl) eg32 (neq32 (show _ = false from by first | (simp; done) | (simp only [Bool.not_eq_false', Bool.and_eq_true, decide_eq_true_eq]; omega)))) ?_
                    refine lstepB rfl rfl rfl (by first | exact run_pick_true (.tmp rfl) .const | exact run_pick_false (.tmp rfl) (.tmp rfl)) ?_
                    refine lstepB rfl rfl rfl (run_move (.tmp rfl)) ?_
                    refine lyes rfl rfl rfl rfl ?_
                    refine gstepB rfl rfl (run_move (.tmp rfl)) ?_
                    refine lyes rfl rfl rfl rfl ?_
                    refine gstepB rfl rfl (run_move (.tmp rfl)) ?_
                    refine lyes rfl rfl rfl rfl ?_
                    refine gstepB rfl rfl (run_neq (.tmp rfl) (.tmp rfl) (by first | exact decide_eq_true (by omega) | exact decide_eq_false (by omega) | exact rfl)) ?_
                    refine lstepB rfl rfl rfl (by first | exact run_pick_true (.tmp rfl) .const | exact run_pick_false (.tmp rfl) (.tmp rfl)) ?_
                    refine lstepB rfl rfl rfl (run_move (.tmp rfl)) ?_
                    refine lyes rfl rfl rfl rfl ?_
                    refine gstepB rfl rfl (run_loadN (.tmp rfl) kd32 sz32 (by repeat (first | exact List.Mem.head _ | apply List.Mem.tail)) (by repeat (first | exact Sub.done | apply Sub.take | apply Sub.skip))) ?_
                    refine lyes rfl rfl rfl rfl ?_
                    refine gstepB rfl rfl (run_loadN (.tmp rfl) kd32 sz32 (by repeat (first | exact List.Mem.head _ | apply List.Mem.tail)) (by repeat (first | exact Sub.done | apply Sub.take | apply Sub.skip))) ?_
                    refine lyes rfl rfl rfl rfl ?_
                    refine gstepB rfl rfl (run_eql_agg (.tmp rfl) (.tmp rfl) eg32 (neq32 (show _ = false from by first | (simp; done) | (simp only [Bool.not_eq_false', Bool.and_eq_true, decide_eq_true_eq]; omega)))) ?_
                    refine lstepB rfl rfl rfl (by first | exact run_pick_true (.tmp rfl) .const | exact run_pick_false (.tmp rfl) (.tmp rfl)) ?_
                    refine lnil ?_
                    refine xw_then ?_
                    refine cw_cond_false (.tmp rfl) ?_
                    refine cw_skip ?_
                    refine xw_in ?_
                    refine xw_then ?_
                    refine cw_region ?_
                    refine lstepB rfl rfl rfl (run_add (.tmp rfl) .const (by first | exact IntWalk.i64_in _ (by omega) | exact rfl)) ?_
                    refine lstepB rfl rfl rfl (run_move (.tmp rfl)) ?_
                    refine lnil ?_
                    exact xw_round (1 + 1) (by omega) (by omega) (by repeat (first | exact Less.nil | refine Less.cons rfl ?_)) (by repeat (first | exact Pick.nil | (apply Pick.cons; focus (repeat (first | exact Del.here | apply Del.there)))))
                ·
                  obtain ⟨sv, se, sm, sw, sa, sr, sb⟩ := told_swap hv x y z
                  rcases sw with ⟨f1, f2⟩ | ⟨v, f1, f2⟩
                  ·
                    have hne : ew ≠ 0 := by rw [← hew]; exact f1
                    have hz := (valOf_err (z := ((0, 0), (0, 0))) f1).symm.trans hw
                    simp only [Prod.mk.injEq] at hz
                    obtain ⟨⟨rfl, rfl⟩, rfl, rfl⟩ := hz
                    refine cw_skip ?_
                    refine xw_then ?_
                    refine cw_seq ?_
                    refine cw_block ?_
                    refine cw_seq ?_
                    refine cw_region ?_
                    refine lstepB rfl rfl rfl (run_move (.tmp rfl)) ?_
                    refine lstepB rfl rfl rfl (run_indexAddr (i := 2) (off' := 6) (.tmp rfl) (.tmp rfl) el68 (by omega) rfl) ?_
                    refine lstepB rfl rfl rfl (run_loadN (.tmp rfl) kd25 sz25 (by repeat (first | exact List.Mem.head _ | apply List.Mem.tail)) (by repeat (first | exact Sub.done | apply Sub.take | apply Sub.skip))) ?_
                    refine lstep rfl rfl rfl (run_alloc zr25) ?_
                    intro b37 _
                    refine lstepB rfl rfl rfl (run_assign (.tmp rfl)) ?_
                    refine lstep0 rfl rfl (run_storeN (.tmp rfl) (.tmp rfl) rfl sz25 rfl (by repeat (first | exact Upd.here | apply Upd.there)) (by repeat (first | exact Put.done | apply Put.put | apply Put.skip))) ?_
                    refine lnil ?_
                    refine xw_then ?_
                    refine cw_seq ?_
                    refine cw_region ?_
                    refine lstepB rfl rfl rfl (run_move (.tmp rfl)) ?_
                    refine lstepB rfl rfl rfl (run_move (.tmp rfl)) ?_
                    refine lstepB rfl rfl rfl (run_move (.tmp rfl)) ?_
                    refine lstepB rfl rfl rfl (run_assign (.tmp rfl)) ?_
                    refine lstepB rfl rfl rfl (run_assign (.tmp rfl)) ?_
                    refine lstepB rfl rfl rfl (run_assign (.tmp rfl)) ?_
                    refine lnil ?_
                    refine xw_then ?_
                    refine cw_seq ?_
                    refine cw_seq ?_
                    refine cw_region ?_
                    refine lstepB rfl rfl rfl (run_move (.tmp rfl)) ?_
                    refine lstepB rfl rfl rfl (run_eql (.tmp rfl) .const (by first | exact decide_eq_true (by omega) | exact decide_eq_false (by omega) | exact rfl)) ?_
                    refine lnil ?_
                    refine xw_then ?_
                    refine cw_cond_false (.tmp rfl) ?_
                    refine cw_skip ?_
                    refine xw_then ?_
                    refine cw_seq ?_
                    refine cw_region ?_
                    refine lstepB rfl rfl rfl (run_loadN (.tmp rfl) kd25 sz25 (by repeat (first | exact List.Mem.head _ | apply List.Mem.tail)) (by repeat (first | exact Sub.done | apply Sub.take | apply Sub.skip))) ?_
                    refine lstepB rfl rfl rfl (run_call1 cb13 (.cons (.tmp rfl) .nil) (fun w hS => movedH sv hz1 rfl (by simp [swapP]) rfl hS.kept (Eq.trans (congrArg Prod.fst sm) hS0) (Eq.trans (congrArg Prod.snd sm) hbm) (se.trans hem))) ?_
                    refine lstepB rfl rfl rfl (run_move (.tmp rfl)) ?_
                    refine lstepB rfl rfl rfl (run_extract (.tmp rfl) rfl) ?_
                    refine lstepB rfl rfl rfl (run_extract (.tmp rfl) rfl) ?_
                    refine lstepB rfl rfl rfl (run_extract (.tmp rfl) rfl) ?_
                    refine lstepB rfl rfl rfl (run_assign (.tmp rfl)) ?_
                    refine lstepB rfl rfl rfl (run_assign (.tmp rfl)) ?_
                    refine lstepB rfl rfl rfl (run_assign (.tmp rfl)) ?_
                    refine lnil ?_
                    refine xw_then ?_
                    refine cw_seq ?_
                    refine cw_region ?_
                    refine lstepB rfl rfl rfl (run_loadN (.tmp rfl) kd25 sz25 (by repeat (first | exact List.Mem.head _ | apply List.Mem.tail)) (by repeat (first | exact Sub.done | apply Sub.take | apply Sub.skip))) ?_
                    refine lstepB rfl rfl rfl (run_move (.tmp rfl)) ?_
                    refine lstepB rfl rfl rfl (run_call1 cb15 (.cons (.tmp rfl) (.cons (.tmp rfl) .nil)) (fun w hS => whereH sv hz1 rfl (by simp [swapP]) rfl hS.kept (Eq.trans (congrArg (valOf ((0, 0), (0, 0))) f2) hw) (Eq.trans (congrArg errOf f2) hew))) ?_
                    refine lstepB rfl rfl rfl (run_move (.tmp rfl)) ?_
                    refine lstepB rfl rfl rfl (run_extract (.tmp rfl) rfl) ?_
                    refine lstepB rfl rfl rfl (run_extract (.tmp rfl) rfl) ?_
                    refine lstepB rfl rfl rfl (run_extract (.tmp rfl) rfl) ?_
                    refine lstep rfl rfl rfl (run_alloc zr32) ?_
                    intro b44 _
                    refine lstep rfl rfl rfl (run_alloc zr32) ?_
                    intro b45 _
                    refine lstep0 rfl rfl (run_storeN (.tmp rfl) (.tmp rfl) rfl sz32 rfl (by repeat (first | exact Upd.here | apply Upd.there)) (by repeat (first | exact Put.done | apply Put.put | apply Put.skip))) ?_
                    refine lstep0 rfl rfl (run_storeN (.tmp rfl) (.tmp rfl) rfl sz32 rfl (by repeat (first | exact Upd.here | apply Upd.there)) (by repeat (first | exact Put.done | apply Put.put | apply Put.skip))) ?_
                    refine lstepB rfl rfl rfl (run_assign (.tmp rfl)) ?_
                    refine lnil ?_
                    refine xw_then ?_
                    refine cw_seq ?_
                    refine cw_region ?_
                    refine lstepB rfl rfl rfl (run_loadN (.tmp rfl) kd25 sz25 (by repeat (first | exact List.Mem.head _ | apply List.Mem.tail)) (by repeat (first | exact Sub.done | apply Sub.take | apply Sub.skip))) ?_
                    refine lstepB rfl rfl rfl (run_move (.tmp rfl)) ?_
                    refine lstepB rfl rfl rfl (run_move (.tmp rfl)) ?_
                    refine lstepB rfl rfl rfl (run_call1 cb21 (.cons (.tmp rfl) (.cons (.tmp rfl) (.cons (.tmp rfl) .nil))) (fun w hS => apartH sv hz1 rfl (by simp [swapP]) rfl hS.kept (Eq.trans (congrArg (valOf (0, 0)) sa) ha) (Eq.trans (congrArg errOf sa) hea))) ?_
                    refine lstepB rfl rfl rfl (run_move (.tmp rfl)) ?_
                    refine lstepB rfl rfl rfl (run_extract (.tmp rfl) rfl) ?_
                    refine lstepB rfl rfl rfl (run_extract (.tmp rfl) rfl) ?_
                    refine lstep rfl rfl rfl (run_alloc zr32) ?_
                    intro b47 _
                    refine lstep0 rfl rfl (run_storeN (.tmp rfl) (.tmp rfl) rfl sz32 rfl (by repeat (first | exact Upd.here | apply Upd.there)) (by repeat (first | exact Put.done | apply Put.put | apply Put.skip))) ?_
                    refine lstepB rfl rfl rfl (run_assign (.tmp rfl)) ?_
                    refine lnil ?_
                    refine xw_then ?_
                    refine cw_seq ?_
                    refine cw_region ?_
                    refine lstepB rfl rfl rfl (run_loadN (.tmp rfl) kd25 sz25 (by repeat (first | exact List.Mem.head _ | apply List.Mem.tail)) (by repeat (first | exact Sub.done | apply Sub.take | apply Sub.skip))) ?_
                    refine lstepB rfl rfl rfl (run_move (.tmp rfl)) ?_
                    refine lstepB rfl rfl rfl (run_move (.tmp rfl)) ?_
                    refine lstepB rfl rfl rfl (run_move (.tmp rfl)) ?_
                    refine lstepB rfl rfl rfl (run_call1 cb23 (.cons (.tmp rfl) (.cons (.tmp rfl) (.cons (.tmp rfl) (.cons (.tmp rfl) .nil)))) (fun w hS => areaH sv hz1 rfl (by simp [swapP]) rfl hS.kept (Eq.trans (congrArg (valOf (0, 0)) sr) hr) (Eq.trans (congrArg errOf sr) her))) ?_
                    refine lstepB rfl rfl rfl (run_move (.tmp rfl)) ?_
                    refine lstepB rfl rfl rfl (run_extract (.tmp rfl) rfl) ?_
                    refine lstepB rfl rfl rfl (run_extract (.tmp rfl) rfl) ?_
                    refine lstep rfl rfl rfl (run_alloc zr32) ?_
                    intro b49 _
                    refine lstep0 rfl rfl (run_storeN (.tmp rfl) (.tmp rfl) rfl sz32 rfl (by repeat (first | exact Upd.here | apply Upd.there)) (by repeat (first | exact Put.done | apply Put.put | apply Put.skip))) ?_
                    refine lstepB rfl rfl rfl (run_assign (.tmp rfl)) ?_
                    refine lnil ?_
                    refine xw_then ?_
                    refine cw_seq ?_
                    refine cw_region ?_
                    refine lstepB rfl rfl rfl (run_loadN (.tmp rfl) kd25 sz25 (by repeat (first | exact List.Mem.head _ | apply List.Mem.tail)) (by repeat (first | exact Sub.done | apply Sub.take | apply Sub.skip))) ?_
                    refine lstepB rfl rfl rfl (run_move (.tmp rfl)) ?_
                    refine lstepB rfl rfl rfl (run_call1 cb19 (.cons (.tmp rfl) (.cons (.tmp rfl) .nil)) (fun w hS => backH sv hz1 rfl (by simp [swapP]) rfl hS.kept (Eq.trans (congrArg (valOf (0, 0)) sb) hbk) (Eq.trans (congrArg errOf sb) heb))) ?_
                    refine lstepB rfl rfl rfl (run_move (.tmp rfl)) ?_
                    refine lstepB rfl rfl rfl (run_extract (.tmp rfl) rfl) ?_
                    refine lstepB rfl rfl rfl (run_extract (.tmp rfl) rfl) ?_
                    refine lstep rfl rfl rfl (run_alloc zr32) ?_
                    intro b51 _
                    refine lstep0 rfl rfl (run_storeN (.tmp rfl) (.tmp rfl) rfl sz32 rfl (by repeat (first | exact Upd.here | apply Upd.there)) (by repeat (first | exact Put.done | apply Put.put | apply Put.skip))) ?_
                    refine lstepB rfl rfl rfl (run_assign (.tmp rfl)) ?_
                    refine lnil ?_
                    refine xw_then ?_
                    refine cw_seq ?_
                    refine cw_seq ?_
                    refine cw_region ?_
                    refine lstepB rfl rfl rfl (run_move (.tmp rfl)) ?_
                    refine lnil ?_
                    refine xw_then ?_
                    refine cw_block ?_
                    refine cw_seq ?_
                    refine cw_region ?_
                    refine lstepB rfl rfl rfl (run_eql (.tmp rfl) .const (by first | exact decide_eq_true (by omega) | exact decide_eq_false (by omega) | exact rfl)) ?_
                    refine lstepB rfl rfl rfl (run_assign (.tmp rfl)) ?_
                    refine lnil ?_
                    refine xw_then ?_
                    refine cw_cond_false (.tmp rfl) ?_
                    refine cw_seq ?_
                    refine cw_region ?_
                    refine lstepB rfl rfl rfl (run_eql (.tmp rfl) .const (by first | exact decide_eq_true (by omega) | exact decide_eq_false (by omega) | exact rfl)) ?_
                    refine lstepB rfl rfl rfl (run_assign (.tmp rfl)) ?_
                    refine lnil ?_
                    refine xw_then ?_
                    refine cw_cond_false (.tmp rfl) ?_
                    refine cw_region ?_
                    refine lstepB rfl rfl rfl (run_loadN (.tmp rfl) kd32 sz32 (by repeat (first | exact List.Mem.head _ | apply List.Mem.tail)) (by repeat (first | exact Sub.done | apply Sub.take | apply Sub.skip))) ?_
                    refine lstepB rfl rfl rfl (run_loadN (.tmp rfl) kd32 sz32 (by repeat (first | exact List.Mem.head _ | apply List.Mem.tail)) (by repeat (first | exact Sub.done | apply Sub.take | apply Sub.skip))) ?_
                    refine lstep0 rfl rfl (run_storeN (.tmp rfl) (.tmp rfl) rfl sz32 rfl (by repeat (first | exact Upd.here | apply Upd.there)) (by repeat (first | exact Put.done | apply Put.put | apply Put.skip))) ?_
                    refine lstep0 rfl rfl (run_storeN (.tmp rfl) (.tmp rfl) rfl sz32 rfl (by repeat (first | exact Upd.here | apply Upd.there)) (by repeat (first | exact Put.done | apply Put.put | apply Put.skip))) ?_
                    refine lnil ?_
                    refine xw_in ?_
                    refine xw_then ?_
                    refine cw_seq ?_
                    refine cw_region ?_
                    refine lstepB rfl rfl rfl (run_move (.tmp rfl)) ?_
                    refine lstepB rfl rfl rfl (run_move (.tmp rfl)) ?_
                    refine lstepB rfl rfl rfl (run_neq (.tmp rfl) (.tmp rfl) (by first | exact decide_eq_true (by omega) | exact decide_eq_false (by omega) | exact rfl)) ?_
                    refine lstepB rfl rfl rfl (run_move (.tmp rfl)) ?_
                    refine lyes rfl rfl rfl rfl ?_
                    refine gstepB rfl rfl (run_move (.tmp rfl)) ?_
                    refine lyes rfl rfl rfl rfl ?_
                    refine gstepB rfl rfl (run_move (.tmp rfl)) ?_
                    refine lyes rfl rfl rfl rfl ?_
                    refine gstepB rfl rfl (En.run_neq_bool (.tmp rfl) (.tmp rfl) bl4 (show (!(bm == bm)) = false by simp)) ?_
                    refine lstepB rfl rfl rfl (by first | exact run_pick_true (.tmp rfl) .const | exact run_pick_false (.tmp rfl) (.tmp rfl)) ?_
                    refine lstepB rfl rfl rfl (run_move (.tmp rfl)) ?_
                    refine lyes rfl rfl rfl rfl ?_
                    refine gstepB rfl rfl (run_move (.tmp rfl)) ?_
                    refine lyes rfl rfl rfl rfl ?_
                    refine gstepB rfl rfl (run_gtr (.tmp rfl) .const (by first | exact decide_eq_true (by omega) | exact decide_eq_false (by omega) | exact rfl)) ?_
                    refine lyes rfl rfl rfl rfl ?_
                    refine gstepB rfl rfl (run_move (.tmp rfl)) ?_
                    refine lyes rfl rfl rfl rfl ?_
                    refine gstepB rfl rfl (run_move (.tmp rfl)) ?_
                    refine lyes rfl rfl rfl rfl ?_
                    refine gstepB rfl rfl (run_move (.tmp rfl)) ?_
                    refine lyes rfl rfl rfl rfl ?_
                    refine gstepB rfl rfl (run_neq (.tmp rfl) (.tmp rfl) (by first | exact decide_eq_true (by omega) | exact decide_eq_false (by omega) | exact rfl)) ?_
                    refine lyes rfl rfl rfl rfl ?_
                    refine gstepB rfl rfl (by first | exact run_pick_true (.tmp rfl) (.tmp rfl) | exact run_pick_false (.tmp rfl) .const) ?_
                    refine lstepB rfl rfl rfl (by first | exact run_pick_true (.tmp rfl) .const | exact run_pick_false (.tmp rfl) (.tmp rfl)) ?_
                    refine lstepB rfl rfl rfl (run_move (.tmp rfl)) ?_
                    refine lyes rfl rfl rfl rfl ?_
                    refine gstepB rfl rfl (run_move (.tmp rfl)) ?_
                    refine lyes rfl rfl rfl rfl ?_
                    refine gstepB rfl rfl (run_move (.tmp rfl)) ?_
                    refine lyes rfl rfl rfl rfl ?_
                    refine gstepB rfl rfl (run_neq (.tmp rfl) (.tmp rfl) (by first | exact decide_eq_true (by omega) | exact decide_eq_false (by omega) | exact rfl)) ?_
                    refine lstepB rfl rfl rfl (by first | exact run_pick_true (.tmp rfl) .const | exact run_pick_false (.tmp rfl) (.tmp rfl)) ?_
                    refine lstepB rfl rfl rfl (run_move (.tmp rfl)) ?_
                    refine lyes rfl rfl rfl rfl ?_
                    refine gstepB rfl rfl (run_loadN (.tmp rfl) kd32 sz32 (by repeat (first | exact List.Mem.head _ | apply List.Mem.tail)) (by repeat (first | exact Sub.done | apply Sub.take | apply Sub.skip))) ?_
                    refine lyes rfl rfl rfl rfl ?_
                    refine gstepB rfl rfl (run_loadN (.tmp rfl) kd32 sz32 (by repeat (first | exact List.Mem.head _ | apply List.Mem.tail)) (by repeat (first | exact Sub.done | apply Sub.take | apply Sub.skip))) ?_
                    refine lyes rfl rfl rfl rfl ?_
                    refine gstepB rfl rfl (run_eql_agg (.tmp rfl) (.tmp rfl) eg32 (neq32 (show _ = false from by first | (simp; done) | (simp only [Bool.not_eq_false', Bool.and_eq_true, decide_eq_true_eq]; omega)))) ?_
                    refine lstepB rfl rfl rfl (by first | exact run_pick_true (.tmp rfl) .const | exact run_pick_false (.tmp rfl) (.tmp rfl)) ?_
                    refine lstepB rfl rfl rfl (run_move (.tmp rfl)) ?_
                    refine lyes rfl rfl rfl rfl ?_
                    refine gstepB rfl rfl (run_loadN (.tmp rfl) kd32 sz32 (by repeat (first | exact List.Mem.head _ | apply List.Mem.tail)) (by repeat (first | exact Sub.done | apply Sub.take | apply Sub.skip))) ?_
                    refine lyes rfl rfl rfl rfl ?_
                    refine gstepB rfl rfl (run_loadN (.tmp rfl) kd32 sz32 (by repeat (first | exact List.Mem.head _ | apply List.Mem.tail)) (by repeat (first | exact Sub.done | apply Sub.take | apply Sub.skip))) ?_
                    refine lyes rfl rfl rfl rfl ?_
                    refine gstepB rfl rfl (run_eql_agg (.tmp rfl) (.tmp rfl) eg32 (neq32 (show _ = false from by first | (simp; done) | (simp only [Bool.not_eq_false', Bool.and_eq_true, decide_eq_true_eq]; omega)))) ?_
                    refine lstepB rfl rfl rfl (by first | exact run_pick_true (.tmp rfl) .const | exact run_pick_false (.tmp rfl) (.tmp rfl)) ?_
                    refine lstepB rfl rfl rfl (run_move (.tmp rfl)) ?_
                    refine lyes rfl rfl rfl rfl ?_
                    refine gstepB rfl rfl (run_move (.tmp rfl)) ?_
                    refine lyes rfl rfl rfl rfl ?_
                    refine gstepB rfl rfl (run_move (.tmp rfl)) ?_
                    refine lyes rfl rfl rfl rfl ?_
                    refine gstepB rfl rfl (run_neq (.tmp rfl) (.tmp rfl) (by first | exact decide_eq_true (by omega) | exact decide_eq_false (by omega) | exact rfl)) ?_
                    refine lstepB rfl rfl rfl (by first | exact run_pick_true (.tmp rfl) .const | exact run_pick_false (.tmp rfl) (.tmp rfl)) ?_
                    refine lstepB rfl rfl rfl (run_move (.tmp rfl)) ?_
                    refine lyes rfl rfl rfl rfl ?_
                    refine gstepB rfl rfl (run_loadN (.tmp rfl) kd32 sz32 (by repeat (first | exact List.Mem.head _ | apply List.Mem.tail)) (by repeat (first | exact Sub.done | apply Sub.take | apply Sub.skip))) ?_
                    refine lyes rfl rfl rfl rfl ?_
                    refine gstepB rfl rfl (run_loadN (.tmp rfl) kd32 sz32 (by repeat (first | exact List.Mem.head _ | apply List.Mem.tail)) (by repeat (first | exact Sub.done | apply Sub.take | apply Sub.skip))) ?_
                    refine lyes rfl rfl rfl rfl ?_
                    refine gstepB rfl rfl (run_eql_agg (.tmp rfl) (.tmp rfl) eg32 (neq32 (show _ = false from by first | (simp; done) | (simp only [Bool.not_eq_false', Bool.and_eq_true, decide_eq_true_eq]; omega)))) ?_
                    refine lstepB rfl rfl rfl (by first | exact run_pick_true (.tmp rfl) .const | exact run_pick_false (.tmp rfl) (.tmp rfl)) ?_
                    refine lstepB rfl rfl rfl (run_move (.tmp rfl)) ?_
                    refine lyes rfl rfl rfl rfl ?_
                    refine gstepB rfl rfl (run_move (.tmp rfl)) ?_
                    refine lyes rfl rfl rfl rfl ?_
                    refine gstepB rfl rfl (run_move (.tmp rfl)) ?_
                    refine lyes rfl rfl rfl rfl ?_
                    refine gstepB rfl rfl (run_neq (.tmp rfl) (.tmp rfl) (by first | exact decide_eq_true (by omega) | exact decide_eq_false (by omega) | exact rfl)) ?_
                    refine lstepB rfl rfl rfl (by first | exact run_pick_true (.tmp rfl) .const | exact run_pick_false (.tmp rfl) (.tmp rfl)) ?_
                    refine lstepB rfl rfl rfl (run_move (.tmp rfl)) ?_
                    refine lyes rfl rfl rfl rfl ?_
                    refine gstepB rfl rfl (run_loadN (.tmp rfl) kd32 sz32 (by repeat (first | exact List.Mem.head _ | apply List.Mem.tail)) (by repeat (first | exact Sub.done | apply Sub.take | apply Sub.skip))) ?_
                    refine lyes rfl rfl rfl rfl ?_
                    refine gstepB rfl rfl (run_loadN (.tmp rfl) kd32 sz32 (by repeat (first | exact List.Mem.head _ | apply List.Mem.tail)) (by repeat (first | exact Sub.done | apply Sub.take | apply Sub.skip))) ?_
                    refine lyes rfl rfl rfl rfl ?_
                    refine gstepB rfl rfl (run_eql_agg (.tmp rfl) (.tmp rfl) eg32 (neq32 (show _ = false from by first | (simp; done) | (simp only [Bool.not_eq_false', Bool.and_eq_true, decide_eq_true_eq]; omega)))) ?_
                    refine lstepB rfl rfl rfl (by first | exact run_pick_true (.tmp rfl) .const | exact run_pick_false (.tmp rfl) (.tmp rfl)) ?_
                    refine lstepB rfl rfl rfl (run_move (.tmp rfl)) ?_
                    refine lyes rfl rfl rfl rfl ?_
                    refine gstepB rfl rfl (run_move (.tmp rfl)) ?_
                    refine lyes rfl rfl rfl rfl ?_
                    refine gstepB rfl rfl (run_move (.tmp rfl)) ?_
                    refine lyes rfl rfl rfl rfl ?_
                    refine gstepB rfl rfl (run_neq (.tmp rfl) (.tmp rfl) (by first | exact decide_eq_true (by omega) | exact decide_eq_false (by omega) | exact rfl)) ?_
                    refine lstepB rfl rfl rfl (by first | exact run_pick_true (.tmp rfl) .const | exact run_pick_false (.tmp rfl) (.tmp rfl)) ?_
                    refine lstepB rfl rfl rfl (run_move (.tmp rfl)) ?_
                    refine lyes rfl rfl rfl rfl ?_
                    refine gstepB rfl rfl (run_loadN (.tmp rfl) kd32 sz32 (by repeat (first | exact List.Mem.head _ | apply List.Mem.tail)) (by repeat (first | exact Sub.done | apply Sub.take | apply Sub.skip))) ?_
                    refine lyes rfl rfl rfl rfl ?_
                    refine gstepB rfl rfl (run_loadN (.tmp rfl) kd32 sz32 (by repeat (first | exact List.Mem.head _ | apply List.Mem.tail)) (by repeat (first | exact Sub.done | apply Sub.take | apply Sub.skip))) ?_
                    refine lyes rfl rfl rfl rfl ?_
                    refine gstepB rfl rfl (run_eql_agg (.tmp rfl) (.tmp rfl) eg32 (neq32 (show _ = false from by first | (simp; done) | (simp only [Bool.not_eq_false', Bool.and_eq_true, decide_eq_true_eq]; omega)))) ?_
                    refine lstepB rfl rfl rfl (by first | exact run_pick_true (.tmp rfl) .const | exact run_pick_false (.tmp rfl) (.tmp rfl)) ?_
                    refine lnil ?_
                    refine xw_then ?_
                    refine cw_cond_false (.tmp rfl) ?_
                    refine cw_skip ?_
                    refine xw_in ?_
                    refine xw_then ?_
                    refine cw_region ?_
                    refine lstepB rfl rfl rfl (run_add (.tmp rfl) .const (by first | exact IntWalk.i64_in _ (by omega) | exact rfl)) ?_
                    refine lstepB rfl rfl rfl (run_move (.tmp rfl)) ?_
                    refine lnil ?_
                    exact xw_round (2 + 1) (by omega) (by omega) (by repeat (first | exact Less.nil | refine Less.cons rfl ?_)) (by repeat (first | exact Pick.nil | (apply Pick.cons; focus (repeat (first | exact Del.here | apply Del.there)))))
                  ·
                    have hv2 : v = ((wa, wb), (wc, wd)) := by have h := hw; rw [f1] at h; exact h
                    subst hv2
                    have he0 : ew = 0 := by have h := hew; rw [f1] at h; exact h.symm
                    subst he0
                    have hwi := where_in hv f1
                    refine cw_skip ?_
                    refine xw_then ?_
                    refine cw_seq ?_
                    refine cw_block ?_
                    refine cw_seq ?_
                    refine cw_region ?_
                    refine lstepB rfl rfl rfl (run_move (.tmp rfl)) ?_
                    refine lstepB rfl rfl rfl (run_indexAddr (i := 2) (off' := 6) (.tmp rfl) (.tmp rfl) el68 (by omega) rfl) ?_
                    refine lstepB rfl rfl rfl (run_loadN (.tmp rfl) kd25 sz25 (by repeat (first | exact List.Mem.head _ | apply List.Mem.tail)) (by repeat (first | exact Sub.done | apply Sub.take | apply Sub.skip))) ?_
                    refine lstep rfl rfl rfl (run_alloc zr25) ?_
                    intro b37 _
                    refine lstepB rfl rfl rfl (run_assign (.tmp rfl)) ?_
                    refine lstep0 rfl rfl (run_storeN (.tmp rfl) (.tmp rfl) rfl sz25 rfl (by repeat (first | exact Upd.here | apply Upd.there)) (by repeat (first | exact Put.done | apply Put.put | apply Put.skip))) ?_
                    refine lnil ?_
                    refine xw_then ?_
                    refine cw_seq ?_
                    refine cw_region ?_
                    refine lstepB rfl rfl rfl (run_move (.tmp rfl)) ?_
                    refine lstepB rfl rfl rfl (run_move (.tmp rfl)) ?_
                    refine lstepB rfl rfl rfl (run_move (.tmp rfl)) ?_
                    refine lstepB rfl rfl rfl (run_assign (.tmp rfl)) ?_
                    refine lstepB rfl rfl rfl (run_assign (.tmp rfl)) ?_
                    refine lstepB rfl rfl rfl (run_assign (.tmp rfl)) ?_
                    refine lnil ?_
                    refine xw_then ?_
                    refine cw_seq ?_
                    refine cw_seq ?_
                    refine cw_region ?_
                    refine lstepB rfl rfl rfl (run_move (.tmp rfl)) ?_
                    refine lstepB rfl rfl rfl (run_eql (.tmp rfl) .const (by first | exact decide_eq_true (by omega) | exact decide_eq_false (by omega) | exact rfl)) ?_
                    refine lnil ?_
                    refine xw_then ?_
                    refine cw_cond_false (.tmp rfl) ?_
                    refine cw_skip ?_
                    refine xw_then ?_
                    refine cw_seq ?_
                    refine cw_region ?_
                    refine lstepB rfl rfl rfl (run_loadN (.tmp rfl) kd25 sz25 (by repeat (first | exact List.Mem.head _ | apply List.Mem.tail)) (by repeat (first | exact Sub.done | apply Sub.take | apply Sub.skip))) ?_
                    refine lstepB rfl rfl rfl (run_call1 cb13 (.cons (.tmp rfl) .nil) (fun w hS => movedH sv hz1 rfl (by simp [swapP]) rfl hS.kept (Eq.trans (congrArg Prod.fst sm) hS0) (Eq.trans (congrArg Prod.snd sm) hbm) (se.trans hem))) ?_
                    refine lstepB rfl rfl rfl (run_move (.tmp rfl)) ?_
                    refine lstepB rfl rfl rfl (run_extract (.tmp rfl) rfl) ?_
                    refine lstepB rfl rfl rfl (run_extract (.tmp rfl) rfl) ?_
                    refine lstepB rfl rfl rfl (run_extract (.tmp rfl) rfl) ?_
                    refine lstepB rfl rfl rfl (run_assign (.tmp rfl)) ?_
                    refine lstepB rfl rfl rfl (run_assign (.tmp rfl)) ?_
                    refine lstepB rfl rfl rfl (run_assign (.tmp rfl)) ?_
                    refine lnil ?_
                    refine xw_then ?_
                    refine cw_seq ?_
                    refine cw_region ?_
                    refine lstepB rfl rfl rfl (run_loadN (.tmp rfl) kd25 sz25 (by repeat (first | exact List.Mem.head _ | apply List.Mem.tail)) (by repeat (first | exact Sub.done | apply Sub.take | apply Sub.skip))) ?_
                    refine lstepB rfl rfl rfl (run_move (.tmp rfl)) ?_
                    refine lstepB rfl rfl rfl (run_call1 cb15 (.cons (.tmp rfl) (.cons (.tmp rfl) .nil)) (fun w hS => whereH sv hz1 rfl (by simp [swapP]) rfl hS.kept (show valOf ((0, 0), (0, 0)) (whereR (swapP p) x) = ((wc, wd), (wa, wb)) from by rw [f2]; rfl) (show errOf (whereR (swapP p) x) = 0 from by rw [f2]; rfl))) ?_
                    refine lstepB rfl rfl rfl (run_move (.tmp rfl)) ?_
                    refine lstepB rfl rfl rfl (run_extract (.tmp rfl) rfl) ?_
                    refine lstepB rfl rfl rfl (run_extract (.tmp rfl) rfl) ?_
                    refine lstepB rfl rfl rfl (run_extract (.tmp rfl) rfl) ?_
                    refine lstep rfl rfl rfl (run_alloc zr32) ?_
                    intro b44 _
                    refine lstep rfl rfl rfl (run_alloc zr32) ?_
                    intro b45 _
                    refine lstep0 rfl rfl (run_storeN (.tmp rfl) (.tmp rfl) rfl sz32 rfl (by repeat (first | exact Upd.here | apply Upd.there)) (by repeat (first | exact Put.done | apply Put.put | apply Put.skip))) ?_
                    refine lstep0 rfl rfl (run_storeN (.tmp rfl) (.tmp rfl) rfl sz32 rfl (by repeat (first | exact Upd.here | apply Upd.there)) (by repeat (first | exact Put.done | apply Put.put | apply Put.skip))) ?_
                    refine lstepB rfl rfl rfl (run_assign (.tmp rfl)) ?_
                    refine lnil ?_
                    refine xw_then ?_
                    refine cw_seq ?_
                    refine cw_region ?_
                    refine lstepB rfl rfl rfl (run_loadN (.tmp rfl) kd25 sz25 (by repeat (first | exact List.Mem.head _ | apply List.Mem.tail)) (by repeat (first | exact Sub.done | apply Sub.take | apply Sub.skip))) ?_
                    refine lstepB rfl rfl rfl (run_move (.tmp rfl)) ?_
                    refine lstepB rfl rfl rfl (run_move (.tmp rfl)) ?_
                    refine lstepB rfl rfl rfl (run_call1 cb21 (.cons (.tmp rfl) (.cons (.tmp rfl) (.cons (.tmp rfl) .nil))) (fun w hS => apartH sv hz1 rfl (by simp [swapP]) rfl hS.kept (Eq.trans (congrArg (valOf (0, 0)) sa) ha) (Eq.trans (congrArg errOf sa) hea))) ?_
                    refine lstepB rfl rfl rfl (run_move (.tmp rfl)) ?_
                    refine lstepB rfl rfl rfl (run_extract (.tmp rfl) rfl) ?_
                    refine lstepB rfl rfl rfl (run_extract (.tmp rfl) rfl) ?_
                    refine lstep rfl rfl rfl (run_alloc zr32) ?_
                    intro b47 _
                    refine lstep0 rfl rfl (run_storeN (.tmp rfl) (.tmp rfl) rfl sz32 rfl (by repeat (first | exact Upd.here | apply Upd.there)) (by repeat (first | exact Put.done | apply Put.put | apply Put.skip))) ?_
                    refine lstepB rfl rfl rfl (run_assign (.tmp rfl)) ?_
                    refine lnil ?_
                    refine xw_then ?_
                    refine cw_seq ?_
                    refine cw_region ?_
                    refine lstepB rfl rfl rfl (run_loadN (.tmp rfl) kd25 sz25 (by repeat (first | exact List.Mem.head _ | apply List.Mem.tail)) (by repeat (first | exact Sub.done | apply Sub.take | apply Sub.skip))) ?_
                    refine lstepB rfl rfl rfl (run_move (.tmp rfl)) ?_
                    refine lstepB rfl rfl rfl (run_move (.tmp rfl)) ?_
                    refine lstepB rfl rfl rfl (run_move (.tmp rfl)) ?_
                    refine lstepB rfl rfl rfl (run_call1 cb23 (.cons (.tmp rfl) (.cons (.tmp rfl) (.cons (.tmp rfl) (.cons (.tmp rfl) .nil)))) (fun w hS => areaH sv hz1 rfl (by simp [swapP]) rfl hS.kept (Eq.trans (congrArg (valOf (0, 0)) sr) hr) (Eq.trans (congrArg errOf sr) her))) ?_
                    refine lstepB rfl rfl rfl (run_move (.tmp rfl)) ?_
                    refine lstepB rfl rfl rfl (run_extract (.tmp rfl) rfl) ?_
                    refine lstepB rfl rfl rfl (run_extract (.tmp rfl) rfl) ?_
                    refine lstep rfl rfl rfl (run_alloc zr32) ?_
                    intro b49 _
                    refine lstep0 rfl rfl (run_storeN (.tmp rfl) (.tmp rfl) rfl sz32 rfl (by repeat (first | exact Upd.here | apply Upd.there)) (by repeat (first | exact Put.done | apply Put.put | apply Put.skip))) ?_
                    refine lstepB rfl rfl rfl (run_assign (.tmp rfl)) ?_
                    refine lnil ?_
                    refine xw_then ?_
                    refine cw_seq ?_
                    refine cw_region ?_
                    refine lstepB rfl rfl rfl (run_loadN (.tmp rfl) kd25 sz25 (by repeat (first | exact List.Mem.head _ | apply List.Mem.tail)) (by repeat (first | exact Sub.done | apply Sub.take | apply Sub.skip))) ?_
                    refine lstepB rfl rfl rfl (run_move (.tmp rfl)) ?_
                    refine lstepB rfl rfl rfl (run_call1 cb19 (.cons (.tmp rfl) (.cons (.tmp rfl) .nil)) (fun w hS => backH sv hz1 rfl (by simp [swapP]) rfl hS.kept (Eq.trans (congrArg (valOf (0, 0)) sb) hbk) (Eq.trans (congrArg errOf sb) heb))) ?_
                    refine lstepB rfl rfl rfl (run_move (.tmp rfl)) ?_
                    refine lstepB rfl rfl rfl (run_extract (.tmp rfl) rfl) ?_
                    refine lstepB rfl rfl rfl (run_extract (.tmp rfl) rfl) ?_
                    refine lstep rfl rfl rfl (run_alloc zr32) ?_
                    intro b51 _
                    refine lstep0 rfl rfl (run_storeN (.tmp rfl) (.tmp rfl) rfl sz32 rfl (by repeat (first | exact Upd.here | apply Upd.there)) (by repeat (first | exact Put.done | apply Put.put | apply Put.skip))) ?_
                    refine lstepB rfl rfl rfl (run_assign (.tmp rfl)) ?_
                    refine lnil ?_
                    refine xw_then ?_
                    refine cw_seq ?_
                    refine cw_seq ?_
                    refine cw_region ?_
                    refine lstepB rfl rfl rfl (run_move (.tmp rfl)) ?_
                    refine lnil ?_
                    refine xw_then ?_
                    refine cw_block ?_
                    refine cw_seq ?_
                    refine cw_region ?_
                    refine lstepB rfl rfl rfl (run_eql (.tmp rfl) .const (by first | exact decide_eq_true (by omega) | exact decide_eq_false (by omega) | exact rfl)) ?_
                    refine lstepB rfl rfl rfl (run_assign (.tmp rfl)) ?_
                    refine lnil ?_
                    refine xw_then ?_
                    refine cw_cond_false (.tmp rfl) ?_
                    refine cw_seq ?_
                    refine cw_region ?_
                    refine lstepB rfl rfl rfl (run_eql (.tmp rfl) .const (by first | exact decide_eq_true (by omega) | exact decide_eq_false (by omega) | exact rfl)) ?_
                    refine lstepB rfl rfl rfl (run_assign (.tmp rfl)) ?_
                    refine lnil ?_
                    refine xw_then ?_
                    refine cw_cond_false (.tmp rfl) ?_
                    refine cw_region ?_
                    refine lstepB rfl rfl rfl (run_loadN (.tmp rfl) kd32 sz32 (by repeat (first | exact List.Mem.head _ | apply List.Mem.tail)) (by repeat (first | exact Sub.done | apply Sub.take | apply Sub.skip))) ?_
                    refine lstepB rfl rfl rfl (run_loadN (.tmp rfl) kd32 sz32 (by repeat (first | exact List.Mem.head _ | apply List.Mem.tail)) (by repeat (first | exact Sub.done | apply Sub.take | apply Sub.skip))) ?_
                    refine lstep0 rfl rfl (run_storeN (.tmp rfl) (.tmp rfl) rfl sz32 rfl (by repeat (first | exact Upd.here | apply Upd.there)) (by repeat (first | exact Put.done | apply Put.put | apply Put.skip))) ?_
                    refine lstep0 rfl rfl (run_storeN (.tmp rfl) (.tmp rfl) rfl sz32 rfl (by repeat (first | exact Upd.here | apply Upd.there)) (by repeat (first | exact Put.done | apply Put.put | apply Put.skip))) ?_
                    refine lnil ?_
                    refine xw_in ?_
                    refine xw_then ?_
                    refine cw_seq ?_
                    refine cw_region ?_
                    refine lstepB rfl rfl rfl (run_move (.tmp rfl)) ?_
                    refine lstepB rfl rfl rfl (run_move (.tmp rfl)) ?_
                    refine lstepB rfl rfl rfl (run_neq (.tmp rfl) (.tmp rfl) (by first | exact decide_eq_true (by omega) | exact decide_eq_false (by omega) | exact rfl)) ?_
                    refine lstepB rfl rfl rfl (run_move (.tmp rfl)) ?_
                    refine lyes rfl rfl rfl rfl ?_
                    refine gstepB rfl rfl (run_move (.tmp rfl)) ?_
                    refine lyes rfl rfl rfl rfl ?_
                    refine gstepB rfl rfl (run_move (.tmp rfl)) ?_
                    refine lyes rfl rfl rfl rfl ?_
                    refine gstepB rfl rfl (En.run_neq_bool (.tmp rfl) (.tmp rfl) bl4 (show (!(bm == bm)) = false by simp)) ?_
                    refine lstepB rfl rfl rfl (by first | exact run_pick_true (.tmp rfl) .const | exact run_pick_false (.tmp rfl) (.tmp rfl)) ?_
                    refine lstepB rfl rfl rfl (run_move (.tmp rfl)) ?_
                    refine lyes rfl rfl rfl rfl ?_
                    refine gstepB rfl rfl (run_move (.tmp rfl)) ?_
                    refine lyes rfl rfl rfl rfl ?_
                    refine gstepB rfl rfl (run_gtr (.tmp rfl) .const (by first | exact decide_eq_true (by omega) | exact decide_eq_false (by omega) | exact rfl)) ?_
                    refine lyes rfl rfl rfl rfl ?_
                    refine gstepB rfl rfl (run_move (.tmp rfl)) ?_
                    refine lyes rfl rfl rfl rfl ?_
                    refine gstepB rfl rfl (run_move (.tmp rfl)) ?_
                    refine lyes rfl rfl rfl rfl ?_
                    refine gstepB rfl rfl (run_move (.tmp rfl)) ?_
                    refine lyes rfl rfl rfl rfl ?_
                    refine gstepB rfl rfl (run_neq (.tmp rfl) (.tmp rfl) (by first | exact decide_eq_true (by omega) | exact decide_eq_false (by omega) | exact rfl)) ?_
                    refine lyes rfl rfl rfl rfl ?_
                    refine gstepB rfl rfl (by first | exact run_pick_true (.tmp rfl) (.tmp rfl) | exact run_pick_false (.tmp rfl) .const) ?_
                    refine lstepB rfl rfl rfl (by first | exact run_pick_true (.tmp rfl) .const | exact run_pick_false (.tmp rfl) (.tmp rfl)) ?_
                    refine lstepB rfl rfl rfl (run_move (.tmp rfl)) ?_
                    refine lyes rfl rfl rfl rfl ?_
                    refine gstepB rfl rfl (run_move (.tmp rfl)) ?_
                    refine lyes rfl rfl rfl rfl ?_
                    refine gstepB rfl rfl (run_move (.tmp rfl)) ?_
                    refine lyes rfl rfl rfl rfl ?_
                    refine gstepB rfl rfl (run_neq (.tmp rfl) (.tmp rfl) (by first | exact decide_eq_true (by omega) | exact decide_eq_false (by omega) | exact rfl)) ?_
                    refine lstepB rfl rfl rfl (by first | exact run_pick_true (.tmp rfl) .const | exact run_pick_false (.tmp rfl) (.tmp rfl)) ?_
                    refine lstepB rfl rfl rfl (run_move (.tmp rfl)) ?_
                    refine lyes rfl rfl rfl rfl ?_
                    refine gstepB rfl rfl (run_loadN (.tmp rfl) kd32 sz32 (by repeat (first | exact List.Mem.head _ | apply List.Mem.tail)) (by repeat (first | exact Sub.done | apply Sub.take | apply Sub.skip))) ?_
                    refine lyes rfl rfl rfl rfl ?_
                    refine gstepB rfl rfl (run_loadN (.tmp rfl) kd32 sz32 (by repeat (first | exact List.Mem.head _ | apply List.Mem.tail)) (by repeat (first | exact Sub.done | apply Sub.take | apply Sub.skip))) ?_
                    refine lyes rfl rfl rfl rfl ?_
                    refine gstepB rfl rfl (run_eql_agg (.tmp rfl) (.tmp rfl) eg32 (neq32 (show _ = false from by first | (simp; done) | (simp only [Bool.not_eq_false', Bool.and_eq_true, decide_eq_true_eq]; omega)))) ?_
                    refine lstepB rfl rfl rfl (by first | exact run_pick_true (.tmp rfl) .const | exact run_pick_false (.tmp rfl) (.tmp rfl)) ?_
                    refine lstepB rfl rfl rfl (run_move (.tmp rfl)) ?_
                    refine lyes rfl rfl rfl rfl ?_
                    refine gstepB rfl rfl (run_loadN (.tmp rfl) kd32 sz32 (by repeat (first | exact List.Mem.head _ | apply List.Mem.tail)) (by repeat (first | exact Sub.done | apply Sub.take | apply Sub.skip))) ?_
                    refine lyes rfl rfl rfl rfl ?_
                    refine gstepB rfl rfl (run_loadN (.tmp rfl) kd32 sz32 (by repeat (first | exact List.Mem.head _ | apply List.Mem.tail)) (by repeat (first | exact Sub.done | apply Sub.take | apply Sub.skip))) ?_
                    refine lyes rfl rfl rfl rfl ?_
                    refine gstepB rfl rfl (run_eql_agg (.tmp rfl) (.tmp rfl) eg32 (neq32 (show _ = false from by first | (simp; done) | (simp only [Bool.not_eq_false', Bool.and_eq_true, decide_eq_true_eq]; omega)))) ?_
                    refine lstepB rfl rfl rfl (by first | exact run_pick_true (.tmp rfl) .const | exact run_pick_false (.tmp rfl) (.tmp rfl)) ?_
                    refine lstepB rfl rfl rfl (run_move (.tmp rfl)) ?_
                    refine lyes rfl rfl rfl rfl ?_
                    refine gstepB rfl rfl (run_move (.tmp rfl)) ?_
                    refine lyes rfl rfl rfl rfl ?_
                    refine gstepB rfl rfl (run_move (.tmp rfl)) ?_
                    refine lyes rfl rfl rfl rfl ?_
                    refine gstepB rfl rfl (run_neq (.tmp rfl) (.tmp rfl) (by first | exact decide_eq_true (by omega) | exact decide_eq_false (by omega) | exact rfl)) ?_
                    refine lstepB rfl rfl rfl (by first | exact run_pick_true (.tmp rfl) .const | exact run_pick_false (.tmp rfl) (.tmp rfl)) ?_
                    refine lstepB rfl rfl rfl (run_move (.tmp rfl)) ?_
                    refine lyes rfl rfl rfl rfl ?_
                    refine gstepB rfl rfl (run_loadN (.tmp rfl) kd32 sz32 (by repeat (first | exact List.Mem.head _ | apply List.Mem.tail)) (by repeat (first | exact Sub.done | apply Sub.take | apply Sub.skip))) ?_
                    refine lyes rfl rfl rfl rfl ?_
                    refine gstepB rfl rfl (run_loadN (.tmp rfl) kd32 sz32 (by repeat (first | exact List.Mem.head _ | apply List.Mem.tail)) (by repeat (first | exact Sub.done | apply Sub.take | apply Sub.skip))) ?_
                    refine lyes rfl rfl rfl rfl ?_
                    refine gstepB rfl rfl (run_eql_agg (.tmp rfl) (.tmp rfl) eg32 (neq32 (show _ = false from by first | (simp; done) | (simp only [Bool.not_eq_false', Bool.and_eq_true, decide_eq_true_eq]; omega)))) ?_
                    refine lstepB rfl rfl rfl (by first | exact run_pick_true (.tmp rfl) .const | exact run_pick_false (.tmp rfl) (.tmp rfl)) ?_
                    refine lstepB rfl rfl rfl (run_move (.tmp rfl)) ?_
                    refine lyes rfl rfl rfl rfl ?_
                    refine gstepB rfl rfl (run_move (.tmp rfl)) ?_
                    refine lyes rfl rfl rfl rfl ?_
                    refine gstepB rfl rfl (run_move (.tmp rfl)) ?_
                    refine lyes rfl rfl rfl rfl ?_
                    refine gstepB rfl rfl (run_neq (.tmp rfl) (.tmp rfl) (by first | exact decide_eq_true (by omega) | exact decide_eq_false (by omega) | exact rfl)) ?_
                    refine lstepB rfl rfl rfl (by first | exact run_pick_true (.tmp rfl) .const | exact run_pick_false (.tmp rfl) (.tmp rfl)) ?_
                    refine lstepB rfl rfl rfl (run_move (.tmp rfl)) ?_
                    refine lyes rfl rfl rfl rfl ?_
                    refine gstepB rfl rfl (run_loadN (.tmp rfl) kd32 sz32 (by repeat (first | exact List.Mem.head _ | apply List.Mem.tail)) (by repeat (first | exact Sub.done | apply Sub.take | apply Sub.skip))) ?_
                    refine lyes rfl rfl rfl rfl ?_
                    refine gstepB rfl rfl (run_loadN (.tmp rfl) kd32 sz32 (by repeat (first | exact List.Mem.head _ | apply List.Mem.tail)) (by repeat (first | exact Sub.done | apply Sub.take | apply Sub.skip))) ?_
                    refine lyes rfl rfl rfl rfl ?_
                    refine gstepB rfl rfl (run_eql_agg (.tmp rfl) (.tmp rfl) eg32 (neq32 (show _ = false from by first | (simp; done) | (simp only [Bool.not_eq_false', Bool.and_eq_true, decide_eq_true_eq]; omega)))) ?_
                    refine lstepB rfl rfl rfl (by first | exact run_pick_true (.tmp rfl) .const | exact run_pick_false (.tmp rfl) (.tmp rfl)) ?_
                    refine lstepB rfl rfl rfl (run_move (.tmp rfl)) ?_
                    refine lyes rfl rfl rfl rfl ?_
                    refine gstepB rfl rfl (run_move (.tmp rfl)) ?_
                    refine lyes rfl rfl rfl rfl ?_
                    refine gstepB rfl rfl (run_move (.tmp rfl)) ?_
                    refine lyes rfl rfl rfl rfl ?_
                    refine gstepB rfl rfl (run_neq (.tmp rfl) (.tmp rfl) (by first | exact decide_eq_true (by omega) | exact decide_eq_false (by omega) | exact rfl)) ?_
                    refine lstepB rfl rfl rfl (by first | exact run_pick_true (.tmp rfl) .const | exact run_pick_false (.tmp rfl) (.tmp rfl)) ?_
                    refine lstepB rfl rfl rfl (run_move (.tmp rfl)) ?_
                    refine lyes rfl rfl rfl rfl ?_
                    refine gstepB rfl rfl (run_loadN (.tmp rfl) kd32 sz32 (by repeat (first | exact List.Mem.head _ | apply List.Mem.tail)) (by repeat (first | exact Sub.done | apply Sub.take | apply Sub.skip))) ?_
                    refine lyes rfl rfl rfl rfl ?_
                    refine gstepB rfl rfl (run_loadN (.tmp rfl) kd32 sz32 (by repeat (first | exact List.Mem.head _ | apply List.Mem.tail)) (by repeat (first | exact Sub.done | apply Sub.take | apply Sub.skip))) ?_
                    refine lyes rfl rfl rfl rfl ?_
                    refine gstepB rfl rfl (run_eql_agg (.tmp rfl) (.tmp rfl) eg32 (neq32 (show _ = false from by first | (simp; done) | (simp only [Bool.not_eq_false', Bool.and_eq_true, decide_eq_true_eq]; omega)))) ?_
                    refine lstepB rfl rfl rfl (by first | exact run_pick_true (.tmp rfl) .const | exact run_pick_false (.tmp rfl) (.tmp rfl)) ?_
                    refine lnil ?_
                    refine xw_then ?_
                    refine cw_cond_false (.tmp rfl) ?_
                    refine cw_skip ?_
                    refine xw_in ?_
                    refine xw_then ?_
                    refine cw_region ?_
                    refine lstepB rfl rfl rfl (run_add (.tmp rfl) .const (by first | exact IntWalk.i64_in _ (by omega) | exact rfl)) ?_
                    refine lstepB rfl rfl rfl (run_move (.tmp rfl)) ?_
                    refine lnil ?_
                    exact xw_round (2 + 1) (by omega) (by omega) (by repeat (first | exact Less.nil | refine Less.cons rfl ?_)) (by repeat (first | exact Pick.nil | (apply Pick.cons; focus (repeat (first | exact Del.here | apply Del.there)))))
              ·
                refine cw_exit ?_
                refine xw_then_exit ?_
                refine xw_then_exit ?_
                refine xw_in_exit ?_
                refine xw_then ?_
                refine cw_seq ?_
                refine cw_seq ?_
                refine cw_region ?_
                refine lstepB rfl rfl rfl (run_move (.tmp rfl)) ?_
                refine lstepB rfl rfl rfl (run_len (.tmp rfl) sl22) ?_
                refine lstepB rfl rfl rfl (run_move .const) ?_
                refine lnil ?_
                refine xw_then ?_
                refine cw_block ?_
                refine cw_loop (S := Nat) (fun j => [(357, .int .i64 (j : Int))]) [(5, _), (22, _), (23, _), (356, _)] (fun j => [(gP, Obj.cells rP.toArray 56 (0, 0)), (gQ, Obj.cells rQ.toArray 65 (0, 0))]) (fun j => j ≤ p.ps.length) (fun j => p.ps.length - j) 0 (by omega) (by repeat (first | exact Less.nil | refine Less.cons rfl ?_)) (by repeat (first | exact Pick.nil | (apply Pick.cons; focus (repeat (first | exact Del.here | apply Del.there))))) ?_
                intro j hj
                try dsimp only
                refine cw_seq ?_
                refine cw_region ?_
                refine lstepB rfl rfl rfl (run_lss (.tmp rfl) (.tmp rfl) (by first | exact decide_eq_true (by omega) | exact decide_eq_false (by omega) | exact rfl)) ?_
                refine lnil ?_
                refine xw_then ?_
                refine cw_seq ?_
                refine cw_cond_p (.tmp rfl) (fun hlt5 => ?_) (fun hge5 => ?_)
                ·
                  have hlt6 : j < p.ps.length := by have h : (j : Int) < ((0 + p.ps.length : Nat) : Int) := hlt5; omega
                  obtain ⟨q, hq⟩ : ∃ q, p.ps[j]? = some q := ⟨_, List.getElem?_eq_getElem hlt6⟩
                  refine cw_skip ?_
                  refine xw_then ?_
                  refine cw_seq ?_
                  refine cw_block ?_
                  refine cw_seq ?_
                  refine cw_region ?_
                  refine lstepB rfl rfl rfl (run_move (.tmp rfl)) ?_
                  refine lstepB rfl rfl rfl (run_assign (.tmp rfl)) ?_
                  refine lnil ?_
                  refine xw_then ?_
                  refine cw_seq ?_
                  refine cw_chain2 (σ := [0, 1, 2, 3, 4, 5, 6, 7, 8, 9]) [⟨0, [], [], [], 0⟩, ⟨0, [], [], [], 0⟩, ⟨0, [], [], [], 3⟩, ⟨0, [0], [], [], 7⟩, ⟨0, [], [], [], 0⟩, ⟨0, [], [], [], 16⟩, ⟨0, [], [], [], 0⟩, ⟨0, [], [], [], 112⟩, ⟨0, [], [], [], 240⟩, ⟨0, [], [], [], 511⟩] [(0, _), (1, _)] (by kernel_rfl) (by kernel_rfl) rfl ?_
                  refine .det (B := []) rfl rfl (.inl rfl) .nil .nil rfl (RunB.lr (run_move (.tmp rfl))) ?_
                  refine .det (B := []) rfl rfl (.inl rfl) .nil .nil rfl (RunB.lr (run_move (.tmp rfl))) ?_
                  refine .det (B := []) rfl rfl (.inl rfl) .nil .nil rfl (RunB.lr (run_indexAddr (.tmp rfl) (.tmp rfl) el22 (by omega) rfl)) ?_
                  refine .det (B := []) rfl rfl (.inl rfl) (.cons rfl .nil) .nil rfl (RunB.lr (run_loadN_own (l := [.int .i64 q.xlo, .int .i64 q.xhi, .int .i64 q.ylo, .int .i64 q.yhi]) (.tmp rfl) kd56 sz56 (by repeat (first | exact List.Mem.head _ | apply List.Mem.tail)) rfl (rowP_get hP hq))) ?_
                  refine .det (B := []) rfl rfl (.inl rfl) .nil .nil rfl (RunB.lr (run_fieldAddr (.tmp rfl) fa25_1 (by first | exact Nat.zero_add _ | exact rfl))) ?_
                  refine .det (B := []) rfl rfl (.inl rfl) .nil .nil rfl (RunB.lr (run_load1_at (.tmp rfl) kd22 (fun w hS => hS.old_cell (fun h => h) (c5 1 _ rfl)))) ?_
                  refine .det (B := []) rfl rfl (.inl rfl) .nil .nil rfl (RunB.lr (run_move (.tmp rfl))) ?_
                  refine .det (B := []) rfl rfl (.inl rfl) .nil .nil rfl (RunB.lr (run_indexAddr (.tmp rfl) (.tmp rfl) el22 (by omega) rfl)) ?_
                  refine .det (B := []) rfl rfl (.inl rfl) .nil .nil rfl (RunB.lr (run_loadN_at (l := [.int .i64 q.xlo, .int .i64 q.xhi, .int .i64 q.ylo, .int .i64 q.yhi]) (.tmp rfl) kd56 sz56 rfl (fun w hS jj v hj => hS.old_cell (fun h => h) ((hB1.cell hpb).trans (hpq j q hq jj v hj))))) ?_
                  refine .det (B := []) rfl rfl (.inl rfl) .nil .nil rfl (RunB.lr (run_eql_agg (.tmp rfl) (.tmp rfl) eg56 (neq56 (show _ = false from by first | (simp; done) | (simp only [Bool.not_eq_false', Bool.and_eq_true, decide_eq_true_eq]; omega))))) ?_
                  refine chain_nil (ts := [0, 1]) (.cons rfl (.cons rfl .nil)) (by decide) ?_
                  refine xw_then ?_
                  refine cw_cond_false (.tmp rfl) ?_
                  refine cw_skip ?_
                  refine xw_in ?_
                  refine xw_then ?_
                  refine cw_region ?_
                  refine lstepB rfl rfl rfl (run_add (.tmp rfl) .const (by first | exact IntWalk.i64_in _ (by omega) | exact rfl)) ?_
                  refine lstepB rfl rfl rfl (run_move (.tmp rfl)) ?_
                  refine lnil ?_
                  exact xw_round (j + 1) (by omega) (by omega) (by repeat (first | exact Less.nil | refine Less.cons rfl ?_)) (by repeat (first | exact Pick.nil | (apply Pick.cons; focus (repeat (first | exact Del.here | apply Del.there)))))
                ·
                  refine cw_exit ?_
                  refine xw_then_exit ?_
                  refine xw_then_exit ?_
                  refine xw_in_exit ?_
                  refine xw_then ?_
                  refine cw_seq ?_
                  refine cw_seq ?_
                  refine cw_region ?_
                  refine lstepB rfl rfl rfl (run_move (.tmp rfl)) ?_
                  refine lstepB rfl rfl rfl (run_len (.tmp rfl) sl23) ?_
                  refine lstepB rfl rfl rfl (run_move .const) ?_
                  refine lnil ?_
                  refine xw_then ?_
                  refine cw_block ?_
                  refine cw_loop (S := Nat) (fun j => [(373, .int .i64 (j : Int))]) [(5, _), (23, _), (372, _)] (fun j => [(gQ, Obj.cells rQ.toArray 65 (0, 0))]) (fun j => j ≤ p.ls.length) (fun j => p.ls.length - j) 0 (by omega) (by repeat (first | exact Less.nil | refine Less.cons rfl ?_)) (by repeat (first | exact Pick.nil | (apply Pick.cons; focus (repeat (first | exact Del.here | apply Del.there))))) ?_
                  intro j hj
                  try dsimp only
                  refine cw_seq ?_
                  refine cw_region ?_
                  refine lstepB rfl rfl rfl (run_lss (.tmp rfl) (.tmp rfl) (by first | exact decide_eq_true (by omega) | exact decide_eq_false (by omega) | exact rfl)) ?_
                  refine lnil ?_
                  refine xw_then ?_
                  refine cw_seq ?_
                  refine cw_cond_p (.tmp rfl) (fun hlt5 => ?_) (fun hge5 => ?_)
                  ·
                    have hlt6 : j < p.ls.length := by have h : (j : Int) < ((0 + p.ls.length : Nat) : Int) := hlt5; omega
                    obtain ⟨l, hl⟩ : ∃ l, p.ls[j]? = some l := ⟨_, List.getElem?_eq_getElem hlt6⟩
                    obtain ⟨lb, lo, hla, hlb, hlq⟩ := lensIn_at hp1.2 (by omega)
                    subst hla
                    refine cw_skip ?_
                    refine xw_then ?_
                    refine cw_seq ?_
                    refine cw_block ?_
                    refine cw_seq ?_
                    refine cw_region ?_
                    refine lstepB rfl rfl rfl (run_move (.tmp rfl)) ?_
                    refine lstepB rfl rfl rfl (run_assign (.tmp rfl)) ?_
                    refine lnil ?_
                    refine xw_then ?_
                    refine cw_seq ?_
                    refine cw_chain2 (σ := [0, 1, 2, 3, 4, 5, 6, 7, 8, 9]) [⟨0, [], [], [], 0⟩, ⟨0, [], [], [], 0⟩, ⟨0, [], [], [], 3⟩, ⟨0, [0], [], [], 7⟩, ⟨0, [], [], [], 0⟩, ⟨0, [], [], [], 16⟩, ⟨0, [], [], [], 0⟩, ⟨0, [], [], [], 112⟩, ⟨0, [], [], [], 240⟩, ⟨0, [], [], [], 511⟩] [(0, _)] (by kernel_rfl) (by kernel_rfl) rfl ?_
                    refine .det (B := []) rfl rfl (.inl rfl) .nil .nil rfl (RunB.lr (run_move (.tmp rfl))) ?_
                    refine .det (B := []) rfl rfl (.inl rfl) .nil .nil rfl (RunB.lr (run_move (.tmp rfl))) ?_
                    refine .det (B := []) rfl rfl (.inl rfl) .nil .nil rfl (RunB.lr (run_indexAddr (.tmp rfl) (.tmp rfl) el23 (by omega) rfl)) ?_
                    refine .det (B := []) rfl rfl (.inl rfl) (.cons rfl .nil) .nil rfl (RunB.lr (run_loadN_own (l := [.int .i64 l.a, .int .i64 l.b, .int .i64 l.lo, .int .i64 l.hi]) (.tmp rfl) kd65 sz65 (by repeat (first | exact List.Mem.head _ | apply List.Mem.tail)) rfl (rowL_get hQ hl))) ?_
                    refine .det (B := []) rfl rfl (.inl rfl) .nil .nil rfl (RunB.lr (run_fieldAddr (.tmp rfl) fa25_2 (by first | exact Nat.zero_add _ | exact rfl))) ?_
                    refine .det (B := []) rfl rfl (.inl rfl) .nil .nil rfl (RunB.lr (run_load1_at (.tmp rfl) kd23 (fun w hS => hS.old_cell (fun h => h) (c5 2 _ rfl)))) ?_
                    refine .det (B := []) rfl rfl (.inl rfl) .nil .nil rfl (RunB.lr (run_move (.tmp rfl))) ?_
                    refine .det (B := []) rfl rfl (.inl rfl) .nil .nil rfl (RunB.lr (run_indexAddr (.tmp rfl) (.tmp rfl) el23 (by omega) rfl)) ?_
                    refine .det (B := []) rfl rfl (.inl rfl) .nil .nil rfl (RunB.lr (run_loadN_at (l := [.int .i64 l.a, .int .i64 l.b, .int .i64 l.lo, .int .i64 l.hi]) (.tmp rfl) kd65 sz65 rfl (fun w hS jj v hj => hS.old_cell (fun h => h) (hlq j l hl jj v hj)))) ?_
                    refine .det (B := []) rfl rfl (.inl rfl) .nil .nil rfl (RunB.lr (run_eql_agg (.tmp rfl) (.tmp rfl) eg65 (neq65 (show _ = false from by first | (simp; done) | (simp only [Bool.not_eq_false', Bool.and_eq_true, decide_eq_true_eq]; omega))))) ?_
                    refine chain_nil (ts := [0]) (.cons rfl .nil) (by decide) ?_
                    refine xw_then ?_
                    refine cw_cond_false (.tmp rfl) ?_
                    refine cw_skip ?_
                    refine xw_in ?_
                    refine xw_then ?_
                    refine cw_region ?_
                    refine lstepB rfl rfl rfl (run_add (.tmp rfl) .const (by first | exact IntWalk.i64_in _ (by omega) | exact rfl)) ?_
                    refine lstepB rfl rfl rfl (run_move (.tmp rfl)) ?_
                    refine lnil ?_
                    exact xw_round (j + 1) (by omega) (by omega) (by repeat (first | exact Less.nil | refine Less.cons rfl ?_)) (by repeat (first | exact Pick.nil | (apply Pick.cons; focus (repeat (first | exact Del.here | apply Del.there)))))
                  ·
                    refine cw_exit ?_
                    refine xw_then_exit ?_
                    refine xw_then_exit ?_
                    refine xw_in_exit ?_
                    refine xw_then ?_
                    refine cw_seq ?_
                    refine cw_region ?_
                    refine lstepB rfl rfl rfl (run_call1 cb12 .nil (fun w _ => aliveK w)) ?_
                    refine lstepB rfl rfl rfl (run_assign (.tmp rfl)) ?_
                    refine lnil ?_
                    refine xw_then ?_
                    refine cw_ret ?_
                    refine xw_ret1 Try.results9 rfl (fun w2 hS => ⟨rfl, below_two hB1 hS.kept⟩)
end Go.Proofs.Ytkjciobphbcknaa
