/- PegTrue: pegs that truly stand somewhere, as they are made. -/
import Derived.Test.YtkjciobphbcknaaTN
namespace Go.Proofs.Ytkjciobphbcknaa
open Go.RowKit En

set_option maxRecDepth 100000 in
set_option maxHeartbeats 4000000 in
theorem made_any (len cap b0 o0 cb yb : Nat) (h0 : 0 < len) (hm : len ≤ 9223372036854775807) (hne : cb ≠ yb) (hT1 : b0 ≠ cb) (hT2 : b0 ≠ yb) (w : World)
    (hc : w.heap[cb]? = some (Obj.cells [.int .i64 ((0 : Nat) : Int)].toArray 3 (0, 0))) (hy : w.heap[yb]? = some (Obj.cells [.slice (some ⟨b0, o0, none⟩) len cap].toArray 45 (0, 0))) (hby : ByIn w b0 o0 len) :
    Calls Try.prog 29 [.func (.func 72) #[] [.pointer (some ⟨cb, 0, none⟩), .pointer (some ⟨yb, 0, none⟩)].toArray].toArray w fun e w' => ∃ s : Made, MadeF s w' ∧ e = .returned (.tuple #[.agg #[.int .i64 s.p.side, .slice s.pa s.p.ps.length s.pc, .slice s.la s.p.ls.length s.lc], .slice s.qa s.qs.length s.qc, .int .i64 s.m]) ∧
      ∃ a' : Nat, Tr w w' [(cb, Obj.cells [.int .i64 ((0 : Nat) : Int)].toArray 3 (0, 0))] [(cb, Obj.cells [.int .i64 (a' : Int)].toArray 3 (0, 0))] := by
  have hTb : ¬ (fun k => k = cb ∨ k = yb) b0 := by simp [hT1, hT2]
  refine enterT (n := 155) (T := fun k => k = cb ∨ k = yb) (H := [(cb, Obj.cells [.int .i64 ((0 : Nat) : Int)].toArray 3 (0, 0)), (yb, Obj.cells [.slice (some ⟨b0, o0, none⟩) len cap].toArray 45 (0, 0))]) Try.func29 rfl rfl rfl (by repeat (first | exact Fill.nil | apply Fill.cons)) (fun z hz => ?_) (by simp [hne]) ?_
  · simp only [List.mem_cons, List.not_mem_nil, or_false] at hz
    rcases hz with rfl | rfl
    · exact ⟨hc, .inl rfl⟩
    · exact ⟨hy, .inr rfl⟩
  refine cw_seq ?_
  refine cw_region ?_
  refine lstep rfl rfl rfl (run_alloc zr25) ?_
  intro b2 _
  refine lstepB rfl rfl rfl (run_assign .const) ?_
  refine lstepB rfl rfl rfl (run_assign .const) ?_
  refine lnil ?_
  refine xw_then ?_
  refine cw_seq ?_
  refine cw_region ?_
  refine lstepB rfl rfl rfl (run_move (.tmp rfl)) ?_
  refine lstep rfl rfl rfl (LR.runs (R := [(yb, _)]) (A := [(cb, _)]) (lr_callv cb72 (.tmp rfl) (.cons .const .nil) rfl (drawC (a := 0) (by omega) (by omega) (by omega) h0 hm hne hTb hT1 hT2 hby)) (by repeat (first | exact Pick.nil | (apply Pick.cons; focus (repeat (first | exact Del.here | apply Del.there))))) (by repeat (first | exact Dels.nil | (apply Dels.cons; focus (repeat (first | exact Del.here | apply Del.there)))))) ?_
  intro r14 hr14
  refine lstepB rfl rfl rfl (run_add .const (.tmp rfl) (by first | exact IntWalk.i64_in _ (by omega) | exact rfl)) ?_
  refine lstepB rfl rfl rfl (run_fieldAddr (.tmp rfl) fa25_0 (by first | exact Nat.zero_add _ | exact rfl)) ?_
  refine lstep0 rfl rfl (run_store1 (.tmp rfl) (.tmp rfl) rfl sz3 (by repeat (first | exact Upd.here | apply Upd.there)) (by repeat (first | exact Put.done | apply Put.put | apply Put.skip))) ?_
  refine lstepB rfl rfl rfl (run_assign .const) ?_
  refine lnil ?_
  refine xw_then ?_
  refine cw_seq ?_
  refine cw_seq ?_
  refine cw_region ?_
  refine lstepB rfl rfl rfl (run_move (.tmp rfl)) ?_
  obtain ⟨side, hside⟩ : ∃ s : Int, 4 + r14 = s := ⟨_, rfl⟩
  rw [hside]
  have hs4 : 4 ≤ side := by omega
  have hs8 : side ≤ 8 := by omega
  clear hside hr14
  refine lstep rfl rfl rfl (LR.runs (R := [(yb, _)]) (A := [(cb, _)]) (lr_callv cb72 (.tmp rfl) (.cons .const .nil) rfl (drawC (a := 0 + 1) (by omega) (by omega) (by omega) h0 hm hne hTb hT1 hT2 hby)) (by repeat (first | exact Pick.nil | (apply Pick.cons; focus (repeat (first | exact Del.here | apply Del.there))))) (by repeat (first | exact Dels.nil | (apply Dels.cons; focus (repeat (first | exact Del.here | apply Del.there)))))) ?_
  intro r18 hr18
  obtain ⟨n, rfl⟩ := Int.eq_ofNat_of_zero_le hr18.1
  have hn4 : n ≤ 3 := by omega
  clear hr18
  refine lstepB rfl rfl rfl (run_move .const) ?_
  refine lnil ?_
  refine xw_then ?_
  refine cw_block ?_
  refine cw_loop (S := L1) (fun s => [(19, .int .i64 (s.k : Int)), (3, rowV s.q s.k), (4, .int .i64 s.m)]) [(0, _), (2, _), (18, _)] (fun s => [(b2, Obj.cells [.int .i64 side, rowV s.p s.k, .slice none 0 0].toArray 25 (0, 0)), (cb, Obj.cells [.int .i64 (s.a : Int)].toArray 3 (0, 0)), (yb, Obj.cells [.slice (some ⟨b0, o0, none⟩) len cap].toArray 45 (0, 0))] ++ (rowH s.p 56 ++ rowH s.q 52)) (fun s => s.ok side n) (fun s => n - s.k) ⟨0, 0 + 1 + 1, -1, [], [], none⟩ ⟨Nat.zero_le _, rfl, (by simp only; omega), MGood.nil _, (fun _ => rfl), ⟨rfl, rfl⟩, ⟨rfl, rfl⟩⟩ (by repeat (first | exact Less.nil | refine Less.cons rfl ?_)) (by repeat (first | exact Pick.nil | (apply Pick.cons; focus (repeat (first | exact Del.here | apply Del.there))))) ?_
  intro s hs
  obtain ⟨k, a, m, ps, qs, o⟩ := s
  obtain ⟨hk, hps, ha, hg, ho, hP, hQ⟩ := hs
  simp only at hk hps ha hg ho hP hQ
  refine cw_seq ?_
  refine cw_region ?_
  refine lstepB rfl rfl rfl (run_lss (.tmp rfl) (.tmp rfl) (by first | exact decide_eq_true (by omega) | exact decide_eq_false (by omega) | exact rfl)) ?_
  refine lnil ?_
  refine xw_then ?_
  refine cw_seq ?_
  refine cw_cond_p (.tmp rfl) (fun hlt => ?_) (fun hge => ?_)
  ·
    have hlt2 : k < n := Int.ofNat_lt.1 hlt
    rcases o with _ | ⟨⟨gP, cP, rP⟩, ⟨gQ, cQ, rQ⟩⟩
    ·
      have hk0 : k = 0 := ho rfl
      refine cw_skip ?_
      refine xw_then ?_
      refine cw_seq ?_
      refine cw_block ?_
      refine cw_seq ?_
      refine cw_region ?_
      refine lstepB rfl rfl rfl (run_move (.tmp rfl)) ?_
      refine lstepB rfl rfl rfl (run_assign (.tmp rfl)) ?_
      refine lnil ?_
      refine xw_then ?_
      refine cw_seq ?_
      refine cw_chain2 (σ := [0, 1, 2, 3, 5, 6, 7, 8, 4, 9, 10, 11, 12]) [⟨0, [], [], [], 0⟩, ⟨0, [], [], [], 0⟩, ⟨0, [0], [], [], 2⟩, ⟨0, [], [], [], 6⟩, ⟨1, [2], [1], [1], 15⟩, ⟨0, [], [], [], 0⟩, ⟨0, [], [], [], 0⟩, ⟨0, [0], [], [], 64⟩, ⟨0, [], [], [], 192⟩, ⟨1, [2], [1], [1], 511⟩, ⟨0, [], [], [], 1023⟩, ⟨2, [], [], [3], 0⟩, ⟨0, [], [3], [3], 4095⟩] [(0, _), (1, _), (2, _)] (by kernel_rfl) (by kernel_rfl) rfl ?_
      refine .det (B := []) rfl rfl (.inl rfl) .nil .nil rfl (RunB.lr (run_move (.tmp rfl))) ?_
      refine .det (B := []) rfl rfl (.inl rfl) .nil .nil rfl (RunB.lr (run_fieldAddr (.tmp rfl) fa25_0 (by first | exact Nat.zero_add _ | exact rfl))) ?_
      refine .det (B := []) rfl rfl (.inl rfl) (.cons rfl .nil) .nil rfl (RunB.lr (run_load1 (.tmp rfl) kd3 (by repeat (first | exact List.Mem.head _ | apply List.Mem.tail)) (by exact rfl))) ?_
      refine .det (B := []) rfl rfl (.inl rfl) .nil .nil rfl (RunB.lr (run_add (.tmp rfl) .const (by first | exact IntWalk.i64_in _ (by omega) | exact rfl))) ?_
      refine .det (B := []) rfl rfl (.inl rfl) .nil .nil rfl (RunB.lr (run_move (.tmp rfl))) ?_
      refine .det (B := []) rfl rfl (.inl rfl) .nil .nil rfl (RunB.lr (run_fieldAddr (.tmp rfl) fa25_0 (by first | exact Nat.zero_add _ | exact rfl))) ?_
      refine .det (B := []) rfl rfl (.inl rfl) (.cons rfl .nil) .nil rfl (RunB.lr (run_load1 (.tmp rfl) kd3 (by repeat (first | exact List.Mem.head _ | apply List.Mem.tail)) (by exact rfl))) ?_
      refine .det (B := []) rfl rfl (.inl rfl) .nil .nil rfl (RunB.lr (run_add (.tmp rfl) .const (by first | exact IntWalk.i64_in _ (by omega) | exact rfl))) ?_
      refine .ext (B := fun _ => [(1, (_, _))]) rfl rfl (.inl rfl) (.cons rfl .nil) (.cons rfl .nil) (fun _ => rfl) (by exact ⟨0, by omega, by omega⟩) (lr_callv cb72 (.tmp rfl) (.cons (.tmp rfl) .nil) rfl (drawC (a := a) (by omega) (by omega) (by omega) h0 hm hne hTb hT1 hT2 hby)) ?_
      intro r26 hr26
      refine .ext (B := fun _ => [(1, (_, _))]) rfl rfl (.inl rfl) (.cons rfl .nil) (.cons rfl .nil) (fun _ => rfl) (by exact ⟨0, by omega, by omega⟩) (lr_callv cb72 (.tmp rfl) (.cons (.tmp rfl) .nil) rfl (drawC (a := a + 1) (by omega) (by omega) (by omega) h0 hm hne hTb hT1 hT2 hby)) ?_
      intro r31 hr31
      refine .det (B := []) rfl rfl (.inl rfl) .nil .nil rfl (RunB.lr (run_build_at (.cons (.tmp rfl) (.cons (.tmp rfl) .nil)) (fun w => bd52_0_1 w))) ?_
      refine .flo rfl rfl rfl rfl zr52 rfl rfl rfl ?_
      intro b6
      refine .det (B := [(3, (_, _))]) rfl rfl (.inl rfl) .nil (.cons rfl .nil) rfl (lr_storeN (.tmp rfl) (.tmp rfl) rfl sz52 rfl (by repeat (first | exact Put.done | apply Put.put | apply Put.skip))) ?_
      refine chain_nil (ts := [3, 0, 1, 2]) (.cons rfl (.cons rfl (.cons rfl (.cons rfl .nil)))) (by decide) ?_
      refine xw_then ?_
      refine cw_seq ?_
      refine cw_chain2 (σ := [0, 1, 2, 6, 7, 8, 9, 10, 15, 16, 17, 21, 22, 23, 24, 25, 3, 4, 5, 11, 12, 13, 14, 18, 19, 20, 26, 27, 28, 29, 30, 31, 32]) [⟨0, [], [], [], 0⟩, ⟨0, [0], [], [], 1⟩, ⟨0, [], [], [], 0⟩, ⟨1, [3], [2], [2], 4⟩, ⟨0, [], [], [], 15⟩, ⟨0, [], [], [], 31⟩, ⟨0, [], [], [], 0⟩, ⟨0, [1], [], [], 64⟩, ⟨0, [], [], [], 0⟩, ⟨0, [0], [], [], 256⟩, ⟨0, [], [], [], 0⟩, ⟨1, [3], [2], [2], 1036⟩, ⟨0, [], [], [], 3852⟩, ⟨0, [], [], [], 8140⟩, ⟨0, [], [], [], 16383⟩, ⟨0, [], [], [], 0⟩, ⟨0, [0], [], [], 32768⟩, ⟨0, [], [], [], 0⟩, ⟨1, [3], [2], [2], 163839⟩, ⟨0, [], [], [], 524287⟩, ⟨0, [], [], [], 1048575⟩, ⟨0, [], [], [], 0⟩, ⟨0, [1], [], [], 2097152⟩, ⟨0, [], [], [], 0⟩, ⟨0, [0], [], [], 8388608⟩, ⟨0, [], [], [], 0⟩, ⟨1, [3], [2], [2], 33980415⟩, ⟨0, [], [], [], 126255103⟩, ⟨0, [], [], [], 266764287⟩, ⟨0, [], [], [], 536870911⟩, ⟨0, [], [], [], 1073741823⟩, ⟨2, [], [], [4], 0⟩, ⟨0, [], [4], [4], 4294967295⟩] [(0, _), (1, _), (2, _), (3, _)] (by kernel_rfl) (by kernel_rfl) rfl ?_
      refine .det (B := []) rfl rfl (.inl rfl) .nil .nil rfl (RunB.lr (run_fieldAddr (.tmp rfl) fa52_0 (by first | exact Nat.zero_add _ | exact rfl))) ?_
      refine .det (B := []) rfl rfl (.inl rfl) (.cons rfl .nil) .nil rfl (RunB.lr (run_load1 (.tmp rfl) kd3 (by repeat (first | exact List.Mem.head _ | apply List.Mem.tail)) (by exact rfl))) ?_
      refine .det (B := []) rfl rfl (.inl rfl) .nil .nil rfl (RunB.lr (run_move (.tmp rfl))) ?_
      refine .det (B := []) rfl rfl (.inl rfl) .nil .nil rfl (RunB.lr (run_fieldAddr (.tmp rfl) fa25_0 (by first | exact Nat.zero_add _ | exact rfl))) ?_
      refine .det (B := []) rfl rfl (.inl rfl) (.cons rfl .nil) .nil rfl (RunB.lr (run_load1 (.tmp rfl) kd3 (by repeat (first | exact List.Mem.head _ | apply List.Mem.tail)) (by exact rfl))) ?_
      refine .det (B := []) rfl rfl (.inl rfl) .nil .nil rfl (RunB.lr (run_fieldAddr (.tmp rfl) fa52_0 (by first | exact Nat.zero_add _ | exact rfl))) ?_
      refine .det (B := []) rfl rfl (.inl rfl) (.cons rfl .nil) .nil rfl (RunB.lr (run_load1 (.tmp rfl) kd3 (by repeat (first | exact List.Mem.head _ | apply List.Mem.tail)) (by exact rfl))) ?_
      refine .det (B := []) rfl rfl (.inl rfl) .nil .nil rfl (RunB.lr (run_move (.tmp rfl))) ?_
      refine .det (B := []) rfl rfl (.inl rfl) .nil .nil rfl (RunB.lr (run_fieldAddr (.tmp rfl) fa52_1 (by first | exact Nat.zero_add _ | exact rfl))) ?_
      refine .det (B := []) rfl rfl (.inl rfl) (.cons rfl .nil) .nil rfl (RunB.lr (run_load1 (.tmp rfl) kd3 (by repeat (first | exact List.Mem.head _ | apply List.Mem.tail)) (by exact rfl))) ?_
      refine .det (B := []) rfl rfl (.inl rfl) .nil .nil rfl (RunB.lr (run_move (.tmp rfl))) ?_
      refine .det (B := []) rfl rfl (.inl rfl) .nil .nil rfl (RunB.lr (run_fieldAddr (.tmp rfl) fa25_0 (by first | exact Nat.zero_add _ | exact rfl))) ?_
      refine .det (B := []) rfl rfl (.inl rfl) (.cons rfl .nil) .nil rfl (RunB.lr (run_load1 (.tmp rfl) kd3 (by repeat (first | exact List.Mem.head _ | apply List.Mem.tail)) (by exact rfl))) ?_
      refine .det (B := []) rfl rfl (.inl rfl) .nil .nil rfl (RunB.lr (run_fieldAddr (.tmp rfl) fa52_1 (by first | exact Nat.zero_add _ | exact rfl))) ?_
      refine .det (B := []) rfl rfl (.inl rfl) (.cons rfl .nil) .nil rfl (RunB.lr (run_load1 (.tmp rfl) kd3 (by repeat (first | exact List.Mem.head _ | apply List.Mem.tail)) (by exact rfl))) ?_
      refine .det (B := []) rfl rfl (.inl rfl) .nil .nil rfl (RunB.lr (run_move (.tmp rfl))) ?_
      refine .ext (B := fun _ => [(2, (_, _))]) rfl rfl (.inl rfl) (.cons rfl .nil) (.cons rfl .nil) (fun _ => rfl) (by exact ⟨0, by omega, by omega⟩) (lr_callv cb72 (.tmp rfl) (.cons .const .nil) rfl (drawC (a := a + 1 + 1) (by omega) (by omega) (by omega) h0 hm hne hTb hT1 hT2 hby)) ?_
      intro r36 hr36
      refine .det (B := []) rfl rfl (.inl rfl) .nil .nil rfl (RunB.lr (run_sub (.tmp rfl) (.tmp rfl) (by first | exact IntWalk.i64_in _ (by omega) | exact rfl))) ?_
      refine .det (B := []) rfl rfl (.inl rfl) .nil .nil rfl (RunB.lr (run_max2 .const (.tmp rfl))) ?_
      refine .ext (B := fun _ => [(2, (_, _))]) rfl rfl (.inl rfl) (.cons rfl .nil) (.cons rfl .nil) (fun _ => rfl) (by exact ⟨0, by omega, by omega⟩) (lr_callv cb72 (.tmp rfl) (.cons .const .nil) rfl (drawC (a := a + 1 + 1 + 1) (by omega) (by omega) (by omega) h0 hm hne hTb hT1 hT2 hby)) ?_
      intro r44 hr44
      refine .det (B := []) rfl rfl (.inl rfl) .nil .nil rfl (RunB.lr (run_add (.tmp rfl) (.tmp rfl) (by first | exact IntWalk.i64_in _ (by omega) | exact rfl))) ?_
      refine .det (B := []) rfl rfl (.inl rfl) .nil .nil rfl (RunB.lr (run_min2 (.tmp rfl) (.tmp rfl))) ?_
      refine .det (B := []) rfl rfl (.inl rfl) .nil .nil rfl (RunB.lr (run_call1 cb28 (.cons (.tmp rfl) (.cons (.tmp rfl) .nil)) (fun w _ => spanK _ _ w))) ?_
      refine .ext (B := fun _ => [(2, (_, _))]) rfl rfl (.inl rfl) (.cons rfl .nil) (.cons rfl .nil) (fun _ => rfl) (by exact ⟨0, by omega, by omega⟩) (lr_callv cb72 (.tmp rfl) (.cons .const .nil) rfl (drawC (a := a + 1 + 1 + 1 + 1) (by omega) (by omega) (by omega) h0 hm hne hTb hT1 hT2 hby)) ?_
      intro r51 hr51
      refine .det (B := []) rfl rfl (.inl rfl) .nil .nil rfl (RunB.lr (run_sub (.tmp rfl) (.tmp rfl) (by first | exact IntWalk.i64_in _ (by omega) | exact rfl))) ?_
      refine .det (B := []) rfl rfl (.inl rfl) .nil .nil rfl (RunB.lr (run_max2 .const (.tmp rfl))) ?_
      refine .ext (B := fun _ => [(2, (_, _))]) rfl rfl (.inl rfl) (.cons rfl .nil) (.cons rfl .nil) (fun _ => rfl) (by exact ⟨0, by omega, by omega⟩) (lr_callv cb72 (.tmp rfl) (.cons .const .nil) rfl (drawC (a := a + 1 + 1 + 1 + 1 + 1) (by omega) (by omega) (by omega) h0 hm hne hTb hT1 hT2 hby)) ?_
      intro r59 hr59
      refine .det (B := []) rfl rfl (.inl rfl) .nil .nil rfl (RunB.lr (run_add (.tmp rfl) (.tmp rfl) (by first | exact IntWalk.i64_in _ (by omega) | exact rfl))) ?_
      refine .det (B := []) rfl rfl (.inl rfl) .nil .nil rfl (RunB.lr (run_min2 (.tmp rfl) (.tmp rfl))) ?_
      refine .det (B := []) rfl rfl (.inl rfl) .nil .nil rfl (RunB.lr (run_call1 cb28 (.cons (.tmp rfl) (.cons (.tmp rfl) .nil)) (fun w _ => spanK _ _ w))) ?_
      refine .det (B := []) rfl rfl (.inl rfl) .nil .nil rfl (RunB.lr (run_build_at (.cons (.tmp rfl) (.cons (.tmp rfl) .nil)) (fun w => bd56_0_1 w))) ?_
      refine .flo rfl rfl rfl rfl zr56 rfl rfl rfl ?_
      intro b7
      refine .det (B := [(4, (_, _))]) rfl rfl (.inl rfl) .nil (.cons rfl .nil) rfl (lr_storeN (.tmp rfl) (.tmp rfl) rfl sz56 rfl (by repeat (first | exact Put.done | apply Put.put | apply Put.skip))) ?_
      refine chain_nil (ts := [4, 0, 1, 2, 3]) (.cons rfl (.cons rfl (.cons rfl (.cons rfl (.cons rfl .nil))))) (by decide) ?_
      obtain ⟨hpB, hpA⟩ := postB_of (side := side) (x := r26) (y := r31) (by omega) (by omega) hr36 hr44 hr51 hr59
      generalize hx0 : max 0 (r26 - r36) = x0 at *
      generalize hx1 : min side (r26 + r44) = x1 at *
      generalize hy0 : max 0 (r31 - r51) = y0 at *
      generalize hy1 : min side (r31 + r59) = y1 at *
      clear hx0 hx1 hy0 hy1 hr36 hr44 hr51 hr59
      refine xw_then ?_
      refine cw_seq ?_
      refine cw_region ?_
      refine lstepB rfl rfl rfl (run_fieldAddr (.tmp rfl) fa25_1 (by first | exact Nat.zero_add _ | exact rfl)) ?_
      refine lstepB rfl rfl rfl (run_load1 (.tmp rfl) kd22 (by repeat (first | exact List.Mem.head _ | apply List.Mem.tail)) (by exact rfl)) ?_
      refine lstepB rfl rfl rfl (run_loadN (.tmp rfl) kd56 sz56 (by repeat (first | exact List.Mem.head _ | apply List.Mem.tail)) (by repeat (first | exact Sub.done | apply Sub.take | apply Sub.skip))) ?_
      refine lstep rfl rfl rfl (LR.runs (lr_buildSlice_at (.cons (.tmp rfl) .nil) (fun w => bs22_1_0 w)) (by repeat (first | exact Pick.nil | (apply Pick.cons; focus (repeat (first | exact Del.here | apply Del.there))))) (by repeat (first | exact Dels.nil | (apply Dels.cons; focus (repeat (first | exact Del.here | apply Del.there)))))) ?_
      intro b67 _
      refine lstep rfl rfl rfl (LR.runs (R := [(b67, _)]) (A := []) (lr_append_nil ap22 (.tmp rfl) (.tmp rfl) (news := [.int .i64 x0, .int .i64 x1, .int .i64 y0, .int .i64 y1]) rfl (by omega) (by omega) (by decide) (news_own (by repeat (first | exact List.Mem.head _ | apply List.Mem.tail)))) (by repeat (first | exact Pick.nil | (apply Pick.cons; focus (repeat (first | exact Del.here | apply Del.there))))) (by repeat (first | exact Dels.nil | (apply Dels.cons; focus (repeat (first | exact Del.here | apply Del.there)))))) ?_
      intro ⟨gP2, cP2, rP2⟩ hP2
      replace hP2 : InRow 4 (k + 1) cP2 rP2 (postCells (ps ++ [⟨x0, x1, y0, y1⟩])) := by
        rw [postCells_snoc]
        have e : ps = [] := List.eq_nil_of_length_eq_zero (by omega)
        subst e; rw [hk0]; exact hP2
      refine lstepB rfl rfl rfl (run_fieldAddr (.tmp rfl) fa25_1 (by first | exact Nat.zero_add _ | exact rfl)) ?_
      refine lstep0 rfl rfl (run_store1 (.tmp rfl) (.tmp rfl) rfl sz22 (by repeat (first | exact Upd.here | apply Upd.there)) (by repeat (first | exact Put.done | apply Put.put | apply Put.skip))) ?_
      refine lnil ?_
      refine xw_then ?_
      refine cw_meet (S := M1) (fun z => [(4, .int .i64 z.m)]) [(0, _), (2, _), (3, _), (5, _), (6, _), (18, _), (19, _)] (fun z => [(cb, Obj.cells [.int .i64 (z.a : Int)].toArray 3 (0, 0)), (yb, Obj.cells [.slice (some ⟨b0, o0, none⟩) len cap].toArray 45 (0, 0)), (b2, Obj.cells [.int .i64 side, (.slice (some ⟨gP2, 0, none⟩) 1 cP2), .slice none 0 0].toArray 25 (0, 0)), (b6, Obj.cells [.int .i64 z.s.x, .int .i64 z.s.y].toArray 52 (0, 0)), (gP2, Obj.cells rP2.toArray 56 (0, 0))]) (fun z => z.a ≤ 100 + 20 * k + 12 ∧ inField side z.s ∧ (z.m = m ∧ atPost ⟨x0, x1, y0, y1⟩ z.s ∨ m = -1 ∧ z.m = k ∧ ¬ atPost ⟨x0, x1, y0, y1⟩ z.s)) (by repeat (first | exact Less.nil | refine Less.cons rfl ?_)) ?_ ?_
      ·
        by_cases hmm : m = -1
        ·
          refine cw_seq ?_
          refine cw_region ?_
          refine lstepB rfl rfl rfl (run_move (.tmp rfl)) ?_
          refine lstepB rfl rfl rfl (run_eql (.tmp rfl) .const (by first | exact decide_eq_true (by omega) | exact decide_eq_false (by omega) | exact rfl)) ?_
          refine lstepB rfl rfl rfl (run_move (.tmp rfl)) ?_
          refine lyes rfl rfl rfl rfl ?_
          refine gstepB rfl rfl (run_move (.tmp rfl)) ?_
          refine lyes rfl rfl rfl rfl ?_
          refine gstep rfl rfl (LR.runs (R := [(yb, _)]) (A := [(cb, _)]) (lr_callv cb72 (.tmp rfl) (.cons .const .nil) rfl (drawC (a := a + 1 + 1 + 1 + 1 + 1 + 1) (by omega) (by omega) (by omega) h0 hm hne hTb hT1 hT2 hby)) (by repeat (first | exact Pick.nil | (apply Pick.cons; focus (repeat (first | exact Del.here | apply Del.there))))) (by repeat (first | exact Dels.nil | (apply Dels.cons; focus (repeat (first | exact Del.here | apply Del.there)))))) ?_
          intro r74 hr74
          refine lyes rfl rfl rfl rfl ?_
          refine gstepB rfl rfl (run_eql (.tmp rfl) .const (by first | exact decide_eq_true (by omega) | exact decide_eq_false (by omega) | exact rfl)) ?_
          refine lstepB rfl rfl rfl (by first | exact run_pick_true (.tmp rfl) (.tmp rfl) | exact run_pick_false (.tmp rfl) .const) ?_
          refine lnil ?_
          refine xw_then ?_
          refine cw_cond_p (.tmp rfl) (fun h74 => ?_) (fun h74 => ?_)
          ·
            refine cw_seq ?_
            refine cw_chain2 (σ := [0, 1, 2, 3, 5, 6, 7, 8, 4, 9, 10, 11, 12]) [⟨0, [], [], [], 0⟩, ⟨0, [], [], [], 0⟩, ⟨0, [5], [], [], 2⟩, ⟨0, [], [], [], 6⟩, ⟨1, [6], [0], [0], 15⟩, ⟨0, [], [], [], 0⟩, ⟨0, [], [], [], 0⟩, ⟨0, [5], [], [], 64⟩, ⟨0, [], [], [], 192⟩, ⟨1, [6], [0], [0], 511⟩, ⟨0, [], [], [], 1023⟩, ⟨2, [], [], [7], 0⟩, ⟨0, [], [7], [7], 4095⟩] [(0, _), (1, _), (2, _), (3, _), (4, _), (5, _), (6, _)] (by kernel_rfl) (by kernel_rfl) rfl ?_
            refine .det (B := []) rfl rfl (.inl rfl) .nil .nil rfl (RunB.lr (run_move (.tmp rfl))) ?_
            refine .det (B := []) rfl rfl (.inl rfl) .nil .nil rfl (RunB.lr (run_fieldAddr (.tmp rfl) fa25_0 (by first | exact Nat.zero_add _ | exact rfl))) ?_
            refine .det (B := []) rfl rfl (.inl rfl) (.cons rfl .nil) .nil rfl (RunB.lr (run_load1 (.tmp rfl) kd3 (by repeat (first | exact List.Mem.head _ | apply List.Mem.tail)) (by exact rfl))) ?_
            refine .det (B := []) rfl rfl (.inl rfl) .nil .nil rfl (RunB.lr (run_add (.tmp rfl) .const (by first | exact IntWalk.i64_in _ (by omega) | exact rfl))) ?_
            refine .det (B := []) rfl rfl (.inl rfl) .nil .nil rfl (RunB.lr (run_move (.tmp rfl))) ?_
            refine .det (B := []) rfl rfl (.inl rfl) .nil .nil rfl (RunB.lr (run_fieldAddr (.tmp rfl) fa25_0 (by first | exact Nat.zero_add _ | exact rfl))) ?_
            refine .det (B := []) rfl rfl (.inl rfl) (.cons rfl .nil) .nil rfl (RunB.lr (run_load1 (.tmp rfl) kd3 (by repeat (first | exact List.Mem.head _ | apply List.Mem.tail)) (by exact rfl))) ?_
            refine .det (B := []) rfl rfl (.inl rfl) .nil .nil rfl (RunB.lr (run_add (.tmp rfl) .const (by first | exact IntWalk.i64_in _ (by omega) | exact rfl))) ?_
            refine .ext (B := fun _ => [(0, (_, _))]) rfl rfl (.inl rfl) (.cons rfl .nil) (.cons rfl .nil) (fun _ => rfl) (by exact ⟨0, by omega, by omega⟩) (lr_callv cb72 (.tmp rfl) (.cons (.tmp rfl) .nil) rfl (drawC (a := a + 1 + 1 + 1 + 1 + 1 + 1 + 1) (by omega) (by omega) (by omega) h0 hm hne hTb hT1 hT2 hby)) ?_
            intro r81 hr81
            refine .ext (B := fun _ => [(0, (_, _))]) rfl rfl (.inl rfl) (.cons rfl .nil) (.cons rfl .nil) (fun _ => rfl) (by exact ⟨0, by omega, by omega⟩) (lr_callv cb72 (.tmp rfl) (.cons (.tmp rfl) .nil) rfl (drawC (a := a + 1 + 1 + 1 + 1 + 1 + 1 + 1 + 1) (by omega) (by omega) (by omega) h0 hm hne hTb hT1 hT2 hby)) ?_
            intro r86 hr86
            refine .det (B := []) rfl rfl (.inl rfl) .nil .nil rfl (RunB.lr (run_build_at (.cons (.tmp rfl) (.cons (.tmp rfl) .nil)) (fun w => bd52_0_1 w))) ?_
            refine .flo rfl rfl rfl rfl zr52 rfl rfl rfl ?_
            intro b8
            refine .det (B := [(7, (_, _))]) rfl rfl (.inl rfl) .nil (.cons rfl .nil) rfl (lr_storeN (.tmp rfl) (.tmp rfl) rfl sz52 rfl (by repeat (first | exact Put.done | apply Put.put | apply Put.skip))) ?_
            refine chain_nil (ts := [7, 0, 1, 2, 3, 4, 5, 6]) (.cons rfl (.cons rfl (.cons rfl (.cons rfl (.cons rfl (.cons rfl (.cons rfl (.cons rfl .nil)))))))) (by decide) ?_
            refine xw_then ?_
            refine cw_seq ?_
            refine cw_region ?_
            refine lstepB rfl rfl rfl (run_loadN (.tmp rfl) kd52 sz52 (by repeat (first | exact List.Mem.head _ | apply List.Mem.tail)) (by repeat (first | exact Sub.done | apply Sub.take | apply Sub.skip))) ?_
            refine lstepB rfl rfl rfl (run_loadN (.tmp rfl) kd56 sz56 (by repeat (first | exact List.Mem.head _ | apply List.Mem.tail)) (by repeat (first | exact Sub.done | apply Sub.take | apply Sub.skip))) ?_
            refine lstepB rfl rfl rfl (run_call1 cb70 (.cons (.tmp rfl) (.cons (.tmp rfl) .nil)) (fun w _ => (at_any ⟨_, _⟩ ⟨_, _, _, _⟩ w))) ?_
            refine lstepB rfl rfl rfl (run_not (.tmp rfl) (by first | exact Bool.not_true | exact Bool.not_false | exact rfl)) ?_
            refine lnil ?_
            refine xw_then ?_
            cases hat : atPostB ⟨x0, x1, y0, y1⟩ ⟨r81, r86⟩
            ·
              simp only [hat, Bool.not_false]
              refine cw_cond_true (.tmp rfl) ?_
              refine cw_region ?_
              refine lstepB rfl rfl rfl (run_loadN (.tmp rfl) kd52 sz52 (by repeat (first | exact List.Mem.head _ | apply List.Mem.tail)) (by repeat (first | exact Sub.done | apply Sub.take | apply Sub.skip))) ?_
              refine lstepB rfl rfl rfl (run_move (.tmp rfl)) ?_
              refine lstep0 rfl rfl (run_storeN (.tmp rfl) (.tmp rfl) rfl sz52 rfl (by repeat (first | exact Upd.here | apply Upd.there)) (by repeat (first | exact Put.done | apply Put.put | apply Put.skip))) ?_
              refine lstepB rfl rfl rfl (run_assign (.tmp rfl)) ?_
              refine lnil ?_
              exact xw_meet ⟨a + 1 + 1 + 1 + 1 + 1 + 1 + 1 + 1 + 1, (k : Int), ⟨r81, r86⟩⟩ ⟨by simp only; omega, ⟨by simp only; omega, by simp only; omega, by simp only; omega, by simp only; omega⟩, .inr ⟨hmm, rfl, fun h => by rw [← atPostB_iff, hat] at h; cases h⟩⟩ (by repeat (first | exact Less.nil | refine Less.cons rfl ?_)) (by repeat (first | exact Pick.nil | (apply Pick.cons; focus (repeat (first | exact Del.here | apply Del.there)))))
            ·
              simp only [hat, Bool.not_true]
              refine cw_cond_false (.tmp rfl) ?_
              refine cw_skip ?_
              exact xw_meet ⟨a + 1 + 1 + 1 + 1 + 1 + 1 + 1 + 1 + 1, m, ⟨r26, r31⟩⟩ ⟨by simp only; omega, ⟨by simp only; omega, by simp only; omega, by simp only; omega, by simp only; omega⟩, .inl ⟨rfl, hpA⟩⟩ (by repeat (first | exact Less.nil | refine Less.cons rfl ?_)) (by repeat (first | exact Pick.nil | (apply Pick.cons; focus (repeat (first | exact Del.here | apply Del.there)))))
          ·
            refine cw_skip ?_
            exact xw_meet ⟨a + 1 + 1 + 1 + 1 + 1 + 1 + 1, m, ⟨r26, r31⟩⟩ ⟨by simp only; omega, ⟨by simp only; omega, by simp only; omega, by simp only; omega, by simp only; omega⟩, .inl ⟨rfl, hpA⟩⟩ (by repeat (first | exact Less.nil | refine Less.cons rfl ?_)) (by repeat (first | exact Pick.nil | (apply Pick.cons; focus (repeat (first | exact Del.here | apply Del.there)))))
        ·
          refine cw_seq ?_
          refine cw_region ?_
          refine lstepB rfl rfl rfl (run_move (.tmp rfl)) ?_
          refine lstepB rfl rfl rfl (run_eql (.tmp rfl) .const (by first | exact decide_eq_true (by omega) | exact decide_eq_false (by omega) | exact rfl)) ?_
          refine lstepB rfl rfl rfl (run_move (.tmp rfl)) ?_
          refine lskip rfl rfl rfl rfl rfl rfl rfl ?_
          refine lskip rfl rfl rfl rfl rfl rfl rfl ?_
          refine lskip rfl rfl rfl rfl rfl rfl rfl ?_
          refine lstepB rfl rfl rfl (by first | exact run_pick_true (.tmp rfl) (.tmp rfl) | exact run_pick_false (.tmp rfl) .const) ?_
          refine lnil ?_
          refine xw_then ?_
          refine cw_cond_false (.tmp rfl) ?_
          refine cw_skip ?_
          exact xw_meet ⟨a + 1 + 1 + 1 + 1 + 1 + 1, m, ⟨r26, r31⟩⟩ ⟨by simp only; omega, ⟨by simp only; omega, by simp only; omega, by simp only; omega, by simp only; omega⟩, .inl ⟨rfl, hpA⟩⟩ (by repeat (first | exact Less.nil | refine Less.cons rfl ?_)) (by repeat (first | exact Pick.nil | (apply Pick.cons; focus (repeat (first | exact Del.here | apply Del.there)))))
      ·
        intro z hz
        refine cw_region ?_
        refine lstepB rfl rfl rfl (run_move (.tmp rfl)) ?_
        refine lstepB rfl rfl rfl (run_loadN (.tmp rfl) kd52 sz52 (by repeat (first | exact List.Mem.head _ | apply List.Mem.tail)) (by repeat (first | exact Sub.done | apply Sub.take | apply Sub.skip))) ?_
        refine lstep rfl rfl rfl (LR.runs (lr_buildSlice_at (.cons (.tmp rfl) .nil) (fun w => bs46_1_0 w)) (by repeat (first | exact Pick.nil | (apply Pick.cons; focus (repeat (first | exact Del.here | apply Del.there))))) (by repeat (first | exact Dels.nil | (apply Dels.cons; focus (repeat (first | exact Del.here | apply Del.there)))))) ?_
        intro b96 _
        refine lstep rfl rfl rfl (LR.runs (R := [(b96, _)]) (A := []) (lr_append_nil ap46 (.tmp rfl) (.tmp rfl) (news := [.int .i64 z.s.x, .int .i64 z.s.y]) rfl (by omega) (by omega) (by decide) (news_own (by repeat (first | exact List.Mem.head _ | apply List.Mem.tail)))) (by repeat (first | exact Pick.nil | (apply Pick.cons; focus (repeat (first | exact Del.here | apply Del.there))))) (by repeat (first | exact Dels.nil | (apply Dels.cons; focus (repeat (first | exact Del.here | apply Del.there)))))) ?_
        intro ⟨gQ2, cQ2, rQ2⟩ hQ2
        replace hQ2 : InRow 2 (k + 1) cQ2 rQ2 (qlCells (qs ++ [z.s])) := by
          rw [qlCells_snoc]
          have e : qs = [] := List.eq_nil_of_length_eq_zero (by have := hg.len; omega)
          subst e; rw [hk0]; exact hQ2
        refine lstepB rfl rfl rfl (run_assign (.tmp rfl)) ?_
        refine lnil ?_
        refine xw_in ?_
        refine xw_then ?_
        refine cw_region ?_
        refine lstepB rfl rfl rfl (run_add (.tmp rfl) .const (by first | exact IntWalk.i64_in _ (by omega) | exact rfl)) ?_
        refine lstepB rfl rfl rfl (run_move (.tmp rfl)) ?_
        refine lnil ?_
        subst hk0
        exact xw_round ⟨0 + 1, z.a, z.m, ps ++ [Post.mk x0 x1 y0 y1], qs ++ [z.s], some (⟨gP2, cP2, rP2⟩, ⟨gQ2, cQ2, rQ2⟩)⟩ ⟨by simp only; omega, by simp only [List.length_append, List.length_singleton]; omega, by simp only; omega, hg.snoc hpB hz.2.1 (by have := hz.2.2; rw [hps]; exact this), (fun h => by cases h), hP2, hQ2⟩ (by simp only; omega) (by repeat (first | exact Less.nil | refine Less.cons rfl ?_)) (by repeat (first | exact Pick.nil | (apply Pick.cons; focus (repeat (first | exact Del.here | apply Del.there)))))
    ·
      have hP : InRow 4 k cP rP (postCells ps) := hP
      have hQ : InRow 2 k cQ rQ (qlCells qs) := hQ
      refine cw_skip ?_
      refine xw_then ?_
      refine cw_seq ?_
      refine cw_block ?_
      refine cw_seq ?_
      refine cw_region ?_
      refine lstepB rfl rfl rfl (run_move (.tmp rfl)) ?_
      refine lstepB rfl rfl rfl (run_assign (.tmp rfl)) ?_
      refine lnil ?_
      refine xw_then ?_
      refine cw_seq ?_
      refine cw_chain2 (σ := [0, 1, 2, 3, 5, 6, 7, 8, 4, 9, 10, 11, 12]) [⟨0, [], [], [], 0⟩, ⟨0, [], [], [], 0⟩, ⟨0, [0], [], [], 2⟩, ⟨0, [], [], [], 6⟩, ⟨1, [2], [1], [1], 15⟩, ⟨0, [], [], [], 0⟩, ⟨0, [], [], [], 0⟩, ⟨0, [0], [], [], 64⟩, ⟨0, [], [], [], 192⟩, ⟨1, [2], [1], [1], 511⟩, ⟨0, [], [], [], 1023⟩, ⟨2, [], [], [5], 0⟩, ⟨0, [], [5], [5], 4095⟩] [(0, _), (1, _), (2, _), (3, _), (4, _)] (by kernel_rfl) (by kernel_rfl) rfl ?_
      refine .det (B := []) rfl rfl (.inl rfl) .nil .nil rfl (RunB.lr (run_move (.tmp rfl))) ?_
      refine .det (B := []) rfl rfl (.inl rfl) .nil .nil rfl (RunB.lr (run_fieldAddr (.tmp rfl) fa25_0 (by first | exact Nat.zero_add _ | exact rfl))) ?_
      refine .det (B := []) rfl rfl (.inl rfl) (.cons rfl .nil) .nil rfl (RunB.lr (run_load1 (.tmp rfl) kd3 (by repeat (first | exact List.Mem.head _ | apply List.Mem.tail)) (by exact rfl))) ?_
      refine .det (B := []) rfl rfl (.inl rfl) .nil .nil rfl (RunB.lr (run_add (.tmp rfl) .const (by first | exact IntWalk.i64_in _ (by omega) | exact rfl))) ?_
      refine .det (B := []) rfl rfl (.inl rfl) .nil .nil rfl (RunB.lr (run_move (.tmp rfl))) ?_
      refine .det (B := []) rfl rfl (.inl rfl) .nil .nil rfl (RunB.lr (run_fieldAddr (.tmp rfl) fa25_0 (by first | exact Nat.zero_add _ | exact rfl))) ?_
      refine .det (B := []) rfl rfl (.inl rfl) (.cons rfl .nil) .nil rfl (RunB.lr (run_load1 (.tmp rfl) kd3 (by repeat (first | exact List.Mem.head _ | apply List.Mem.tail)) (by exact rfl))) ?_
      refine .det (B := []) rfl rfl (.inl rfl) .nil .nil rfl (RunB.lr (run_add (.tmp rfl) .const (by first | exact IntWalk.i64_in _ (by omega) | exact rfl))) ?_
      refine .ext (B := fun _ => [(1, (_, _))]) rfl rfl (.inl rfl) (.cons rfl .nil) (.cons rfl .nil) (fun _ => rfl) (by exact ⟨0, by omega, by omega⟩) (lr_callv cb72 (.tmp rfl) (.cons (.tmp rfl) .nil) rfl (drawC (a := a) (by omega) (by omega) (by omega) h0 hm hne hTb hT1 hT2 hby)) ?_
      intro r26 hr26
      refine .ext (B := fun _ => [(1, (_, _))]) rfl rfl (.inl rfl) (.cons rfl .nil) (.cons rfl .nil) (fun _ => rfl) (by exact ⟨0, by omega, by omega⟩) (lr_callv cb72 (.tmp rfl) (.cons (.tmp rfl) .nil) rfl (drawC (a := a + 1) (by omega) (by omega) (by omega) h0 hm hne hTb hT1 hT2 hby)) ?_
      intro r31 hr31
      refine .det (B := []) rfl rfl (.inl rfl) .nil .nil rfl (RunB.lr (run_build_at (.cons (.tmp rfl) (.cons (.tmp rfl) .nil)) (fun w => bd52_0_1 w))) ?_
      refine .flo rfl rfl rfl rfl zr52 rfl rfl rfl ?_
      intro b6
      refine .det (B := [(5, (_, _))]) rfl rfl (.inl rfl) .nil (.cons rfl .nil) rfl (lr_storeN (.tmp rfl) (.tmp rfl) rfl sz52 rfl (by repeat (first | exact Put.done | apply Put.put | apply Put.skip))) ?_
      refine chain_nil (ts := [5, 0, 1, 2, 3, 4]) (.cons rfl (.cons rfl (.cons rfl (.cons rfl (.cons rfl (.cons rfl .nil)))))) (by decide) ?_
      refine xw_then ?_
      refine cw_seq ?_
      refine cw_chain2 (σ := [0, 1, 2, 6, 7, 8, 9, 10, 15, 16, 17, 21, 22, 23, 24, 25, 3, 4, 5, 11, 12, 13, 14, 18, 19, 20, 26, 27, 28, 29, 30, 31, 32]) [⟨0, [], [], [], 0⟩, ⟨0, [0], [], [], 1⟩, ⟨0, [], [], [], 0⟩, ⟨1, [3], [2], [2], 4⟩, ⟨0, [], [], [], 15⟩, ⟨0, [], [], [], 31⟩, ⟨0, [], [], [], 0⟩, ⟨0, [1], [], [], 64⟩, ⟨0, [], [], [], 0⟩, ⟨0, [0], [], [], 256⟩, ⟨0, [], [], [], 0⟩, ⟨1, [3], [2], [2], 1036⟩, ⟨0, [], [], [], 3852⟩, ⟨0, [], [], [], 8140⟩, ⟨0, [], [], [], 16383⟩, ⟨0, [], [], [], 0⟩, ⟨0, [0], [], [], 32768⟩, ⟨0, [], [], [], 0⟩, ⟨1, [3], [2], [2], 163839⟩, ⟨0, [], [], [], 524287⟩, ⟨0, [], [], [], 1048575⟩, ⟨0, [], [], [], 0⟩, ⟨0, [1], [], [], 2097152⟩, ⟨0, [], [], [], 0⟩, ⟨0, [0], [], [], 8388608⟩, ⟨0, [], [], [], 0⟩, ⟨1, [3], [2], [2], 33980415⟩, ⟨0, [], [], [], 126255103⟩, ⟨0, [], [], [], 266764287⟩, ⟨0, [], [], [], 536870911⟩, ⟨0, [], [], [], 1073741823⟩, ⟨2, [], [], [6], 0⟩, ⟨0, [], [6], [6], 4294967295⟩] [(0, _), (1, _), (2, _), (3, _), (4, _), (5, _)] (by kernel_rfl) (by kernel_rfl) rfl ?_
      refine .det (B := []) rfl rfl (.inl rfl) .nil .nil rfl (RunB.lr (run_fieldAddr (.tmp rfl) fa52_0 (by first | exact Nat.zero_add _ | exact rfl))) ?_
      refine .det (B := []) rfl rfl (.inl rfl) (.cons rfl .nil) .nil rfl (RunB.lr (run_load1 (.tmp rfl) kd3 (by repeat (first | exact List.Mem.head _ | apply List.Mem.tail)) (by exact rfl))) ?_
      refine .det (B := []) rfl rfl (.inl rfl) .nil .nil rfl (RunB.lr (run_move (.tmp rfl))) ?_
      refine .det (B := []) rfl rfl (.inl rfl) .nil .nil rfl (RunB.lr (run_fieldAddr (.tmp rfl) fa25_0 (by first | exact Nat.zero_add _ | exact rfl))) ?_
      refine .det (B := []) rfl rfl (.inl rfl) (.cons rfl .nil) .nil rfl (RunB.lr (run_load1 (.tmp rfl) kd3 (by repeat (first | exact List.Mem.head _ | apply List.Mem.tail)) (by exact rfl))) ?_
      refine .det (B := []) rfl rfl (.inl rfl) .nil .nil rfl (RunB.lr (run_fieldAddr (.tmp rfl) fa52_0 (by first | exact Nat.zero_add _ | exact rfl))) ?_
      refine .det (B := []) rfl rfl (.inl rfl) (.cons rfl .nil) .nil rfl (RunB.lr (run_load1 (.tmp rfl) kd3 (by repeat (first | exact List.Mem.head _ | apply List.Mem.tail)) (by exact rfl))) ?_
      refine .det (B := []) rfl rfl (.inl rfl) .nil .nil rfl (RunB.lr (run_move (.tmp rfl))) ?_
      refine .det (B := []) rfl rfl (.inl rfl) .nil .nil rfl (RunB.lr (run_fieldAddr (.tmp rfl) fa52_1 (by first | exact Nat.zero_add _ | exact rfl))) ?_
      refine .det (B := []) rfl rfl (.inl rfl) (.cons rfl .nil) .nil rfl (RunB.lr (run_load1 (.tmp rfl) kd3 (by repeat (first | exact List.Mem.head _ | apply List.Mem.tail)) (by exact rfl))) ?_
      refine .det (B := []) rfl rfl (.inl rfl) .nil .nil rfl (RunB.lr (run_move (.tmp rfl))) ?_
      refine .det (B := []) rfl rfl (.inl rfl) .nil .nil rfl (RunB.lr (run_fieldAddr (.tmp rfl) fa25_0 (by first | exact Nat.zero_add _ | exact rfl))) ?_
      refine .det (B := []) rfl rfl (.inl rfl) (.cons rfl .nil) .nil rfl (RunB.lr (run_load1 (.tmp rfl) kd3 (by repeat (first | exact List.Mem.head _ | apply List.Mem.tail)) (by exact rfl))) ?_
      refine .det (B := []) rfl rfl (.inl rfl) .nil .nil rfl (RunB.lr (run_fieldAddr (.tmp rfl) fa52_1 (by first | exact Nat.zero_add _ | exact rfl))) ?_
      refine .det (B := []) rfl rfl (.inl rfl) (.cons rfl .nil) .nil rfl (RunB.lr (run_load1 (.tmp rfl) kd3 (by repeat (first | exact List.Mem.head _ | apply List.Mem.tail)) (by exact rfl))) ?_
      refine .det (B := []) rfl rfl (.inl rfl) .nil .nil rfl (RunB.lr (run_move (.tmp rfl))) ?_
      refine .ext (B := fun _ => [(2, (_, _))]) rfl rfl (.inl rfl) (.cons rfl .nil) (.cons rfl .nil) (fun _ => rfl) (by exact ⟨0, by omega, by omega⟩) (lr_callv cb72 (.tmp rfl) (.cons .const .nil) rfl (drawC (a := a + 1 + 1) (by omega) (by omega) (by omega) h0 hm hne hTb hT1 hT2 hby)) ?_
      intro r36 hr36
      refine .det (B := []) rfl rfl (.inl rfl) .nil .nil rfl (RunB.lr (run_sub (.tmp rfl) (.tmp rfl) (by first | exact IntWalk.i64_in _ (by omega) | exact rfl))) ?_
      refine .det (B := []) rfl rfl (.inl rfl) .nil .nil rfl (RunB.lr (run_max2 .const (.tmp rfl))) ?_
      refine .ext (B := fun _ => [(2, (_, _))]) rfl rfl (.inl rfl) (.cons rfl .nil) (.cons rfl .nil) (fun _ => rfl) (by exact ⟨0, by omega, by omega⟩) (lr_callv cb72 (.tmp rfl) (.cons .const .nil) rfl (drawC (a := a + 1 + 1 + 1) (by omega) (by omega) (by omega) h0 hm hne hTb hT1 hT2 hby)) ?_
      intro r44 hr44
      refine .det (B := []) rfl rfl (.inl rfl) .nil .nil rfl (RunB.lr (run_add (.tmp rfl) (.tmp rfl) (by first | exact IntWalk.i64_in _ (by omega) | exact rfl))) ?_
      refine .det (B := []) rfl rfl (.inl rfl) .nil .nil rfl (RunB.lr (run_min2 (.tmp rfl) (.tmp rfl))) ?_
      refine .det (B := []) rfl rfl (.inl rfl) .nil .nil rfl (RunB.lr (run_call1 cb28 (.cons (.tmp rfl) (.cons (.tmp rfl) .nil)) (fun w _ => spanK _ _ w))) ?_
      refine .ext (B := fun _ => [(2, (_, _))]) rfl rfl (.inl rfl) (.cons rfl .nil) (.cons rfl .nil) (fun _ => rfl) (by exact ⟨0, by omega, by omega⟩) (lr_callv cb72 (.tmp rfl) (.cons .const .nil) rfl (drawC (a := a + 1 + 1 + 1 + 1) (by omega) (by omega) (by omega) h0 hm hne hTb hT1 hT2 hby)) ?_
      intro r51 hr51
      refine .det (B := []) rfl rfl (.inl rfl) .nil .nil rfl (RunB.lr (run_sub (.tmp rfl) (.tmp rfl) (by first | exact IntWalk.i64_in _ (by omega) | exact rfl))) ?_
      refine .det (B := []) rfl rfl (.inl rfl) .nil .nil rfl (RunB.lr (run_max2 .const (.tmp rfl))) ?_
      refine .ext (B := fun _ => [(2, (_, _))]) rfl rfl (.inl rfl) (.cons rfl .nil) (.cons rfl .nil) (fun _ => rfl) (by exact ⟨0, by omega, by omega⟩) (lr_callv cb72 (.tmp rfl) (.cons .const .nil) rfl (drawC (a := a + 1 + 1 + 1 + 1 + 1) (by omega) (by omega) (by omega) h0 hm hne hTb hT1 hT2 hby)) ?_
      intro r59 hr59
      refine .det (B := []) rfl rfl (.inl rfl) .nil .nil rfl (RunB.lr (run_add (.tmp rfl) (.tmp rfl) (by first | exact IntWalk.i64_in _ (by omega) | exact rfl))) ?_
      refine .det (B := []) rfl rfl (.inl rfl) .nil .nil rfl (RunB.lr (run_min2 (.tmp rfl) (.tmp rfl))) ?_
      refine .det (B := []) rfl rfl (.inl rfl) .nil .nil rfl (RunB.lr (run_call1 cb28 (.cons (.tmp rfl) (.cons (.tmp rfl) .nil)) (fun w _ => spanK _ _ w))) ?_
      refine .det (B := []) rfl rfl (.inl rfl) .nil .nil rfl (RunB.lr (run_build_at (.cons (.tmp rfl) (.cons (.tmp rfl) .nil)) (fun w => bd56_0_1 w))) ?_
      refine .flo rfl rfl rfl rfl zr56 rfl rfl rfl ?_
      intro b7
      refine .det (B := [(6, (_, _))]) rfl rfl (.inl rfl) .nil (.cons rfl .nil) rfl (lr_storeN (.tmp rfl) (.tmp rfl) rfl sz56 rfl (by repeat (first | exact Put.done | apply Put.put | apply Put.skip))) ?_
      refine chain_nil (ts := [6, 0, 1, 2, 3, 4, 5]) (.cons rfl (.cons rfl (.cons rfl (.cons rfl (.cons rfl (.cons rfl (.cons rfl .nil))))))) (by decide) ?_
      obtain ⟨hpB, hpA⟩ := postB_of (side := side) (x := r26) (y := r31) (by omega) (by omega) hr36 hr44 hr51 hr59
      generalize hx0 : max 0 (r26 - r36) = x0 at *
      generalize hx1 : min side (r26 + r44) = x1 at *
      generalize hy0 : max 0 (r31 - r51) = y0 at *
      generalize hy1 : min side (r31 + r59) = y1 at *
      clear hx0 hx1 hy0 hy1 hr36 hr44 hr51 hr59
      refine xw_then ?_
      refine cw_seq ?_
      refine cw_region ?_
      refine lstepB rfl rfl rfl (run_fieldAddr (.tmp rfl) fa25_1 (by first | exact Nat.zero_add _ | exact rfl)) ?_
      refine lstepB rfl rfl rfl (run_load1 (.tmp rfl) kd22 (by repeat (first | exact List.Mem.head _ | apply List.Mem.tail)) (by exact rfl)) ?_
      refine lstepB rfl rfl rfl (run_loadN (.tmp rfl) kd56 sz56 (by repeat (first | exact List.Mem.head _ | apply List.Mem.tail)) (by repeat (first | exact Sub.done | apply Sub.take | apply Sub.skip))) ?_
      refine lstep rfl rfl rfl (LR.runs (lr_buildSlice_at (.cons (.tmp rfl) .nil) (fun w => bs22_1_0 w)) (by repeat (first | exact Pick.nil | (apply Pick.cons; focus (repeat (first | exact Del.here | apply Del.there))))) (by repeat (first | exact Dels.nil | (apply Dels.cons; focus (repeat (first | exact Del.here | apply Del.there)))))) ?_
      intro b67 _
      refine lstep rfl rfl rfl (LR.runs (R := [(b67, _)]) (A := [(gP, _)]) (lr_append_row ap22 (.tmp rfl) hP (.tmp rfl) (news := [.int .i64 x0, .int .i64 x1, .int .i64 y0, .int .i64 y1]) rfl rfl (by omega) (by unfold maxLen; omega) (news_own (by repeat (first | exact List.Mem.head _ | apply List.Mem.tail)))) (by repeat (first | exact Pick.nil | (apply Pick.cons; focus (repeat (first | exact Del.here | apply Del.there))))) (by repeat (first | exact Dels.nil | (apply Dels.cons; focus (repeat (first | exact Del.here | apply Del.there)))))) ?_
      intro ⟨gP2, cP2, rP2⟩ hP2
      replace hP2 : InRow 4 (k + 1) cP2 rP2 (postCells (ps ++ [⟨x0, x1, y0, y1⟩])) := by
        rw [postCells_snoc]
        exact hP2
      refine lstepB rfl rfl rfl (run_fieldAddr (.tmp rfl) fa25_1 (by first | exact Nat.zero_add _ | exact rfl)) ?_
      refine lstep0 rfl rfl (run_store1 (.tmp rfl) (.tmp rfl) rfl sz22 (by repeat (first | exact Upd.here | apply Upd.there)) (by repeat (first | exact Put.done | apply Put.put | apply Put.skip))) ?_
      refine lnil ?_
      refine xw_then ?_
      refine cw_meet (S := M1) (fun z => [(4, .int .i64 z.m)]) [(0, _), (2, _), (3, _), (5, _), (6, _), (18, _), (19, _)] (fun z => [(cb, Obj.cells [.int .i64 (z.a : Int)].toArray 3 (0, 0)), (yb, Obj.cells [.slice (some ⟨b0, o0, none⟩) len cap].toArray 45 (0, 0)), (b2, Obj.cells [.int .i64 side, (.slice (some ⟨gP2, 0, none⟩) (k + 1) cP2), .slice none 0 0].toArray 25 (0, 0)), (b6, Obj.cells [.int .i64 z.s.x, .int .i64 z.s.y].toArray 52 (0, 0)), (gP2, Obj.cells rP2.toArray 56 (0, 0)), (gQ, Obj.cells rQ.toArray 52 (0, 0))]) (fun z => z.a ≤ 100 + 20 * k + 12 ∧ inField side z.s ∧ (z.m = m ∧ atPost ⟨x0, x1, y0, y1⟩ z.s ∨ m = -1 ∧ z.m = k ∧ ¬ atPost ⟨x0, x1, y0, y1⟩ z.s)) (by repeat (first | exact Less.nil | refine Less.cons rfl ?_)) ?_ ?_
      ·
        by_cases hmm : m = -1
        ·
          refine cw_seq ?_
          refine cw_region ?_
          refine lstepB rfl rfl rfl (run_move (.tmp rfl)) ?_
          refine lstepB rfl rfl rfl (run_eql (.tmp rfl) .const (by first | exact decide_eq_true (by omega) | exact decide_eq_false (by omega) | exact rfl)) ?_
          refine lstepB rfl rfl rfl (run_move (.tmp rfl)) ?_
          refine lyes rfl rfl rfl rfl ?_
          refine gstepB rfl rfl (run_move (.tmp rfl)) ?_
          refine lyes rfl rfl rfl rfl ?_
          refine gstep rfl rfl (LR.runs (R := [(yb, _)]) (A := [(cb, _)]) (lr_callv cb72 (.tmp rfl) (.cons .const .nil) rfl (drawC (a := a + 1 + 1 + 1 + 1 + 1 + 1) (by omega) (by omega) (by omega) h0 hm hne hTb hT1 hT2 hby)) (by repeat (first | exact Pick.nil | (apply Pick.cons; focus (repeat (first | exact Del.here | apply Del.there))))) (by repeat (first | exact Dels.nil | (apply Dels.cons; focus (repeat (first | exact Del.here | apply Del.there)))))) ?_
          intro r74 hr74
          refine lyes rfl rfl rfl rfl ?_
          refine gstepB rfl rfl (run_eql (.tmp rfl) .const (by first | exact decide_eq_true (by omega) | exact decide_eq_false (by omega) | exact rfl)) ?_
          refine lstepB rfl rfl rfl (by first | exact run_pick_true (.tmp rfl) (.tmp rfl) | exact run_pick_false (.tmp rfl) .const) ?_
          refine lnil ?_
          refine xw_then ?_
          refine cw_cond_p (.tmp rfl) (fun h74 => ?_) (fun h74 => ?_)
          ·
            refine cw_seq ?_
            refine cw_chain2 (σ := [0, 1, 2, 3, 5, 6, 7, 8, 4, 9, 10, 11, 12]) [⟨0, [], [], [], 0⟩, ⟨0, [], [], [], 0⟩, ⟨0, [5], [], [], 2⟩, ⟨0, [], [], [], 6⟩, ⟨1, [6], [0], [0], 15⟩, ⟨0, [], [], [], 0⟩, ⟨0, [], [], [], 0⟩, ⟨0, [5], [], [], 64⟩, ⟨0, [], [], [], 192⟩, ⟨1, [6], [0], [0], 511⟩, ⟨0, [], [], [], 1023⟩, ⟨2, [], [], [8], 0⟩, ⟨0, [], [8], [8], 4095⟩] [(0, _), (1, _), (2, _), (3, _), (4, _), (5, _), (6, _), (7, _)] (by kernel_rfl) (by kernel_rfl) rfl ?_
            refine .det (B := []) rfl rfl (.inl rfl) .nil .nil rfl (RunB.lr (run_move (.tmp rfl))) ?_
            refine .det (B := []) rfl rfl (.inl rfl) .nil .nil rfl (RunB.lr (run_fieldAddr (.tmp rfl) fa25_0 (by first | exact Nat.zero_add _ | exact rfl))) ?_
            refine .det (B := []) rfl rfl (.inl rfl) (.cons rfl .nil) .nil rfl (RunB.lr (run_load1 (.tmp rfl) kd3 (by repeat (first | exact List.Mem.head _ | apply List.Mem.tail)) (by exact rfl))) ?_
            refine .det (B := []) rfl rfl (.inl rfl) .nil .nil rfl (RunB.lr (run_add (.tmp rfl) .const (by first | exact IntWalk.i64_in _ (by omega) | exact rfl))) ?_
            refine .det (B := []) rfl rfl (.inl rfl) .nil .nil rfl (RunB.lr (run_move (.tmp rfl))) ?_
            refine .det (B := []) rfl rfl (.inl rfl) .nil .nil rfl (RunB.lr (run_fieldAddr (.tmp rfl) fa25_0 (by first | exact Nat.zero_add _ | exact rfl))) ?_
            refine .det (B := []) rfl rfl (.inl rfl) (.cons rfl .nil) .nil rfl (RunB.lr (run_load1 (.tmp rfl) kd3 (by repeat (first | exact List.Mem.head _ | apply List.Mem.tail)) (by exact rfl))) ?_
            refine .det (B := []) rfl rfl (.inl rfl) .nil .nil rfl (RunB.lr (run_add (.tmp rfl) .const (by first | exact IntWalk.i64_in _ (by omega) | exact rfl))) ?_
            refine .ext (B := fun _ => [(0, (_, _))]) rfl rfl (.inl rfl) (.cons rfl .nil) (.cons rfl .nil) (fun _ => rfl) (by exact ⟨0, by omega, by omega⟩) (lr_callv cb72 (.tmp rfl) (.cons (.tmp rfl) .nil) rfl (drawC (a := a + 1 + 1 + 1 + 1 + 1 + 1 + 1) (by omega) (by omega) (by omega) h0 hm hne hTb hT1 hT2 hby)) ?_
            intro r81 hr81
            refine .ext (B := fun _ => [(0, (_, _))]) rfl rfl (.inl rfl) (.cons rfl .nil) (.cons rfl .nil) (fun _ => rfl) (by exact ⟨0, by omega, by omega⟩) (lr_callv cb72 (.tmp rfl) (.cons (.tmp rfl) .nil) rfl (drawC (a := a + 1 + 1 + 1 + 1 + 1 + 1 + 1 + 1) (by omega) (by omega) (by omega) h0 hm hne hTb hT1 hT2 hby)) ?_
            intro r86 hr86
            refine .det (B := []) rfl rfl (.inl rfl) .nil .nil rfl (RunB.lr (run_build_at (.cons (.tmp rfl) (.cons (.tmp rfl) .nil)) (fun w => bd52_0_1 w))) ?_
            refine .flo rfl rfl rfl rfl zr52 rfl rfl rfl ?_
            intro b8
            refine .det (B := [(8, (_, _))]) rfl rfl (.inl rfl) .nil (.cons rfl .nil) rfl (lr_storeN (.tmp rfl) (.tmp rfl) rfl sz52 rfl (by repeat (first | exact Put.done | apply Put.put | apply Put.skip))) ?_
            refine chain_nil (ts := [8, 0, 1, 2, 3, 4, 5, 6, 7]) (.cons rfl (.cons rfl (.cons rfl (.cons rfl (.cons rfl (.cons rfl (.cons rfl (.cons rfl (.cons rfl .nil))))))))) (by decide) ?_
            refine xw_then ?_
            refine cw_seq ?_
            refine cw_region ?_
            refine lstepB rfl rfl rfl (run_loadN (.tmp rfl) kd52 sz52 (by repeat (first | exact List.Mem.head _ | apply List.Mem.tail)) (by repeat (first | exact Sub.done | apply Sub.take | apply Sub.skip))) ?_
            refine lstepB rfl rfl rfl (run_loadN (.tmp rfl) kd56 sz56 (by repeat (first | exact List.Mem.head _ | apply List.Mem.tail)) (by repeat (first | exact Sub.done | apply Sub.take | apply Sub.skip))) ?_
            refine lstepB rfl rfl rfl (run_call1 cb70 (.cons (.tmp rfl) (.cons (.tmp rfl) .nil)) (fun w _ => (at_any ⟨_, _⟩ ⟨_, _, _, _⟩ w))) ?_
            refine lstepB rfl rfl rfl (run_not (.tmp rfl) (by first | exact Bool.not_true | exact Bool.not_false | exact rfl)) ?_
            refine lnil ?_
            refine xw_then ?_
            cases hat : atPostB ⟨x0, x1, y0, y1⟩ ⟨r81, r86⟩
            ·
              simp only [hat, Bool.not_false]
              refine cw_cond_true (.tmp rfl) ?_
              refine cw_region ?_
              refine lstepB rfl rfl rfl (run_loadN (.tmp rfl) kd52 sz52 (by repeat (first | exact List.Mem.head _ | apply List.Mem.tail)) (by repeat (first | exact Sub.done | apply Sub.take | apply Sub.skip))) ?_
              refine lstepB rfl rfl rfl (run_move (.tmp rfl)) ?_
              refine lstep0 rfl rfl (run_storeN (.tmp rfl) (.tmp rfl) rfl sz52 rfl (by repeat (first | exact Upd.here | apply Upd.there)) (by repeat (first | exact Put.done | apply Put.put | apply Put.skip))) ?_
              refine lstepB rfl rfl rfl (run_assign (.tmp rfl)) ?_
              refine lnil ?_
              exact xw_meet ⟨a + 1 + 1 + 1 + 1 + 1 + 1 + 1 + 1 + 1, (k : Int), ⟨r81, r86⟩⟩ ⟨by simp only; omega, ⟨by simp only; omega, by simp only; omega, by simp only; omega, by simp only; omega⟩, .inr ⟨hmm, rfl, fun h => by rw [← atPostB_iff, hat] at h; cases h⟩⟩ (by repeat (first | exact Less.nil | refine Less.cons rfl ?_)) (by repeat (first | exact Pick.nil | (apply Pick.cons; focus (repeat (first | exact Del.here | apply Del.there)))))
            ·
              simp only [hat, Bool.not_true]
              refine cw_cond_false (.tmp rfl) ?_
              refine cw_skip ?_
              exact xw_meet ⟨a + 1 + 1 + 1 + 1 + 1 + 1 + 1 + 1 + 1, m, ⟨r26, r31⟩⟩ ⟨by simp only; omega, ⟨by simp only; omega, by simp only; omega, by simp only; omega, by simp only; omega⟩, .inl ⟨rfl, hpA⟩⟩ (by repeat (first | exact Less.nil | refine Less.cons rfl ?_)) (by repeat (first | exact Pick.nil | (apply Pick.cons; focus (repeat (first | exact Del.here | apply Del.there)))))
          ·
            refine cw_skip ?_
            exact xw_meet ⟨a + 1 + 1 + 1 + 1 + 1 + 1 + 1, m, ⟨r26, r31⟩⟩ ⟨by simp only; omega, ⟨by simp only; omega, by simp only; omega, by simp only; omega, by simp only; omega⟩, .inl ⟨rfl, hpA⟩⟩ (by repeat (first | exact Less.nil | refine Less.cons rfl ?_)) (by repeat (first | exact Pick.nil | (apply Pick.cons; focus (repeat (first | exact Del.here | apply Del.there)))))
        ·
          refine cw_seq ?_
          refine cw_region ?_
          refine lstepB rfl rfl rfl (run_move (.tmp rfl)) ?_
          refine lstepB rfl rfl rfl (run_eql (.tmp rfl) .const (by first | exact decide_eq_true (by omega) | exact decide_eq_false (by omega) | exact rfl)) ?_
          refine lstepB rfl rfl rfl (run_move (.tmp rfl)) ?_
          refine lskip rfl rfl rfl rfl rfl rfl rfl ?_
          refine lskip rfl rfl rfl rfl rfl rfl rfl ?_
          refine lskip rfl rfl rfl rfl rfl rfl rfl ?_
          refine lstepB rfl rfl rfl (by first | exact run_pick_true (.tmp rfl) (.tmp rfl) | exact run_pick_false (.tmp rfl) .const) ?_
          refine lnil ?_
          refine xw_then ?_
          refine cw_cond_false (.tmp rfl) ?_
          refine cw_skip ?_
          exact xw_meet ⟨a + 1 + 1 + 1 + 1 + 1 + 1, m, ⟨r26, r31⟩⟩ ⟨by simp only; omega, ⟨by simp only; omega, by simp only; omega, by simp only; omega, by simp only; omega⟩, .inl ⟨rfl, hpA⟩⟩ (by repeat (first | exact Less.nil | refine Less.cons rfl ?_)) (by repeat (first | exact Pick.nil | (apply Pick.cons; focus (repeat (first | exact Del.here | apply Del.there)))))
      ·
        intro z hz
        refine cw_region ?_
        refine lstepB rfl rfl rfl (run_move (.tmp rfl)) ?_
        refine lstepB rfl rfl rfl (run_loadN (.tmp rfl) kd52 sz52 (by repeat (first | exact List.Mem.head _ | apply List.Mem.tail)) (by repeat (first | exact Sub.done | apply Sub.take | apply Sub.skip))) ?_
        refine lstep rfl rfl rfl (LR.runs (lr_buildSlice_at (.cons (.tmp rfl) .nil) (fun w => bs46_1_0 w)) (by repeat (first | exact Pick.nil | (apply Pick.cons; focus (repeat (first | exact Del.here | apply Del.there))))) (by repeat (first | exact Dels.nil | (apply Dels.cons; focus (repeat (first | exact Del.here | apply Del.there)))))) ?_
        intro b96 _
        refine lstep rfl rfl rfl (LR.runs (R := [(b96, _)]) (A := [(gQ, _)]) (lr_append_row ap46 (.tmp rfl) hQ (.tmp rfl) (news := [.int .i64 z.s.x, .int .i64 z.s.y]) rfl rfl (by omega) (by unfold maxLen; omega) (news_own (by repeat (first | exact List.Mem.head _ | apply List.Mem.tail)))) (by repeat (first | exact Pick.nil | (apply Pick.cons; focus (repeat (first | exact Del.here | apply Del.there))))) (by repeat (first | exact Dels.nil | (apply Dels.cons; focus (repeat (first | exact Del.here | apply Del.there)))))) ?_
        intro ⟨gQ2, cQ2, rQ2⟩ hQ2
        replace hQ2 : InRow 2 (k + 1) cQ2 rQ2 (qlCells (qs ++ [z.s])) := by
          rw [qlCells_snoc]
          exact hQ2
        refine lstepB rfl rfl rfl (run_assign (.tmp rfl)) ?_
        refine lnil ?_
        refine xw_in ?_
        refine xw_then ?_
        refine cw_region ?_
        refine lstepB rfl rfl rfl (run_add (.tmp rfl) .const (by first | exact IntWalk.i64_in _ (by omega) | exact rfl)) ?_
        refine lstepB rfl rfl rfl (run_move (.tmp rfl)) ?_
        refine lnil ?_
        exact xw_round ⟨k + 1, z.a, z.m, ps ++ [Post.mk x0 x1 y0 y1], qs ++ [z.s], some (⟨gP2, cP2, rP2⟩, ⟨gQ2, cQ2, rQ2⟩)⟩ ⟨by simp only; omega, by simp only [List.length_append, List.length_singleton]; omega, by simp only; omega, hg.snoc hpB hz.2.1 (by have := hz.2.2; rw [hps]; exact this), (fun h => by cases h), hP2, hQ2⟩ (by simp only; omega) (by repeat (first | exact Less.nil | refine Less.cons rfl ?_)) (by repeat (first | exact Pick.nil | (apply Pick.cons; focus (repeat (first | exact Del.here | apply Del.there)))))
  ·
    have hkn : k = n := by have h : ¬ ((k : Int) < (n : Int)) := hge; omega
    clear hge
    rcases o with _ | ⟨⟨gP, cP, rP⟩, ⟨gQ, cQ, rQ⟩⟩
    ·
      have hk0 : k = 0 := ho rfl
      subst hk0
      refine cw_exit ?_
      refine xw_then_exit ?_
      refine xw_then_exit ?_
      refine xw_in_exit ?_
      refine xw_then ?_
      refine cw_seq ?_
      refine cw_region ?_
      refine lstepB rfl rfl rfl (run_move (.tmp rfl)) ?_
      refine lstepB rfl rfl rfl (run_len (.tmp rfl) sl46) ?_
      refine lstepB rfl rfl rfl (run_assign (.tmp rfl)) ?_
      refine lnil ?_
      refine xw_then ?_
      refine cw_seq ?_
      refine cw_seq ?_
      refine cw_region ?_
      refine lstepB rfl rfl rfl (run_move (.tmp rfl)) ?_
      refine lstepB rfl rfl rfl (run_lss (.tmp rfl) .const (by first | exact decide_eq_true (by omega) | exact decide_eq_false (by omega) | exact rfl)) ?_
      refine lnil ?_
      refine xw_then ?_
      refine cw_cond_true (.tmp rfl) ?_
      refine cw_seq ?_
      refine cw_region ?_
      refine lstepB rfl rfl rfl (run_loadN (.tmp rfl) kd25 sz25 (by repeat (first | exact List.Mem.head _ | apply List.Mem.tail)) (by repeat (first | exact Sub.done | apply Sub.take | apply Sub.skip))) ?_
      refine lstepB rfl rfl rfl (run_move (.tmp rfl)) ?_
      refine lstepB rfl rfl rfl (run_move (.tmp rfl)) ?_
      refine lstep0 rfl rfl (run_storeN (.tmp rfl) (.tmp rfl) rfl sz25 rfl (by repeat (first | exact Upd.here | apply Upd.there)) (by repeat (first | exact Put.done | apply Put.put | apply Put.skip))) ?_
      refine lstepB rfl rfl rfl (run_assign (.tmp rfl)) ?_
      refine lstepB rfl rfl rfl (run_assign (.tmp rfl)) ?_
      refine lnil ?_
      refine xw_then ?_
      refine cw_ret ?_
      refine xw_then_ret ?_
      exact xw_retC Try.results29 rfl rfl rfl kd25 sz25 (by repeat (first | exact List.Mem.head _ | apply List.Mem.tail)) (by repeat (first | exact Sub.done | apply Sub.take | apply Sub.skip)) (fun w2 hS => made_end (k := 0) (ls := []) (j := 0) none none none hS (by repeat (first | exact List.Mem.head _ | apply List.Mem.tail)) (by repeat (first | exact List.Mem.head _ | apply List.Mem.tail)) hy (fun z hz => by cases hz) (fun z hz => by cases hz) (fun z hz => by cases hz) hP hQ (⟨rfl, rfl⟩) hps rfl hg (fun l hl => by cases hl) hs4 hs8 (by omega) (Nat.zero_le _))
    ·
      have hP : InRow 4 k cP rP (postCells ps) := hP
      have hQ : InRow 2 k cQ rQ (qlCells qs) := hQ
      refine cw_exit ?_
      refine xw_then_exit ?_
      refine xw_then_exit ?_
      refine xw_in_exit ?_
      refine xw_then ?_
      refine cw_seq ?_
      refine cw_region ?_
      refine lstepB rfl rfl rfl (run_move (.tmp rfl)) ?_
      refine lstepB rfl rfl rfl (run_len (m := k) (.tmp rfl) sl46) ?_
      refine lstepB rfl rfl rfl (run_assign (.tmp rfl)) ?_
      refine lnil ?_
      refine xw_then ?_
      refine cw_seq ?_
      refine cw_seq ?_
      refine cw_region ?_
      refine lstepB rfl rfl rfl (run_move (.tmp rfl)) ?_
      refine lstepB rfl rfl rfl (run_lss (.tmp rfl) .const (by first | exact decide_eq_true (by omega) | exact decide_eq_false (by omega) | exact rfl)) ?_
      refine lnil ?_
      refine xw_then ?_
      refine cw_cond_p (.tmp rfl) (fun hk2 => ?_) (fun hk2 => ?_)
      ·
        refine cw_seq ?_
        refine cw_region ?_
        refine lstepB rfl rfl rfl (run_loadN (.tmp rfl) kd25 sz25 (by repeat (first | exact List.Mem.head _ | apply List.Mem.tail)) (by repeat (first | exact Sub.done | apply Sub.take | apply Sub.skip))) ?_
        refine lstepB rfl rfl rfl (run_move (.tmp rfl)) ?_
        refine lstepB rfl rfl rfl (run_move (.tmp rfl)) ?_
        refine lstep0 rfl rfl (run_storeN (.tmp rfl) (.tmp rfl) rfl sz25 rfl (by repeat (first | exact Upd.here | apply Upd.there)) (by repeat (first | exact Put.done | apply Put.put | apply Put.skip))) ?_
        refine lstepB rfl rfl rfl (run_assign (.tmp rfl)) ?_
        refine lstepB rfl rfl rfl (run_assign (.tmp rfl)) ?_
        refine lnil ?_
        refine xw_then ?_
        refine cw_ret ?_
        refine xw_then_ret ?_
        exact xw_retC Try.results29 rfl rfl rfl kd25 sz25 (by repeat (first | exact List.Mem.head _ | apply List.Mem.tail)) (by repeat (first | exact Sub.done | apply Sub.take | apply Sub.skip)) (fun w2 hS => made_end (k := k) (ls := []) (j := 0) (some ⟨gP, cP, rP⟩) (some ⟨gQ, cQ, rQ⟩) none hS (by repeat (first | exact List.Mem.head _ | apply List.Mem.tail)) (by repeat (first | exact List.Mem.head _ | apply List.Mem.tail)) hy (fun z hz => by
          have e := List.mem_singleton.1 hz
          subst e
          repeat (first | exact List.Mem.head _ | apply List.Mem.tail)) (fun z hz => by
          have e := List.mem_singleton.1 hz
          subst e
          repeat (first | exact List.Mem.head _ | apply List.Mem.tail)) (fun z hz => by cases hz) hP hQ (⟨rfl, rfl⟩) hps rfl hg (fun l hl => by cases hl) hs4 hs8 (by omega) (Nat.zero_le _))
      ·
        replace hk2 : 2 ≤ k := by have h : ¬ ((k : Int) < 2) := hk2; omega
        refine cw_skip ?_
        refine xw_then ?_
        refine cw_seq ?_
        refine cw_seq ?_
        refine cw_region ?_
        refine lstepB rfl rfl rfl (run_move (.tmp rfl)) ?_
        refine lstep rfl rfl rfl (LR.runs (R := [(yb, _)]) (A := [(cb, _)]) (lr_callv cb72 (.tmp rfl) (.cons .const .nil) rfl (drawC (a := a) (by omega) (by omega) (by omega) h0 hm hne hTb hT1 hT2 hby)) (by repeat (first | exact Pick.nil | (apply Pick.cons; focus (repeat (first | exact Del.here | apply Del.there))))) (by repeat (first | exact Dels.nil | (apply Dels.cons; focus (repeat (first | exact Del.here | apply Del.there)))))) ?_
        intro r107 hr107
        obtain ⟨r, rfl⟩ := Int.eq_ofNat_of_zero_le hr107.1
        have hr6 : r ≤ 6 := by omega
        clear hr107
        refine lstepB rfl rfl rfl (run_move .const) ?_
        refine lnil ?_
        refine xw_then ?_
        refine cw_block ?_
        refine cw_loop (S := L2) (fun s => [(108, .int .i64 (s.j : Int))]) [(0, _), (2, _), (3, _), (4, _), (9, _), (107, _)] (fun s => [(b2, Obj.cells [.int .i64 side, .slice (some ⟨gP, 0, none⟩) k cP, rowV s.o s.j].toArray 25 (0, 0)), (cb, Obj.cells [.int .i64 (s.a : Int)].toArray 3 (0, 0)), (yb, Obj.cells [.slice (some ⟨b0, o0, none⟩) len cap].toArray 45 (0, 0)), (gP, Obj.cells rP.toArray 56 (0, 0)), (gQ, Obj.cells rQ.toArray 52 (0, 0))] ++ rowH s.o 65) (fun s => s.ok qs r) (fun s => r - s.j) ⟨0, a + 1, [], none⟩ ⟨Nat.zero_le _, rfl, (by simp only; omega), (fun l hl => by cases hl), (fun _ => rfl), ⟨rfl, rfl⟩⟩ (by repeat (first | exact Less.nil | refine Less.cons rfl ?_)) (by repeat (first | exact Pick.nil | (apply Pick.cons; focus (repeat (first | exact Del.here | apply Del.there))))) ?_
        intro s hs
        obtain ⟨j, a2, ls, oL⟩ := s
        obtain ⟨hj, hls, ha2, hlen, hoL, hL⟩ := hs
        simp only at hj hls ha2 hlen hoL hL
        refine cw_seq ?_
        refine cw_region ?_
        refine lstepB rfl rfl rfl (run_lss (.tmp rfl) (.tmp rfl) (by first | exact decide_eq_true (by omega) | exact decide_eq_false (by omega) | exact rfl)) ?_
        refine lnil ?_
        refine xw_then ?_
        refine cw_seq ?_
        refine cw_cond_p (.tmp rfl) (fun hlt => ?_) (fun hge => ?_)
        ·
          have hlt2 : j < r := Int.ofNat_lt.1 hlt
          rcases oL with _ | ⟨gL, cL, rL⟩
          ·
            have hj0 : j = 0 := hoL rfl
            refine cw_skip ?_
            refine xw_then ?_
            refine cw_seq ?_
            refine cw_block ?_
            refine cw_seq ?_
            refine cw_region ?_
            refine lstepB rfl rfl rfl (run_move (.tmp rfl)) ?_
            refine lstepB rfl rfl rfl (run_move (.tmp rfl)) ?_
            refine lstep rfl rfl rfl (LR.runs (R := [(yb, _)]) (A := [(cb, _)]) (lr_callv cb72 (.tmp rfl) (.cons (.tmp rfl) .nil) rfl (drawC (a := a2) (by omega) (by omega) (by omega) h0 hm hne hTb hT1 hT2 hby)) (by repeat (first | exact Pick.nil | (apply Pick.cons; focus (repeat (first | exact Del.here | apply Del.there))))) (by repeat (first | exact Dels.nil | (apply Dels.cons; focus (repeat (first | exact Del.here | apply Del.there)))))) ?_
            intro r112 hr112
            obtain ⟨i, rfl⟩ := Int.eq_ofNat_of_zero_le hr112.1
            have hi : i < k := by omega
            clear hr112
            refine lstepB rfl rfl rfl (run_assign (.tmp rfl)) ?_
            refine lnil ?_
            refine xw_then ?_
            refine cw_seq ?_
            refine cw_region ?_
            refine lstepB rfl rfl rfl (run_move (.tmp rfl)) ?_
            refine lstepB rfl rfl rfl (run_add (.tmp rfl) .const (by first | exact IntWalk.i64_in _ (by omega) | exact rfl)) ?_
            refine lstepB rfl rfl rfl (run_move (.tmp rfl)) ?_
            refine lstepB rfl rfl rfl (run_move (.tmp rfl)) ?_
            refine lstepB rfl rfl rfl (run_sub (.tmp rfl) .const (by first | exact IntWalk.i64_in _ (by omega) | exact rfl)) ?_
            refine lstep rfl rfl rfl (LR.runs (R := [(yb, _)]) (A := [(cb, _)]) (lr_callv cb72 (.tmp rfl) (.cons (.tmp rfl) .nil) rfl (drawC (a := a2 + 1) (by omega) (by omega) (by omega) h0 hm hne hTb hT1 hT2 hby)) (by repeat (first | exact Pick.nil | (apply Pick.cons; focus (repeat (first | exact Del.here | apply Del.there))))) (by repeat (first | exact Dels.nil | (apply Dels.cons; focus (repeat (first | exact Del.here | apply Del.there)))))) ?_
            intro r118 hr118
            refine lstepB rfl rfl rfl (run_add (.tmp rfl) (.tmp rfl) (by first | exact IntWalk.i64_in _ (by omega) | exact rfl)) ?_
            refine lstepB rfl rfl rfl (run_move (.tmp rfl)) ?_
            refine lstepB rfl rfl rfl (run_rem (.tmp rfl) (.tmp rfl) (by omega) (by omega)) ?_
            refine lstepB rfl rfl rfl (run_assign (.tmp rfl)) ?_
            refine lnil ?_
            refine xw_then ?_
            refine cw_seq ?_
            obtain ⟨d, hd, hdk, hdi⟩ := other_of hi hr118.1 hr118.2
            rw [hd]
            clear hd hr118
            have hqk : qs.length = k := by rw [← hps, hg.len]
            obtain ⟨s1, hs1⟩ : ∃ s, qs[i]? = some s := ⟨_, List.getElem?_eq_getElem (by omega)⟩
            obtain ⟨s2, hs2⟩ : ∃ s, qs[d]? = some s := ⟨_, List.getElem?_eq_getElem (by omega)⟩
            have f1 := hg.field hs1
            have f2 := hg.field hs2
            obtain ⟨N, hN, hN8⟩ := sq_of f1 f2 hs8
            refine cw_chain2 (σ := [0, 1, 2, 3, 4, 5, 6, 7, 8, 9, 10]) [⟨0, [], [], [], 0⟩, ⟨0, [], [], [], 0⟩, ⟨0, [], [], [], 3⟩, ⟨0, [4], [], [], 7⟩, ⟨0, [], [], [], 0⟩, ⟨0, [], [], [], 0⟩, ⟨0, [], [], [], 48⟩, ⟨0, [4], [], [], 112⟩, ⟨0, [], [], [], 255⟩, ⟨0, [], [], [], 511⟩, ⟨0, [], [], [], 1023⟩] [(0, _), (1, _), (2, _), (3, _), (4, _)] (by kernel_rfl) (by kernel_rfl) rfl ?_
            refine .det (B := []) rfl rfl (.inl rfl) .nil .nil rfl (RunB.lr (run_move (.tmp rfl))) ?_
            refine .det (B := []) rfl rfl (.inl rfl) .nil .nil rfl (RunB.lr (run_move (.tmp rfl))) ?_
            refine .det (B := []) rfl rfl (.inl rfl) .nil .nil rfl (RunB.lr (run_indexAddr (.tmp rfl) (.tmp rfl) el46 (by omega) rfl)) ?_
            refine .det (B := []) rfl rfl (.inl rfl) (.cons rfl .nil) .nil rfl (RunB.lr (run_loadN_own (l := [.int .i64 s1.x, .int .i64 s1.y]) (.tmp rfl) kd52 sz52 (by repeat (first | exact List.Mem.head _ | apply List.Mem.tail)) rfl (rowQ_get hQ hs1))) ?_
            refine .det (B := []) rfl rfl (.inl rfl) .nil .nil rfl (RunB.lr (run_move (.tmp rfl))) ?_
            refine .det (B := []) rfl rfl (.inl rfl) .nil .nil rfl (RunB.lr (run_move (.tmp rfl))) ?_
            refine .det (B := []) rfl rfl (.inl rfl) .nil .nil rfl (RunB.lr (run_indexAddr (.tmp rfl) (.tmp rfl) el46 (by omega) rfl)) ?_
            refine .det (B := []) rfl rfl (.inl rfl) (.cons rfl .nil) .nil rfl (RunB.lr (run_loadN_own (l := [.int .i64 s2.x, .int .i64 s2.y]) (.tmp rfl) kd52 sz52 (by repeat (first | exact List.Mem.head _ | apply List.Mem.tail)) rfl (rowQ_get hQ hs2))) ?_
            refine .det (B := []) rfl rfl (.inl rfl) .nil .nil rfl (RunB.lr (run_call1 cb33 (.cons (.tmp rfl) (.cons (.tmp rfl) .nil)) (fun w _ => (square_any _ _ _ _ (by omega) (by omega) (by omega) (by omega) w).as (congrArg (Value.int .i64) hN)))) ?_
            refine .det (B := []) rfl rfl (.inl rfl) .nil .nil rfl (RunB.lr (run_call1 cb71 (.cons (.tmp rfl) .nil) (fun w _ => root_any N (by omega) w))) ?_
            refine .det (B := []) rfl rfl (.inl rfl) .nil .nil rfl (RunB.lr (run_assign (.tmp rfl))) ?_
            refine chain_nil (ts := [0, 1, 2, 3, 4]) (.cons rfl (.cons rfl (.cons rfl (.cons rfl (.cons rfl .nil))))) (by decide) ?_
            obtain ⟨hR1, hR2⟩ := root_spec N
            generalize rootN N = R at *
            have hR3 := root_le hR1 hN8
            refine xw_then ?_
            refine cw_chain2 (σ := [0, 1, 2, 3, 4, 5, 9, 10, 11, 6, 7, 8, 12, 13, 14, 15, 16, 17, 18, 19]) [⟨0, [], [], [], 0⟩, ⟨0, [1], [], [], 1⟩, ⟨0, [], [], [], 0⟩, ⟨0, [], [], [], 0⟩, ⟨0, [], [], [], 0⟩, ⟨0, [], [], [], 0⟩, ⟨1, [2], [0], [0], 32⟩, ⟨0, [], [], [], 112⟩, ⟨0, [], [], [], 240⟩, ⟨0, [], [], [], 0⟩, ⟨0, [], [], [], 512⟩, ⟨0, [], [], [], 0⟩, ⟨1, [2], [0], [0], 2144⟩, ⟨0, [], [], [], 7776⟩, ⟨0, [], [], [], 16368⟩, ⟨0, [], [], [], 32764⟩, ⟨1, [], [], [5], 65532⟩, ⟨1, [5], [], [6], 131071⟩, ⟨0, [], [], [], 262143⟩, ⟨0, [], [1], [1], 524287⟩] [(0, _), (1, _), (2, _), (3, _), (4, _)] (by kernel_rfl) (by kernel_rfl) rfl ?_
            refine .det (B := []) rfl rfl (.inl rfl) .nil .nil rfl (RunB.lr (run_fieldAddr (.tmp rfl) fa25_2 (by first | exact Nat.zero_add _ | exact rfl))) ?_
            refine .det (B := []) rfl rfl (.inl rfl) (.cons rfl .nil) .nil rfl (RunB.lr (run_load1 (.tmp rfl) kd23 (by repeat (first | exact List.Mem.head _ | apply List.Mem.tail)) (by exact rfl))) ?_
            refine .det (B := []) rfl rfl (.inl rfl) .nil .nil rfl (RunB.lr (run_move (.tmp rfl))) ?_
            refine .det (B := []) rfl rfl (.inl rfl) .nil .nil rfl (RunB.lr (run_move (.tmp rfl))) ?_
            refine .det (B := []) rfl rfl (.inl rfl) .nil .nil rfl (RunB.lr (run_move (.tmp rfl))) ?_
            refine .det (B := []) rfl rfl (.inl rfl) .nil .nil rfl (RunB.lr (run_move (.tmp rfl))) ?_
            refine .det (B := []) rfl rfl (.inl rfl) .nil .nil rfl (RunB.lr (run_move (.tmp rfl))) ?_
            refine .det (B := []) rfl rfl (.inl rfl) .nil .nil rfl (RunB.lr (run_add (.tmp rfl) .const (by first | exact IntWalk.i64_in _ (by omega) | exact rfl))) ?_
            refine .det (B := []) rfl rfl (.inl rfl) .nil .nil rfl (RunB.lr (run_move (.tmp rfl))) ?_
            refine .ext (B := fun _ => [(0, (_, _))]) rfl rfl (.inl rfl) (.cons rfl .nil) (.cons rfl .nil) (fun _ => rfl) (by exact ⟨0, by omega, by omega⟩) (lr_callv cb72 (.tmp rfl) (.cons .const .nil) rfl (drawC (a := a2 + 1 + 1) (by omega) (by omega) (by omega) h0 hm hne hTb hT1 hT2 hby)) ?_
            intro r138 hr138
            refine .det (B := []) rfl rfl (.inl rfl) .nil .nil rfl (RunB.lr (run_sub (.tmp rfl) (.tmp rfl) (by first | exact IntWalk.i64_in _ (by omega) | exact rfl))) ?_
            refine .det (B := []) rfl rfl (.inl rfl) .nil .nil rfl (RunB.lr (run_max2 .const (.tmp rfl))) ?_
            refine .ext (B := fun _ => [(0, (_, _))]) rfl rfl (.inl rfl) (.cons rfl .nil) (.cons rfl .nil) (fun _ => rfl) (by exact ⟨0, by omega, by omega⟩) (lr_callv cb72 (.tmp rfl) (.cons .const .nil) rfl (drawC (a := a2 + 1 + 1 + 1) (by omega) (by omega) (by omega) h0 hm hne hTb hT1 hT2 hby)) ?_
            intro r144 hr144
            refine .det (B := []) rfl rfl (.inl rfl) .nil .nil rfl (RunB.lr (run_add (.tmp rfl) (.tmp rfl) (by first | exact IntWalk.i64_in _ (by omega) | exact rfl))) ?_
            refine .det (B := []) rfl rfl (.inl rfl) .nil .nil rfl (RunB.lr (run_call1 cb28 (.cons (.tmp rfl) (.cons (.tmp rfl) .nil)) (fun w _ => spanK _ _ w))) ?_
            refine .det (B := []) rfl rfl (.inl rfl) .nil .nil rfl (RunB.lr (run_build_at (.cons (.tmp rfl) (.cons (.tmp rfl) (.cons (.tmp rfl) .nil))) (fun w => bd65_0_1_2 w))) ?_
            refine .ext (B := fun b => [(5, (b, _))]) rfl rfl (.inl rfl) .nil .nil (fun _ => rfl) ⟨0, trivial⟩ (lr_buildSlice_at (.cons (.tmp rfl) .nil) (fun w => bs23_1_0 w)) ?_
            intro b148 _
            refine .ext (B := fun q => [(6, (q.1, Obj.cells q.2.2.toArray 65 (0, 0)))]) rfl rfl (.inl rfl) (.cons rfl .nil) .nil (fun _ => rfl) (inRow_ne rfl (by decide)) (lr_append_nil ap23 (.tmp rfl) (.tmp rfl) (news := [.int .i64 (i : Int), .int .i64 (d : Int), .int .i64 (max 0 ((R : Int) - r138)), .int .i64 ((R : Int) + 1 + r144)]) rfl (by omega) (by omega) (by decide) (news_own (by repeat (first | exact List.Mem.head _ | apply List.Mem.tail)))) ?_
            rintro ⟨gL2, cL2, rL2⟩ hL2
            refine .det (B := []) rfl rfl (.inl rfl) .nil .nil rfl (RunB.lr (run_fieldAddr (.tmp rfl) fa25_2 (by first | exact Nat.zero_add _ | exact rfl))) ?_
            refine .det (B := [(1, (_, _))]) rfl rfl (.inl rfl) .nil (.cons rfl .nil) rfl (lr_store1 (.tmp rfl) (.tmp rfl) rfl sz23 (by repeat (first | exact Put.done | apply Put.put | apply Put.skip))) ?_
            refine chain_nil (ts := [6, 0, 1, 2, 3, 4]) (.cons rfl (.cons rfl (.cons rfl (.cons rfl (.cons rfl (.cons rfl .nil)))))) (by decide) ?_
            replace hL2 : InRow 4 (j + 1) cL2 rL2 (lenCells (ls ++ [⟨i, d, max 0 ((R : Int) - r138), (R : Int) + 1 + r144⟩])) := by
              rw [lenCells_snoc]
              have e : ls = [] := List.eq_nil_of_length_eq_zero (by omega)
              subst e; rw [hj0]; exact hL2
            have hgood := lenGood_of hs1 hs2 hdi hN hR1 hR2 hR3 hr138 hr144
            refine xw_in ?_
            refine xw_then ?_
            refine cw_region ?_
            refine lstepB rfl rfl rfl (run_add (.tmp rfl) .const (by first | exact IntWalk.i64_in _ (by omega) | exact rfl)) ?_
            refine lstepB rfl rfl rfl (run_move (.tmp rfl)) ?_
            refine lnil ?_
            subst hj0
            exact xw_round ⟨0 + 1, a2 + 1 + 1 + 1 + 1, ls ++ [Len.mk i d (max 0 ((R : Int) - r138)) ((R : Int) + 1 + r144)], some ⟨gL2, cL2, rL2⟩⟩ ⟨by simp only; omega, by simp only [List.length_append, List.length_singleton]; omega, by simp only; omega, (fun l hl => by
              rcases List.mem_append.1 hl with h | h
              · exact hlen l h
              · rw [List.mem_singleton] at h; subst h; exact hgood), (fun h => by cases h), hL2⟩ (by simp only; omega) (by repeat (first | exact Less.nil | refine Less.cons rfl ?_)) (by repeat (first | exact Pick.nil | (apply Pick.cons; focus (repeat (first | exact Del.here | apply Del.there)))))
          ·
            have hL : InRow 4 j cL rL (lenCells ls) := hL
            refine cw_skip ?_
            refine xw_then ?_
            refine cw_seq ?_
            refine cw_block ?_
            refine cw_seq ?_
            refine cw_region ?_
            refine lstepB rfl rfl rfl (run_move (.tmp rfl)) ?_
            refine lstepB rfl rfl rfl (run_move (.tmp rfl)) ?_
            refine lstep rfl rfl rfl (LR.runs (R := [(yb, _)]) (A := [(cb, _)]) (lr_callv cb72 (.tmp rfl) (.cons (.tmp rfl) .nil) rfl (drawC (a := a2) (by omega) (by omega) (by omega) h0 hm hne hTb hT1 hT2 hby)) (by repeat (first | exact Pick.nil | (apply Pick.cons; focus (repeat (first | exact Del.here | apply Del.there))))) (by repeat (first | exact Dels.nil | (apply Dels.cons; focus (repeat (first | exact Del.here | apply Del.there)))))) ?_
            intro r112 hr112
            obtain ⟨i, rfl⟩ := Int.eq_ofNat_of_zero_le hr112.1
            have hi : i < k := by omega
            clear hr112
            refine lstepB rfl rfl rfl (run_assign (.tmp rfl)) ?_
            refine lnil ?_
            refine xw_then ?_
            refine cw_seq ?_
            refine cw_region ?_
            refine lstepB rfl rfl rfl (run_move (.tmp rfl)) ?_
            refine lstepB rfl rfl rfl (run_add (.tmp rfl) .const (by first | exact IntWalk.i64_in _ (by omega) | exact rfl)) ?_
            refine lstepB rfl rfl rfl (run_move (.tmp rfl)) ?_
            refine lstepB rfl rfl rfl (run_move (.tmp rfl)) ?_
            refine lstepB rfl rfl rfl (run_sub (.tmp rfl) .const (by first | exact IntWalk.i64_in _ (by omega) | exact rfl)) ?_
            refine lstep rfl rfl rfl (LR.runs (R := [(yb, _)]) (A := [(cb, _)]) (lr_callv cb72 (.tmp rfl) (.cons (.tmp rfl) .nil) rfl (drawC (a := a2 + 1) (by omega) (by omega) (by omega) h0 hm hne hTb hT1 hT2 hby)) (by repeat (first | exact Pick.nil | (apply Pick.cons; focus (repeat (first | exact Del.here | apply Del.there))))) (by repeat (first | exact Dels.nil | (apply Dels.cons; focus (repeat (first | exact Del.here | apply Del.there)))))) ?_
            intro r118 hr118
            refine lstepB rfl rfl rfl (run_add (.tmp rfl) (.tmp rfl) (by first | exact IntWalk.i64_in _ (by omega) | exact rfl)) ?_
            refine lstepB rfl rfl rfl (run_move (.tmp rfl)) ?_
            refine lstepB rfl rfl rfl (run_rem (.tmp rfl) (.tmp rfl) (by omega) (by omega)) ?_
            refine lstepB rfl rfl rfl (run_assign (.tmp rfl)) ?_
            refine lnil ?_
            refine xw_then ?_
            refine cw_seq ?_
            obtain ⟨d, hd, hdk, hdi⟩ := other_of hi hr118.1 hr118.2
            rw [hd]
            clear hd hr118
            have hqk : qs.length = k := by rw [← hps, hg.len]
            obtain ⟨s1, hs1⟩ : ∃ s, qs[i]? = some s := ⟨_, List.getElem?_eq_getElem (by omega)⟩
            obtain ⟨s2, hs2⟩ : ∃ s, qs[d]? = some s := ⟨_, List.getElem?_eq_getElem (by omega)⟩
            have f1 := hg.field hs1
            have f2 := hg.field hs2
            obtain ⟨N, hN, hN8⟩ := sq_of f1 f2 hs8
            refine cw_chain2 (σ := [0, 1, 2, 3, 4, 5, 6, 7, 8, 9, 10]) [⟨0, [], [], [], 0⟩, ⟨0, [], [], [], 0⟩, ⟨0, [], [], [], 3⟩, ⟨0, [4], [], [], 7⟩, ⟨0, [], [], [], 0⟩, ⟨0, [], [], [], 0⟩, ⟨0, [], [], [], 48⟩, ⟨0, [4], [], [], 112⟩, ⟨0, [], [], [], 255⟩, ⟨0, [], [], [], 511⟩, ⟨0, [], [], [], 1023⟩] [(0, _), (1, _), (2, _), (3, _), (4, _), (5, _)] (by kernel_rfl) (by kernel_rfl) rfl ?_
            refine .det (B := []) rfl rfl (.inl rfl) .nil .nil rfl (RunB.lr (run_move (.tmp rfl))) ?_
            refine .det (B := []) rfl rfl (.inl rfl) .nil .nil rfl (RunB.lr (run_move (.tmp rfl))) ?_
            refine .det (B := []) rfl rfl (.inl rfl) .nil .nil rfl (RunB.lr (run_indexAddr (.tmp rfl) (.tmp rfl) el46 (by omega) rfl)) ?_
            refine .det (B := []) rfl rfl (.inl rfl) (.cons rfl .nil) .nil rfl (RunB.lr (run_loadN_own (l := [.int .i64 s1.x, .int .i64 s1.y]) (.tmp rfl) kd52 sz52 (by repeat (first | exact List.Mem.head _ | apply List.Mem.tail)) rfl (rowQ_get hQ hs1))) ?_
            refine .det (B := []) rfl rfl (.inl rfl) .nil .nil rfl (RunB.lr (run_move (.tmp rfl))) ?_
            refine .det (B := []) rfl rfl (.inl rfl) .nil .nil rfl (RunB.lr (run_move (.tmp rfl))) ?_
            refine .det (B := []) rfl rfl (.inl rfl) .nil .nil rfl (RunB.lr (run_indexAddr (.tmp rfl) (.tmp rfl) el46 (by omega) rfl)) ?_
            refine .det (B := []) rfl rfl (.inl rfl) (.cons rfl .nil) .nil rfl (RunB.lr (run_loadN_own (l := [.int .i64 s2.x, .int .i64 s2.y]) (.tmp rfl) kd52 sz52 (by repeat (first | exact List.Mem.head _ | apply List.Mem.tail)) rfl (rowQ_get hQ hs2))) ?_
            refine .det (B := []) rfl rfl (.inl rfl) .nil .nil rfl (RunB.lr (run_call1 cb33 (.cons (.tmp rfl) (.cons (.tmp rfl) .nil)) (fun w _ => (square_any _ _ _ _ (by omega) (by omega) (by omega) (by omega) w).as (congrArg (Value.int .i64) hN)))) ?_
            refine .det (B := []) rfl rfl (.inl rfl) .nil .nil rfl (RunB.lr (run_call1 cb71 (.cons (.tmp rfl) .nil) (fun w _ => root_any N (by omega) w))) ?_
            refine .det (B := []) rfl rfl (.inl rfl) .nil .nil rfl (RunB.lr (run_assign (.tmp rfl))) ?_
            refine chain_nil (ts := [0, 1, 2, 3, 4, 5]) (.cons rfl (.cons rfl (.cons rfl (.cons rfl (.cons rfl (.cons rfl .nil)))))) (by decide) ?_
            obtain ⟨hR1, hR2⟩ := root_spec N
            generalize rootN N = R at *
            have hR3 := root_le hR1 hN8
            refine xw_then ?_
            refine cw_chain2 (σ := [0, 1, 2, 3, 4, 5, 9, 10, 11, 6, 7, 8, 12, 13, 14, 15, 16, 17, 18, 19]) [⟨0, [], [], [], 0⟩, ⟨0, [1], [], [], 1⟩, ⟨0, [], [], [], 0⟩, ⟨0, [], [], [], 0⟩, ⟨0, [], [], [], 0⟩, ⟨0, [], [], [], 0⟩, ⟨1, [2], [0], [0], 32⟩, ⟨0, [], [], [], 112⟩, ⟨0, [], [], [], 240⟩, ⟨0, [], [], [], 0⟩, ⟨0, [], [], [], 512⟩, ⟨0, [], [], [], 0⟩, ⟨1, [2], [0], [0], 2144⟩, ⟨0, [], [], [], 7776⟩, ⟨0, [], [], [], 16368⟩, ⟨0, [], [], [], 32764⟩, ⟨1, [], [], [6], 65532⟩, ⟨1, [6], [5], [5], 131071⟩, ⟨0, [], [], [], 262143⟩, ⟨0, [], [1], [1], 524287⟩] [(0, _), (1, _), (2, _), (3, _), (4, _), (5, _)] (by kernel_rfl) (by kernel_rfl) rfl ?_
            refine .det (B := []) rfl rfl (.inl rfl) .nil .nil rfl (RunB.lr (run_fieldAddr (.tmp rfl) fa25_2 (by first | exact Nat.zero_add _ | exact rfl))) ?_
            refine .det (B := []) rfl rfl (.inl rfl) (.cons rfl .nil) .nil rfl (RunB.lr (run_load1 (.tmp rfl) kd23 (by repeat (first | exact List.Mem.head _ | apply List.Mem.tail)) (by exact rfl))) ?_
            refine .det (B := []) rfl rfl (.inl rfl) .nil .nil rfl (RunB.lr (run_move (.tmp rfl))) ?_
            refine .det (B := []) rfl rfl (.inl rfl) .nil .nil rfl (RunB.lr (run_move (.tmp rfl))) ?_
            refine .det (B := []) rfl rfl (.inl rfl) .nil .nil rfl (RunB.lr (run_move (.tmp rfl))) ?_
            refine .det (B := []) rfl rfl (.inl rfl) .nil .nil rfl (RunB.lr (run_move (.tmp rfl))) ?_
            refine .det (B := []) rfl rfl (.inl rfl) .nil .nil rfl (RunB.lr (run_move (.tmp rfl))) ?_
            refine .det (B := []) rfl rfl (.inl rfl) .nil .nil rfl (RunB.lr (run_add (.tmp rfl) .const (by first | exact IntWalk.i64_in _ (by omega) | exact rfl))) ?_
            refine .det (B := []) rfl rfl (.inl rfl) .nil .nil rfl (RunB.lr (run_move (.tmp rfl))) ?_
            refine .ext (B := fun _ => [(0, (_, _))]) rfl rfl (.inl rfl) (.cons rfl .nil) (.cons rfl .nil) (fun _ => rfl) (by exact ⟨0, by omega, by omega⟩) (lr_callv cb72 (.tmp rfl) (.cons .const .nil) rfl (drawC (a := a2 + 1 + 1) (by omega) (by omega) (by omega) h0 hm hne hTb hT1 hT2 hby)) ?_
            intro r138 hr138
            refine .det (B := []) rfl rfl (.inl rfl) .nil .nil rfl (RunB.lr (run_sub (.tmp rfl) (.tmp rfl) (by first | exact IntWalk.i64_in _ (by omega) | exact rfl))) ?_
            refine .det (B := []) rfl rfl (.inl rfl) .nil .nil rfl (RunB.lr (run_max2 .const (.tmp rfl))) ?_
            refine .ext (B := fun _ => [(0, (_, _))]) rfl rfl (.inl rfl) (.cons rfl .nil) (.cons rfl .nil) (fun _ => rfl) (by exact ⟨0, by omega, by omega⟩) (lr_callv cb72 (.tmp rfl) (.cons .const .nil) rfl (drawC (a := a2 + 1 + 1 + 1) (by omega) (by omega) (by omega) h0 hm hne hTb hT1 hT2 hby)) ?_
            intro r144 hr144
            refine .det (B := []) rfl rfl (.inl rfl) .nil .nil rfl (RunB.lr (run_add (.tmp rfl) (.tmp rfl) (by first | exact IntWalk.i64_in _ (by omega) | exact rfl))) ?_
            refine .det (B := []) rfl rfl (.inl rfl) .nil .nil rfl (RunB.lr (run_call1 cb28 (.cons (.tmp rfl) (.cons (.tmp rfl) .nil)) (fun w _ => spanK _ _ w))) ?_
            refine .det (B := []) rfl rfl (.inl rfl) .nil .nil rfl (RunB.lr (run_build_at (.cons (.tmp rfl) (.cons (.tmp rfl) (.cons (.tmp rfl) .nil))) (fun w => bd65_0_1_2 w))) ?_
            refine .ext (B := fun b => [(6, (b, _))]) rfl rfl (.inl rfl) .nil .nil (fun _ => rfl) ⟨0, trivial⟩ (lr_buildSlice_at (.cons (.tmp rfl) .nil) (fun w => bs23_1_0 w)) ?_
            intro b148 _
            refine .ext (B := fun q => [(5, (q.1, Obj.cells q.2.2.toArray 65 (0, 0)))]) rfl rfl (.inl rfl) (.cons rfl .nil) (.cons rfl .nil) (fun _ => rfl) (inRow_ne (m := j + 1) (by simp only [List.length_append, lenCells_length, List.length_cons, List.length_nil]; omega) (by unfold maxLen; omega)) (lr_append_row ap23 (.tmp rfl) hL (.tmp rfl) (news := [.int .i64 (i : Int), .int .i64 (d : Int), .int .i64 (max 0 ((R : Int) - r138)), .int .i64 ((R : Int) + 1 + r144)]) rfl rfl (by omega) (by unfold maxLen; omega) (news_own (by repeat (first | exact List.Mem.head _ | apply List.Mem.tail)))) ?_
            rintro ⟨gL2, cL2, rL2⟩ hL2
            refine .det (B := []) rfl rfl (.inl rfl) .nil .nil rfl (RunB.lr (run_fieldAddr (.tmp rfl) fa25_2 (by first | exact Nat.zero_add _ | exact rfl))) ?_
            refine .det (B := [(1, (_, _))]) rfl rfl (.inl rfl) .nil (.cons rfl .nil) rfl (lr_store1 (.tmp rfl) (.tmp rfl) rfl sz23 (by repeat (first | exact Put.done | apply Put.put | apply Put.skip))) ?_
            refine chain_nil (ts := [0, 1, 2, 3, 4, 5]) (.cons rfl (.cons rfl (.cons rfl (.cons rfl (.cons rfl (.cons rfl .nil)))))) (by decide) ?_
            replace hL2 : InRow 4 (j + 1) cL2 rL2 (lenCells (ls ++ [⟨i, d, max 0 ((R : Int) - r138), (R : Int) + 1 + r144⟩])) := by
              rw [lenCells_snoc]
              exact hL2
            have hgood := lenGood_of hs1 hs2 hdi hN hR1 hR2 hR3 hr138 hr144
            refine xw_in ?_
            refine xw_then ?_
            refine cw_region ?_
            refine lstepB rfl rfl rfl (run_add (.tmp rfl) .const (by first | exact IntWalk.i64_in _ (by omega) | exact rfl)) ?_
            refine lstepB rfl rfl rfl (run_move (.tmp rfl)) ?_
            refine lnil ?_
            exact xw_round ⟨j + 1, a2 + 1 + 1 + 1 + 1, ls ++ [Len.mk i d (max 0 ((R : Int) - r138)) ((R : Int) + 1 + r144)], some ⟨gL2, cL2, rL2⟩⟩ ⟨by simp only; omega, by simp only [List.length_append, List.length_singleton]; omega, by simp only; omega, (fun l hl => by
              rcases List.mem_append.1 hl with h | h
              · exact hlen l h
              · rw [List.mem_singleton] at h; subst h; exact hgood), (fun h => by cases h), hL2⟩ (by simp only; omega) (by repeat (first | exact Less.nil | refine Less.cons rfl ?_)) (by repeat (first | exact Pick.nil | (apply Pick.cons; focus (repeat (first | exact Del.here | apply Del.there)))))
        ·
          rcases oL with _ | ⟨gL, cL, rL⟩
          ·
            have hj0 : j = 0 := hoL rfl
            refine cw_exit ?_
            refine xw_then_exit ?_
            refine xw_then_exit ?_
            refine xw_in_exit ?_
            refine xw_then ?_
            refine cw_seq ?_
            refine cw_region ?_
            refine lstepB rfl rfl rfl (run_loadN (.tmp rfl) kd25 sz25 (by repeat (first | exact List.Mem.head _ | apply List.Mem.tail)) (by repeat (first | exact Sub.done | apply Sub.take | apply Sub.skip))) ?_
            refine lstepB rfl rfl rfl (run_move (.tmp rfl)) ?_
            refine lstepB rfl rfl rfl (run_move (.tmp rfl)) ?_
            refine lstep0 rfl rfl (run_storeN (.tmp rfl) (.tmp rfl) rfl sz25 rfl (by repeat (first | exact Upd.here | apply Upd.there)) (by repeat (first | exact Put.done | apply Put.put | apply Put.skip))) ?_
            refine lstepB rfl rfl rfl (run_assign (.tmp rfl)) ?_
            refine lstepB rfl rfl rfl (run_assign (.tmp rfl)) ?_
            refine lnil ?_
            refine xw_then ?_
            refine cw_ret ?_
            exact xw_retC Try.results29 rfl rfl rfl kd25 sz25 (by repeat (first | exact List.Mem.head _ | apply List.Mem.tail)) (by repeat (first | exact Sub.done | apply Sub.take | apply Sub.skip)) (fun w2 hS => made_end (k := k) (ls := ls) (j := j) (some ⟨gP, cP, rP⟩) (some ⟨gQ, cQ, rQ⟩) none hS (by repeat (first | exact List.Mem.head _ | apply List.Mem.tail)) (by repeat (first | exact List.Mem.head _ | apply List.Mem.tail)) hy (fun z hz => by
              have e := List.mem_singleton.1 hz
              subst e
              repeat (first | exact List.Mem.head _ | apply List.Mem.tail)) (fun z hz => by
              have e := List.mem_singleton.1 hz
              subst e
              repeat (first | exact List.Mem.head _ | apply List.Mem.tail)) (fun z hz => by cases hz) hP hQ hL hps hls hg hlen hs4 hs8 (by omega) (by omega))
          ·
            refine cw_exit ?_
            refine xw_then_exit ?_
            refine xw_then_exit ?_
            refine xw_in_exit ?_
            refine xw_then ?_
            refine cw_seq ?_
            refine cw_region ?_
            refine lstepB rfl rfl rfl (run_loadN (.tmp rfl) kd25 sz25 (by repeat (first | exact List.Mem.head _ | apply List.Mem.tail)) (by repeat (first | exact Sub.done | apply Sub.take | apply Sub.skip))) ?_
            refine lstepB rfl rfl rfl (run_move (.tmp rfl)) ?_
            refine lstepB rfl rfl rfl (run_move (.tmp rfl)) ?_
            refine lstep0 rfl rfl (run_storeN (.tmp rfl) (.tmp rfl) rfl sz25 rfl (by repeat (first | exact Upd.here | apply Upd.there)) (by repeat (first | exact Put.done | apply Put.put | apply Put.skip))) ?_
            refine lstepB rfl rfl rfl (run_assign (.tmp rfl)) ?_
            refine lstepB rfl rfl rfl (run_assign (.tmp rfl)) ?_
            refine lnil ?_
            refine xw_then ?_
            refine cw_ret ?_
            exact xw_retC Try.results29 rfl rfl rfl kd25 sz25 (by repeat (first | exact List.Mem.head _ | apply List.Mem.tail)) (by repeat (first | exact Sub.done | apply Sub.take | apply Sub.skip)) (fun w2 hS => made_end (k := k) (ls := ls) (j := j) (some ⟨gP, cP, rP⟩) (some ⟨gQ, cQ, rQ⟩) (some ⟨gL, cL, rL⟩) hS (by repeat (first | exact List.Mem.head _ | apply List.Mem.tail)) (by repeat (first | exact List.Mem.head _ | apply List.Mem.tail)) hy (fun z hz => by
              have e := List.mem_singleton.1 hz
              subst e
              repeat (first | exact List.Mem.head _ | apply List.Mem.tail)) (fun z hz => by
              have e := List.mem_singleton.1 hz
              subst e
              repeat (first | exact List.Mem.head _ | apply List.Mem.tail)) (fun z hz => by
              have e := List.mem_singleton.1 hz
              subst e
              repeat (first | exact List.Mem.head _ | apply List.Mem.tail)) hP hQ hL hps hls hg hlen hs4 hs8 (by omega) (by omega))
end Go.Proofs.Ytkjciobphbcknaa
