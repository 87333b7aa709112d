/- Furrow: FurrowMore's walk. -/
import Derived.Test.YtjdeplehhmhpcaaGL
namespace Go.Proofs.Ytjdeplehhmhpcaa
open Go.RowKit En

set_option maxRecDepth 100000 in
set_option maxHeartbeats 4000000 in
theorem furrowMore_any (f : FurrowD) (oa wa da : Option Addr) (oc wc dc : Nat) (most least : Int) (bits : Nat) (w : World) (hbnd : f.offs.length ≤ 9223372036854775807 ∧ f.wids.length ≤ 9223372036854775807 ∧ f.deps.length ≤ 9223372036854775807) (hf : FurrowAt w f oa wa da) (hbits : bits < 256) : Gives Try.prog 10 [furrowV f oa wa da oc wc dc, .int .i64 most, .int .i64 least, .int .u8 (bits : Int)] w (.bool true) := by
  cases hh : heavyB f 6 6
  ·
    have h40 : ¬ 40 < lenM f := fun h => by unfold heavyB at hh; rw [if_pos h] at hh; cases hh
    have hm := lenM_lens h40
    cases hv : validB f
    ·
      refine .mk <| enter (n := 268) Try.func10 rfl rfl rfl (by repeat (first | exact Fill.nil | apply Fill.cons)) ?_
      refine cw_seq ?_
      refine cw_region ?_
      refine lstep rfl rfl rfl (run_boxN (.tmp rfl)) ?_
      intro b4 _
      refine lstepB rfl rfl rfl (run_assign .const) ?_
      refine lnil ?_
      refine xw_then ?_
      refine cw_seq ?_
      refine cw_seq ?_
      refine cw_region ?_
      refine lstepB rfl rfl rfl (run_loadN (.tmp rfl) kd24 sz24 (by repeat (first | exact List.Mem.head _ | apply List.Mem.tail)) (by repeat (first | exact Sub.done | apply Sub.take | apply Sub.skip))) ?_
      refine lstepB rfl rfl rfl (run_call1 cb12 (.cons (.tmp rfl) (.cons .const (.cons .const .nil))) (fun w2 hS => (heavyK f _ _ _ oc wc dc 6 6 w2 hbnd (hf.kept hS.kept)).as (congrArg Value.bool hh))) ?_
      refine lstepB rfl rfl rfl (run_move (.tmp rfl)) ?_
      refine lyes rfl rfl rfl rfl ?_
      refine gstepB rfl rfl (run_loadN (.tmp rfl) kd24 sz24 (by repeat (first | exact List.Mem.head _ | apply List.Mem.tail)) (by repeat (first | exact Sub.done | apply Sub.take | apply Sub.skip))) ?_
      refine lyes rfl rfl rfl rfl ?_
      refine gstepB rfl rfl (run_call1 cb35 (.cons (.tmp rfl) .nil) (fun w2 hS => (rFurrowK f _ _ _ oc wc dc w2 hm (hf.kept hS.kept)).as (congrArg Value.bool hv))) ?_
      refine lyes rfl rfl rfl rfl ?_
      refine gstepB rfl rfl (run_not (.tmp rfl) (by first | exact Bool.not_true | exact Bool.not_false | exact rfl)) ?_
      refine lstepB rfl rfl rfl (by first | exact run_pick_true (.tmp rfl) .const | exact run_pick_false (.tmp rfl) (.tmp rfl)) ?_
      refine lstepB rfl rfl rfl (run_move (.tmp rfl)) ?_
      refine lskip rfl rfl rfl rfl rfl rfl rfl ?_
      refine lskip rfl rfl rfl rfl rfl rfl rfl ?_
      refine lskip rfl rfl rfl rfl rfl rfl rfl ?_
      refine lskip rfl rfl rfl rfl rfl rfl rfl ?_
      refine lstepB rfl rfl rfl (by first | exact run_pick_true (.tmp rfl) .const | exact run_pick_false (.tmp rfl) (.tmp rfl)) ?_
      refine lnil ?_
      refine xw_then ?_
      refine cw_cond_true (.tmp rfl) ?_
      refine cw_seq ?_
      refine cw_region ?_
      refine lstepB rfl rfl rfl (run_call1 cb13 .nil (fun w _ => aliveK w)) ?_
      refine lstepB rfl rfl rfl (run_assign (.tmp rfl)) ?_
      refine lnil ?_
      refine xw_then ?_
      refine cw_ret ?_
      refine xw_then_ret ?_
      refine xw_ret1 Try.results10 rfl (fun w hS => ⟨rfl, hS.kept⟩)
    ·
      have hvf := validF hv
      have hn8 := hvf.len
      have hwl := hvf.wids
      have hdl := hvf.deps
      by_cases hn0 : f.offs.length = 0
      ·
        refine .mk <| enter (n := 268) Try.func10 rfl rfl rfl (by repeat (first | exact Fill.nil | apply Fill.cons)) ?_
        refine cw_seq ?_
        refine cw_region ?_
        refine lstep rfl rfl rfl (run_boxN (.tmp rfl)) ?_
        intro b4 _
        refine lstepB rfl rfl rfl (run_assign .const) ?_
        refine lnil ?_
        refine xw_then ?_
        refine cw_seq ?_
        refine cw_seq ?_
        refine cw_region ?_
        refine lstepB rfl rfl rfl (run_loadN (.tmp rfl) kd24 sz24 (by repeat (first | exact List.Mem.head _ | apply List.Mem.tail)) (by repeat (first | exact Sub.done | apply Sub.take | apply Sub.skip))) ?_
        refine lstepB rfl rfl rfl (run_call1 cb12 (.cons (.tmp rfl) (.cons .const (.cons .const .nil))) (fun w2 hS => (heavyK f _ _ _ oc wc dc 6 6 w2 hbnd (hf.kept hS.kept)).as (congrArg Value.bool hh))) ?_
        refine lstepB rfl rfl rfl (run_move (.tmp rfl)) ?_
        refine lyes rfl rfl rfl rfl ?_
        refine gstepB rfl rfl (run_loadN (.tmp rfl) kd24 sz24 (by repeat (first | exact List.Mem.head _ | apply List.Mem.tail)) (by repeat (first | exact Sub.done | apply Sub.take | apply Sub.skip))) ?_
        refine lyes rfl rfl rfl rfl ?_
        refine gstepB rfl rfl (run_call1 cb35 (.cons (.tmp rfl) .nil) (fun w2 hS => (rFurrowK f _ _ _ oc wc dc w2 hm (hf.kept hS.kept)).as (congrArg Value.bool hv))) ?_
        refine lyes rfl rfl rfl rfl ?_
        refine gstepB rfl rfl (run_not (.tmp rfl) (by first | exact Bool.not_true | exact Bool.not_false | exact rfl)) ?_
        refine lstepB rfl rfl rfl (by first | exact run_pick_true (.tmp rfl) .const | exact run_pick_false (.tmp rfl) (.tmp rfl)) ?_
        refine lstepB rfl rfl rfl (run_move (.tmp rfl)) ?_
        refine lyes rfl rfl rfl rfl ?_
        refine gstepB rfl rfl (run_fieldAddr (.tmp rfl) fa24_0 (by first | exact Nat.zero_add _ | exact rfl)) ?_
        refine lyes rfl rfl rfl rfl ?_
        refine gstepB rfl rfl (run_load1 (.tmp rfl) kd22 (by repeat (first | exact List.Mem.head _ | apply List.Mem.tail)) (by exact rfl)) ?_
        refine lyes rfl rfl rfl rfl ?_
        refine gstepB rfl rfl (run_len (.tmp rfl) sl22) ?_
        refine lyes rfl rfl rfl rfl ?_
        refine gstepB rfl rfl (run_eql (.tmp rfl) .const (decide_eq_true (by omega))) ?_
        refine lstepB rfl rfl rfl (by first | exact run_pick_true (.tmp rfl) .const | exact run_pick_false (.tmp rfl) (.tmp rfl)) ?_
        refine lnil ?_
        refine xw_then ?_
        refine cw_cond_true (.tmp rfl) ?_
        refine cw_seq ?_
        refine cw_region ?_
        refine lstepB rfl rfl rfl (run_call1 cb13 .nil (fun w _ => aliveK w)) ?_
        refine lstepB rfl rfl rfl (run_assign (.tmp rfl)) ?_
        refine lnil ?_
        refine xw_then ?_
        refine cw_ret ?_
        refine xw_then_ret ?_
        refine xw_ret1 Try.results10 rfl (fun w hS => ⟨rfl, hS.kept⟩)
      ·
        obtain ⟨k, hk⟩ : ∃ k, k = bits % f.offs.length := ⟨_, rfl⟩
        have hkn : k < f.offs.length := by rw [hk]; exact Nat.mod_lt _ (by omega)
        have hN := narF_narrow hvf hkn (bits.testBit 0) (bits.testBit 1) (bits.testBit 2)
        have hvx := narrow_valid hvf hN
        have hxf := validF hvx
        obtain ⟨x, hx⟩ : ∃ x, x = narF f k (bits.testBit 0) (bits.testBit 1) (bits.testBit 2) := ⟨_, rfl⟩
        rw [← hx] at hN hvx hxf
        have l1 : x.offs.length = f.offs.length := hN.len
        have l2 : x.wids.length = f.wids.length := hN.wids
        have l3 : x.deps.length = f.deps.length := hN.deps
        have hmx : Lens x := ⟨by have := hm.all; omega⟩
        have hbe := narrow_bend hvf hN
        have hso := narrow_soil hvf hN
        obtain ⟨ws, wz, we, hws, hwz, ws256, wz256, hwsz⟩ := narrow_wrong hvf hN most
        obtain ⟨sa, sb, sc, sd, se, hsf, hsx, ⟨sa32, sb32, sc32, sd32⟩, hss, hsp⟩ := narrow_shallowR hvf hN least
        have wf32 := worstN_small f.offs (k := f.offs.length - 2) (by omega)
        have wx32 := worstN_small x.offs (k := x.offs.length - 2) (by omega)
        have hsu := narrow_sure hvf hN
        have hca := narrow_can hvf hN
        have hin1 : inSpB (bendT x.offs) (bendT f.offs) = true := by unfold inSpB; rw [decide_eq_true hbe.1, decide_eq_true hbe.2]; rfl
        have hin2 : inSpB (soilS x) (soilS f) = true := by unfold inSpB; rw [decide_eq_true hso.1, decide_eq_true hso.2]; rfl
        obtain ⟨bo, oo, hoa, hbo, hco⟩ := hf.offs.span (by omega)
        subst hoa
        obtain ⟨bw, ow, hwa, hbw, hcw⟩ := hf.wids.span (by omega)
        subst hwa
        obtain ⟨bd, od, hda, hbd, hcd⟩ := hf.deps.span (by omega)
        subst hda
        refine .mk <| enter (n := 268) Try.func10 rfl rfl rfl (by repeat (first | exact Fill.nil | apply Fill.cons)) ?_
        refine cw_seq ?_
        refine cw_region ?_
        refine lstep rfl rfl rfl (run_boxN (.tmp rfl)) ?_
        intro b4 _
        refine lstepB rfl rfl rfl (run_assign .const) ?_
        refine lnil ?_
        refine xw_then ?_
        refine cw_seq ?_
        refine cw_seq ?_
        refine cw_region ?_
        refine lstepB rfl rfl rfl (run_loadN (.tmp rfl) kd24 sz24 (by repeat (first | exact List.Mem.head _ | apply List.Mem.tail)) (by repeat (first | exact Sub.done | apply Sub.take | apply Sub.skip))) ?_
        refine lstepB rfl rfl rfl (run_call1 cb12 (.cons (.tmp rfl) (.cons .const (.cons .const .nil))) (fun w2 hS => (heavyK f _ _ _ oc wc dc 6 6 w2 hbnd (hf.kept hS.kept)).as (congrArg Value.bool hh))) ?_
        refine lstepB rfl rfl rfl (run_move (.tmp rfl)) ?_
        refine lyes rfl rfl rfl rfl ?_
        refine gstepB rfl rfl (run_loadN (.tmp rfl) kd24 sz24 (by repeat (first | exact List.Mem.head _ | apply List.Mem.tail)) (by repeat (first | exact Sub.done | apply Sub.take | apply Sub.skip))) ?_
        refine lyes rfl rfl rfl rfl ?_
        refine gstepB rfl rfl (run_call1 cb35 (.cons (.tmp rfl) .nil) (fun w2 hS => (rFurrowK f _ _ _ oc wc dc w2 hm (hf.kept hS.kept)).as (congrArg Value.bool hv))) ?_
        refine lyes rfl rfl rfl rfl ?_
        refine gstepB rfl rfl (run_not (.tmp rfl) (by first | exact Bool.not_true | exact Bool.not_false | exact rfl)) ?_
        refine lstepB rfl rfl rfl (by first | exact run_pick_true (.tmp rfl) .const | exact run_pick_false (.tmp rfl) (.tmp rfl)) ?_
        refine lstepB rfl rfl rfl (run_move (.tmp rfl)) ?_
        refine lyes rfl rfl rfl rfl ?_
        refine gstepB rfl rfl (run_fieldAddr (.tmp rfl) fa24_0 (by first | exact Nat.zero_add _ | exact rfl)) ?_
        refine lyes rfl rfl rfl rfl ?_
        refine gstepB rfl rfl (run_load1 (.tmp rfl) kd22 (by repeat (first | exact List.Mem.head _ | apply List.Mem.tail)) (by exact rfl)) ?_
        refine lyes rfl rfl rfl rfl ?_
        refine gstepB rfl rfl (run_len (.tmp rfl) sl22) ?_
        refine lyes rfl rfl rfl rfl ?_
        refine gstepB rfl rfl (run_eql (.tmp rfl) .const (decide_eq_false (by omega))) ?_
        refine lstepB rfl rfl rfl (by first | exact run_pick_true (.tmp rfl) .const | exact run_pick_false (.tmp rfl) (.tmp rfl)) ?_
        refine lnil ?_
        refine xw_then ?_
        refine cw_cond_false (.tmp rfl) ?_
        refine cw_skip ?_
        refine xw_then ?_
        refine cw_seq ?_
        refine cw_region ?_
        refine lstepB rfl rfl rfl (run_loadN (.tmp rfl) kd24 sz24 (by repeat (first | exact List.Mem.head _ | apply List.Mem.tail)) (by repeat (first | exact Sub.done | apply Sub.take | apply Sub.skip))) ?_
        refine lstep rfl rfl rfl (run_alloc zr24) ?_
        intro b9 _
        refine lstep0 rfl rfl (run_storeN (.tmp rfl) (.tmp rfl) rfl sz24 rfl (by repeat (first | exact Upd.here | apply Upd.there)) (by repeat (first | exact Put.done | apply Put.put | apply Put.skip))) ?_
        refine lnil ?_
        refine xw_then ?_
        refine cw_seq ?_
        refine cw_chain2 (σ := [1, 2, 5, 6, 9, 10, 0, 3, 12, 4, 7, 8, 11, 13, 14, 15, 16, 17]) [⟨2, [], [], [2], 0⟩, ⟨0, [], [], [], 0⟩, ⟨0, [1], [], [], 2⟩, ⟨1, [], [2], [2], 7⟩, ⟨2, [], [], [3], 0⟩, ⟨0, [], [], [], 0⟩, ⟨0, [1], [], [], 32⟩, ⟨1, [], [3], [3], 127⟩, ⟨2, [], [], [4], 0⟩, ⟨0, [], [], [], 0⟩, ⟨0, [1], [], [], 512⟩, ⟨1, [], [4], [4], 2047⟩, ⟨0, [], [], [], 15⟩, ⟨0, [], [0], [0], 8191⟩, ⟨0, [], [], [], 16383⟩, ⟨0, [], [0], [0], 32767⟩, ⟨0, [], [], [], 65535⟩, ⟨0, [], [0], [0], 131071⟩] [(0, _), (1, _)] (by kernel_rfl) (by kernel_rfl) rfl ?_
        refine .det (B := []) rfl rfl (.inl rfl) .nil .nil rfl (RunB.lr (run_fieldAddr (.tmp rfl) fa24_0 (by first | exact Nat.zero_add _ | exact rfl))) ?_
        refine .det (B := []) rfl rfl (.inl rfl) (.cons rfl .nil) .nil rfl (RunB.lr (run_load1 (.tmp rfl) kd22 (by repeat (first | exact List.Mem.head _ | apply List.Mem.tail)) (by exact rfl))) ?_
        refine .det (B := []) rfl rfl (.inl rfl) .nil .nil rfl (RunB.lr (run_fieldAddr (.tmp rfl) fa24_1 (by first | exact Nat.zero_add _ | exact rfl))) ?_
        refine .det (B := []) rfl rfl (.inl rfl) (.cons rfl .nil) .nil rfl (RunB.lr (run_load1 (.tmp rfl) kd22 (by repeat (first | exact List.Mem.head _ | apply List.Mem.tail)) (by exact rfl))) ?_
        refine .det (B := []) rfl rfl (.inl rfl) .nil .nil rfl (RunB.lr (run_fieldAddr (.tmp rfl) fa24_2 (by first | exact Nat.zero_add _ | exact rfl))) ?_
        refine .det (B := []) rfl rfl (.inl rfl) (.cons rfl .nil) .nil rfl (RunB.lr (run_load1 (.tmp rfl) kd22 (by repeat (first | exact List.Mem.head _ | apply List.Mem.tail)) (by exact rfl))) ?_
        refine .flo rfl rfl rfl (.none rfl (fun w => bs22_0_ w)) trivial rfl rfl rfl ?_
        intro b54
        refine .ext (B := fun q => [(2, (q.1, _))]) rfl rfl (.inl rfl) .nil (.cons rfl .nil) (fun _ => rfl) (inrow_some (by rw [List.nil_append, spansC_length, Nat.zero_add]) (by unfold maxLen; omega)) (lr_append_row ap22 (.tmp rfl) (xs := []) ⟨Nat.le_refl _, Nat.zero_le _, rfl, rfl⟩ (.tmp rfl) (news := spansC f.offs) (spansC_length _) (spans_plain _) (by omega) (by unfold maxLen; omega) (fun w' hS => spans_flat (fun i s hi j v hj => hS.old_cell (fun h => h) (hco i s hi j v hj)))) ?_
        rintro ⟨gO, cgO, rgO⟩ hgO
        dsimp only at hgO ⊢
        rw [Nat.zero_add, List.nil_append] at hgO
        refine .det (B := []) rfl rfl (.inl rfl) .nil .nil rfl (RunB.lr (run_fieldAddr (.tmp rfl) fa24_0 (by first | exact Nat.zero_add _ | exact rfl))) ?_
        refine .flo rfl rfl rfl (.none rfl (fun w => bs22_0_ w)) trivial rfl rfl rfl ?_
        intro b58
        refine .ext (B := fun q => [(3, (q.1, _))]) rfl rfl (.inl rfl) .nil (.cons rfl .nil) (fun _ => rfl) (inrow_some (by rw [List.nil_append, spansC_length, Nat.zero_add]) (by unfold maxLen; omega)) (lr_append_row ap22 (.tmp rfl) (xs := []) ⟨Nat.le_refl _, Nat.zero_le _, rfl, rfl⟩ (.tmp rfl) (news := spansC f.wids) (spansC_length _) (spans_plain _) (by omega) (by unfold maxLen; omega) (fun w' hS => spans_flat (fun i s hi j v hj => hS.old_cell (fun h => h) (hcw i s hi j v hj)))) ?_
        rintro ⟨gW, cgW, rgW⟩ hgW
        dsimp only at hgW ⊢
        rw [Nat.zero_add, List.nil_append] at hgW
        refine .flo rfl rfl rfl (.none rfl (fun w => bs22_0_ w)) trivial rfl rfl rfl ?_
        intro b62
        refine .ext (B := fun q => [(4, (q.1, _))]) rfl rfl (.inl rfl) .nil (.cons rfl .nil) (fun _ => rfl) (inrow_some (by rw [List.nil_append, spansC_length, Nat.zero_add]) (by unfold maxLen; omega)) (lr_append_row ap22 (.tmp rfl) (xs := []) ⟨Nat.le_refl _, Nat.zero_le _, rfl, rfl⟩ (.tmp rfl) (news := spansC f.deps) (spansC_length _) (spans_plain _) (by omega) (by unfold maxLen; omega) (fun w' hS => spans_flat (fun i s hi j v hj => hS.old_cell (fun h => h) (hcd i s hi j v hj)))) ?_
        rintro ⟨gD, cgD, rgD⟩ hgD
        dsimp only at hgD ⊢
        rw [Nat.zero_add, List.nil_append] at hgD
        refine .det (B := [(0, (_, _))]) rfl rfl (.inl rfl) .nil (.cons rfl .nil) rfl (lr_store1 (.tmp rfl) (.tmp rfl) rfl sz22 (by repeat (first | exact Put.done | apply Put.put | apply Put.skip))) ?_
        refine .det (B := []) rfl rfl (.inl rfl) .nil .nil rfl (RunB.lr (run_fieldAddr (.tmp rfl) fa24_1 (by first | exact Nat.zero_add _ | exact rfl))) ?_
        refine .det (B := [(0, (_, _))]) rfl rfl (.inl rfl) .nil (.cons rfl .nil) rfl (lr_store1 (.tmp rfl) (.tmp rfl) rfl sz22 (by repeat (first | exact Put.done | apply Put.put | apply Put.skip))) ?_
        refine .det (B := []) rfl rfl (.inl rfl) .nil .nil rfl (RunB.lr (run_fieldAddr (.tmp rfl) fa24_2 (by first | exact Nat.zero_add _ | exact rfl))) ?_
        refine .det (B := [(0, (_, _))]) rfl rfl (.inl rfl) .nil (.cons rfl .nil) rfl (lr_store1 (.tmp rfl) (.tmp rfl) rfl sz22 (by repeat (first | exact Put.done | apply Put.put | apply Put.skip))) ?_
        refine chain_nil (ts := [4, 3, 2, 0, 1]) (.cons rfl (.cons rfl (.cons rfl (.cons rfl (.cons rfl .nil))))) (by decide) ?_
        simp only [Nat.zero_add]
        refine xw_then ?_
        refine cw_seq ?_
        refine cw_region ?_
        refine lstepB rfl rfl rfl (run_move (.tmp rfl)) ?_
        refine lstepB rfl rfl rfl (run_convert_at (.tmp rfl) (fun w => cv5_3 (c := (bits : Int)) (IntWalk.i64_in _ (by omega)) w)) ?_
        refine lstepB rfl rfl rfl (run_fieldAddr (.tmp rfl) fa24_0 (by first | exact Nat.zero_add _ | exact rfl)) ?_
        refine lstepB rfl rfl rfl (run_load1 (.tmp rfl) kd22 (by repeat (first | exact List.Mem.head _ | apply List.Mem.tail)) (by exact rfl)) ?_
        refine lstepB rfl rfl rfl (run_len (.tmp rfl) sl22) ?_
        refine lstepB rfl rfl rfl (run_rem_nat (a := bits) (b := f.offs.length) (.tmp rfl) (.tmp rfl) (by omega)) ?_
        refine lstepB rfl rfl rfl (run_assign (.tmp rfl)) ?_
        refine lnil ?_
        refine xw_then ?_
        refine cw_seq ?_
        refine cw_seq ?_
        refine cw_region ?_
        refine lstepB rfl rfl rfl (run_fieldAddr (.tmp rfl) fa24_0 (by first | exact Nat.zero_add _ | exact rfl)) ?_
        refine lstepB rfl rfl rfl (run_load1 (.tmp rfl) kd22 (by repeat (first | exact List.Mem.head _ | apply List.Mem.tail)) (by exact rfl)) ?_
        refine lstepB rfl rfl rfl (run_fieldAddr (.tmp rfl) fa24_1 (by first | exact Nat.zero_add _ | exact rfl)) ?_
        refine lstepB rfl rfl rfl (run_load1 (.tmp rfl) kd22 (by repeat (first | exact List.Mem.head _ | apply List.Mem.tail)) (by exact rfl)) ?_
        refine lstepB rfl rfl rfl (run_fieldAddr (.tmp rfl) fa24_2 (by first | exact Nat.zero_add _ | exact rfl)) ?_
        refine lstepB rfl rfl rfl (run_load1 (.tmp rfl) kd22 (by repeat (first | exact List.Mem.head _ | apply List.Mem.tail)) (by exact rfl)) ?_
        refine lstep rfl rfl rfl (LR.runs (lr_buildSlice_at (.cons (.tmp rfl) (.cons (.tmp rfl) (.cons (.tmp rfl) .nil))) (fun w => bs57_3_0_1_2 w)) (by repeat (first | exact Pick.nil | (apply Pick.cons; focus (repeat (first | exact Del.here | apply Del.there))))) (by repeat (first | exact Dels.nil | (apply Dels.cons; focus (repeat (first | exact Del.here | apply Del.there)))))) ?_
        intro b81 _
        refine lstepB rfl rfl rfl (run_len (.tmp rfl) sl57) ?_
        refine lstepB rfl rfl rfl (run_move .const) ?_
        refine lnil ?_
        refine xw_then ?_
        refine cw_block ?_
        rw [← hk]
        refine cw_loop (S := Nat × List Value × List Value × List Value) (fun st => [(83, .int .i64 ((st.1 : Nat) : Int))]) [(1, _), (2, _), (3, _), (4, _), (9, _), (10, _), (81, _), (82, _)] (fun st => (gO, Obj.cells st.2.1.toArray 28 (0, 0)) :: (gW, Obj.cells st.2.2.1.toArray 28 (0, 0)) :: (gD, Obj.cells st.2.2.2.toArray 28 (0, 0)) :: (b81, Obj.cells [.slice (some ⟨gO, 0, none⟩) f.offs.length cgO, .slice (some ⟨gW, 0, none⟩) f.wids.length cgW, .slice (some ⟨gD, 0, none⟩) f.deps.length cgD].toArray 22 (0, 0)) :: (b9, Obj.cells [.slice (some ⟨gO, 0, none⟩) f.offs.length cgO, .slice (some ⟨gW, 0, none⟩) f.wids.length cgW, .slice (some ⟨gD, 0, none⟩) f.deps.length cgD].toArray 24 (0, 0)) :: (b4, Obj.cells (furrowC f (some ⟨bo, oo, none⟩) (some ⟨bw, ow, none⟩) (some ⟨bd, od, none⟩) oc wc dc).toArray 24 (0, 0)) :: []) (fun st => (st = (0, rgO, rgW, rgD)) ∨ (st = (1, narR (bits.testBit 0) rgO k (f.offs.getD k default), rgW, rgD)) ∨ (st = (2, narR (bits.testBit 0) rgO k (f.offs.getD k default), narR (bits.testBit 1) rgW k (f.wids.getD k default), rgD)) ∨ (st = (3, narR (bits.testBit 0) rgO k (f.offs.getD k default), narR (bits.testBit 1) rgW k (f.wids.getD k default), narR (bits.testBit 2) rgD k (f.deps.getD k default)))) (fun st => 3 - st.1) (0, rgO, rgW, rgD) (.inl rfl) (by repeat (first | exact Less.nil | refine Less.cons rfl ?_)) (by repeat (first | exact Pick.nil | (apply Pick.cons; focus (repeat (first | exact Del.here | apply Del.there))))) ?_
        intro st hs
        rcases hs with rfl | rfl | rfl | rfl
        ·
          dsimp only
          refine cw_seq ?_
          refine cw_region ?_
          refine lstepB rfl rfl rfl (run_lss (.tmp rfl) (.tmp rfl) (decide_eq_true (by omega))) ?_
          refine lnil ?_
          refine xw_then ?_
          refine cw_seq ?_
          refine cw_cond_true (.tmp rfl) ?_
          refine cw_skip ?_
          refine xw_then ?_
          refine cw_seq ?_
          refine cw_block ?_
          refine cw_seq ?_
          refine cw_region ?_
          refine lstepB rfl rfl rfl (run_move (.tmp rfl)) ?_
          refine lstepB rfl rfl rfl (run_indexAddr (i := 0) (off' := 0) (.tmp rfl) (.tmp rfl) el57 (by omega) rfl) ?_
          refine lstepB rfl rfl rfl (run_load1 (.tmp rfl) kd22 (by repeat (first | exact List.Mem.head _ | apply List.Mem.tail)) rfl) ?_
          refine lstepB rfl rfl rfl (run_assign (.tmp rfl)) ?_
          refine lstepB rfl rfl rfl (run_assign (.tmp rfl)) ?_
          refine lnil ?_
          refine xw_then ?_
          refine cw_seq ?_
          refine cw_region ?_
          refine lstepB rfl rfl rfl (run_move (.tmp rfl)) ?_
          refine lstepB rfl rfl rfl (run_move (.tmp rfl)) ?_
          refine lstepB rfl rfl rfl (run_indexAddr (i := k) (off' := k * 2) (.tmp rfl) (.tmp rfl) el22 (by omega) (Nat.zero_add _)) ?_
          refine lstepB rfl rfl rfl (run_assign (.tmp rfl)) ?_
          refine lnil ?_
          refine xw_then ?_
          refine cw_seq ?_
          refine cw_region ?_
          refine lstepB rfl rfl rfl (run_move (.tmp rfl)) ?_
          refine lstepB rfl rfl rfl (run_convert_at (.tmp rfl) (fun w => cv5_3 (by first | exact IntWalk.i64_in _ (by omega) | exact rfl) w)) ?_
          refine lstepB rfl rfl rfl (run_move (.tmp rfl)) ?_
          refine lstepB rfl rfl rfl (run_shr (z := 0) (.tmp rfl) (.tmp rfl) (by omega)) ?_
          refine lstepB rfl rfl rfl (run_and (c' := ((bitN bits 0 : Nat) : Int)) (.tmp rfl) .const (and_one (Nat.lt_of_le_of_lt (Nat.div_le_self _ _) (by omega)))) ?_
          refine lstepB rfl rfl rfl (run_eql (.tmp rfl) .const rfl) ?_
          refine lnil ?_
          refine xw_then ?_
          have hcl : rgO.length = cgO * 2 := hgO.2.2.1
          have hcx : f.offs.length ≤ cgO := hgO.1
          have hlo : rgO[k * 2]? = some (.int .i64 (f.offs.getD k default).lo) := by rw [inrow_get hgO (by omega)]; exact (spansC_two (by omega)).1
          have hhi : rgO[k * 2 + 1]? = some (.int .i64 (f.offs.getD k default).hi) := by rw [inrow_get hgO (by omega)]; exact (spansC_two (by omega)).2
          obtain ⟨sp, hsp⟩ : ∃ sp, sp = f.offs.getD k default := ⟨_, rfl⟩
          rw [← hsp] at hlo hhi
          have hst := hvf.st hkn
          have hsm : -1000 ≤ sp.lo ∧ sp.lo ≤ 1000 ∧ -1000 ≤ sp.hi ∧ sp.hi ≤ 1000 := by rw [hsp]; omega
          refine cw_cond_p (.tmp rfl) (fun hc2 => ?_) (fun hc2 => ?_)
          ·
            have hbt : bits.testBit 0 = true := bitN_iff.1 (by omega)
            refine cw_chain2 (σ := [0, 1, 2, 3, 4, 5, 6, 7, 8, 9, 10, 11, 12, 13]) [⟨0, [], [], [], 0⟩, ⟨0, [], [], [], 0⟩, ⟨0, [], [], [], 2⟩, ⟨0, [], [], [], 6⟩, ⟨0, [0], [], [], 14⟩, ⟨0, [], [], [], 0⟩, ⟨0, [], [], [], 32⟩, ⟨0, [], [], [], 96⟩, ⟨0, [0], [], [], 224⟩, ⟨0, [], [], [], 480⟩, ⟨0, [], [], [], 1022⟩, ⟨0, [], [], [], 2047⟩, ⟨0, [], [], [], 4095⟩, ⟨0, [], [0], [0], 8191⟩] [(0, _), (1, _), (2, _), (3, _), (4, _), (5, _)] (by kernel_rfl) (by kernel_rfl) rfl ?_
            refine .det (B := []) rfl rfl (.inl rfl) .nil .nil rfl (RunB.lr (run_move (.tmp rfl))) ?_
            refine .det (B := []) rfl rfl (.inl rfl) .nil .nil rfl (RunB.lr (run_move (.tmp rfl))) ?_
            refine .det (B := []) rfl rfl (.inl rfl) .nil .nil rfl (RunB.lr (run_nilAt (.tmp rfl))) ?_
            refine .det (B := []) rfl rfl (.inl rfl) .nil .nil rfl (RunB.lr (run_fieldAddr (.tmp rfl) fa28_1 (by first | exact Nat.add_zero _ | exact rfl))) ?_
            refine .det (B := []) rfl rfl (.inl rfl) (.cons rfl .nil) .nil rfl (RunB.lr (run_load1 (v := .int .i64 sp.hi) (.tmp rfl) kd3 (by repeat (first | exact List.Mem.head _ | apply List.Mem.tail)) (by first | exact hhi | exact (by rw [Nat.add_zero]; exact hhi)))) ?_
            refine .det (B := []) rfl rfl (.inl rfl) .nil .nil rfl (RunB.lr (run_move (.tmp rfl))) ?_
            refine .det (B := []) rfl rfl (.inl rfl) .nil .nil rfl (RunB.lr (run_nilAt (.tmp rfl))) ?_
            refine .det (B := []) rfl rfl (.inl rfl) .nil .nil rfl (RunB.lr (run_fieldAddr (.tmp rfl) fa28_0 (by first | exact Nat.add_zero _ | exact rfl))) ?_
            refine .det (B := []) rfl rfl (.inl rfl) (.cons rfl .nil) .nil rfl (RunB.lr (run_load1 (v := .int .i64 sp.lo) (.tmp rfl) kd3 (by repeat (first | exact List.Mem.head _ | apply List.Mem.tail)) (by first | exact hlo | exact (by rw [Nat.add_zero]; exact hlo)))) ?_
            refine .det (B := []) rfl rfl (.inl rfl) .nil .nil rfl (RunB.lr (run_add (.tmp rfl) .const (IntWalk.i64_in _ (by omega)))) ?_
            refine .det (B := []) rfl rfl (.inl rfl) .nil .nil rfl (RunB.lr (En.run_min2 (.tmp rfl) (.tmp rfl))) ?_
            refine .det (B := []) rfl rfl (.inl rfl) .nil .nil rfl (RunB.lr (run_nilAt (.tmp rfl))) ?_
            refine .det (B := []) rfl rfl (.inl rfl) .nil .nil rfl (RunB.lr (run_fieldAddr (.tmp rfl) fa28_0 (by first | exact Nat.add_zero _ | exact rfl))) ?_
            refine .det (B := [(0, (_, _))]) rfl rfl (.inl rfl) .nil (.cons rfl .nil) rfl (lr_store1 (.tmp rfl) (.tmp rfl) rfl sz3 (put_set rgO (k * 2) (.int .i64 (min sp.hi (sp.lo + 1))) (by omega))) ?_
            refine chain_nil (ts := [0, 1, 2, 3, 4, 5]) (.cons rfl (.cons rfl (.cons rfl (.cons rfl (.cons rfl (.cons rfl .nil)))))) (by decide) ?_
            refine xw_in ?_
            refine xw_then ?_
            refine cw_region ?_
            refine lstepB rfl rfl rfl (run_add (.tmp rfl) .const (by first | exact IntWalk.i64_in _ (by omega) | exact rfl)) ?_
            refine lstepB rfl rfl rfl (run_move (.tmp rfl)) ?_
            refine lnil ?_
            exact xw_round (1, rgO.set (k * 2) (.int .i64 (min sp.hi (sp.lo + 1))), rgW, rgD) (.inr (.inl (by rw [← hsp]; simp only [narR, hbt, if_true, Bool.false_eq_true, if_false]))) (by show 3 - 1 < 3 - 0; omega) (by repeat (first | exact Less.nil | refine Less.cons rfl ?_)) (by repeat (first | exact Pick.nil | (apply Pick.cons; focus (repeat (first | exact Del.here | apply Del.there)))))
          ·
            have hbt : bits.testBit 0 = false := bitN_zero.1 (by have : bitN bits 0 < 2 := Nat.mod_lt _ (by omega); omega)
            refine cw_chain2 (σ := [0, 1, 2, 3, 4, 5, 6, 7, 8, 9, 10, 11, 12, 13]) [⟨0, [], [], [], 0⟩, ⟨0, [], [], [], 0⟩, ⟨0, [], [], [], 2⟩, ⟨0, [], [], [], 6⟩, ⟨0, [0], [], [], 14⟩, ⟨0, [], [], [], 0⟩, ⟨0, [], [], [], 32⟩, ⟨0, [], [], [], 96⟩, ⟨0, [0], [], [], 224⟩, ⟨0, [], [], [], 480⟩, ⟨0, [], [], [], 1022⟩, ⟨0, [], [], [], 2047⟩, ⟨0, [], [], [], 4095⟩, ⟨0, [], [0], [0], 8191⟩] [(0, _), (1, _), (2, _), (3, _), (4, _), (5, _)] (by kernel_rfl) (by kernel_rfl) rfl ?_
            refine .det (B := []) rfl rfl (.inl rfl) .nil .nil rfl (RunB.lr (run_move (.tmp rfl))) ?_
            refine .det (B := []) rfl rfl (.inl rfl) .nil .nil rfl (RunB.lr (run_move (.tmp rfl))) ?_
            refine .det (B := []) rfl rfl (.inl rfl) .nil .nil rfl (RunB.lr (run_nilAt (.tmp rfl))) ?_
            refine .det (B := []) rfl rfl (.inl rfl) .nil .nil rfl (RunB.lr (run_fieldAddr (.tmp rfl) fa28_0 (by first | exact Nat.add_zero _ | exact rfl))) ?_
            refine .det (B := []) rfl rfl (.inl rfl) (.cons rfl .nil) .nil rfl (RunB.lr (run_load1 (v := .int .i64 sp.lo) (.tmp rfl) kd3 (by repeat (first | exact List.Mem.head _ | apply List.Mem.tail)) (by first | exact hlo | exact (by rw [Nat.add_zero]; exact hlo)))) ?_
            refine .det (B := []) rfl rfl (.inl rfl) .nil .nil rfl (RunB.lr (run_move (.tmp rfl))) ?_
            refine .det (B := []) rfl rfl (.inl rfl) .nil .nil rfl (RunB.lr (run_nilAt (.tmp rfl))) ?_
            refine .det (B := []) rfl rfl (.inl rfl) .nil .nil rfl (RunB.lr (run_fieldAddr (.tmp rfl) fa28_1 (by first | exact Nat.add_zero _ | exact rfl))) ?_
            refine .det (B := []) rfl rfl (.inl rfl) (.cons rfl .nil) .nil rfl (RunB.lr (run_load1 (v := .int .i64 sp.hi) (.tmp rfl) kd3 (by repeat (first | exact List.Mem.head _ | apply List.Mem.tail)) (by first | exact hhi | exact (by rw [Nat.add_zero]; exact hhi)))) ?_
            refine .det (B := []) rfl rfl (.inl rfl) .nil .nil rfl (RunB.lr (run_sub (.tmp rfl) .const (IntWalk.i64_in _ (by omega)))) ?_
            refine .det (B := []) rfl rfl (.inl rfl) .nil .nil rfl (RunB.lr (En.run_max2 (.tmp rfl) (.tmp rfl))) ?_
            refine .det (B := []) rfl rfl (.inl rfl) .nil .nil rfl (RunB.lr (run_nilAt (.tmp rfl))) ?_
            refine .det (B := []) rfl rfl (.inl rfl) .nil .nil rfl (RunB.lr (run_fieldAddr (.tmp rfl) fa28_1 (by first | exact Nat.add_zero _ | exact rfl))) ?_
            refine .det (B := [(0, (_, _))]) rfl rfl (.inl rfl) .nil (.cons rfl .nil) rfl (lr_store1 (.tmp rfl) (.tmp rfl) rfl sz3 (put_set rgO (k * 2 + 1) (.int .i64 (max sp.lo (sp.hi - 2))) (by omega))) ?_
            refine chain_nil (ts := [0, 1, 2, 3, 4, 5]) (.cons rfl (.cons rfl (.cons rfl (.cons rfl (.cons rfl (.cons rfl .nil)))))) (by decide) ?_
            refine xw_in ?_
            refine xw_then ?_
            refine cw_region ?_
            refine lstepB rfl rfl rfl (run_add (.tmp rfl) .const (by first | exact IntWalk.i64_in _ (by omega) | exact rfl)) ?_
            refine lstepB rfl rfl rfl (run_move (.tmp rfl)) ?_
            refine lnil ?_
            exact xw_round (1, rgO.set (k * 2 + 1) (.int .i64 (max sp.lo (sp.hi - 2))), rgW, rgD) (.inr (.inl (by rw [← hsp]; simp only [narR, hbt, if_true, Bool.false_eq_true, if_false]))) (by show 3 - 1 < 3 - 0; omega) (by repeat (first | exact Less.nil | refine Less.cons rfl ?_)) (by repeat (first | exact Pick.nil | (apply Pick.cons; focus (repeat (first | exact Del.here | apply Del.there)))))
        ·
          dsimp only
          refine cw_seq ?_
          refine cw_region ?_
          refine lstepB rfl rfl rfl (run_lss (.tmp rfl) (.tmp rfl) (decide_eq_true (by omega))) ?_
          refine lnil ?_
          refine xw_then ?_
          refine cw_seq ?_
          refine cw_cond_true (.tmp rfl) ?_
          refine cw_skip ?_
          refine xw_then ?_
          refine cw_seq ?_
          refine cw_block ?_
          refine cw_seq ?_
          refine cw_region ?_
          refine lstepB rfl rfl rfl (run_move (.tmp rfl)) ?_
          refine lstepB rfl rfl rfl (run_indexAddr (i := 1) (off' := 1) (.tmp rfl) (.tmp rfl) el57 (by omega) rfl) ?_
          refine lstepB rfl rfl rfl (run_load1 (.tmp rfl) kd22 (by repeat (first | exact List.Mem.head _ | apply List.Mem.tail)) rfl) ?_
          refine lstepB rfl rfl rfl (run_assign (.tmp rfl)) ?_
          refine lstepB rfl rfl rfl (run_assign (.tmp rfl)) ?_
          refine lnil ?_
          refine xw_then ?_
          refine cw_seq ?_
          refine cw_region ?_
          refine lstepB rfl rfl rfl (run_move (.tmp rfl)) ?_
          refine lstepB rfl rfl rfl (run_move (.tmp rfl)) ?_
          refine lstepB rfl rfl rfl (run_indexAddr (i := k) (off' := k * 2) (.tmp rfl) (.tmp rfl) el22 (by omega) (Nat.zero_add _)) ?_
          refine lstepB rfl rfl rfl (run_assign (.tmp rfl)) ?_
          refine lnil ?_
          refine xw_then ?_
          refine cw_seq ?_
          refine cw_region ?_
          refine lstepB rfl rfl rfl (run_move (.tmp rfl)) ?_
          refine lstepB rfl rfl rfl (run_convert_at (.tmp rfl) (fun w => cv5_3 (by first | exact IntWalk.i64_in _ (by omega) | exact rfl) w)) ?_
          refine lstepB rfl rfl rfl (run_move (.tmp rfl)) ?_
          refine lstepB rfl rfl rfl (run_shr (z := 1) (.tmp rfl) (.tmp rfl) (by omega)) ?_
          refine lstepB rfl rfl rfl (run_and (c' := ((bitN bits 1 : Nat) : Int)) (.tmp rfl) .const (and_one (Nat.lt_of_le_of_lt (Nat.div_le_self _ _) (by omega)))) ?_
          refine lstepB rfl rfl rfl (run_eql (.tmp rfl) .const rfl) ?_
          refine lnil ?_
          refine xw_then ?_
          have hcl : rgW.length = cgW * 2 := hgW.2.2.1
          have hcx : f.wids.length ≤ cgW := hgW.1
          have hlo : rgW[k * 2]? = some (.int .i64 (f.wids.getD k default).lo) := by rw [inrow_get hgW (by omega)]; exact (spansC_two (by omega)).1
          have hhi : rgW[k * 2 + 1]? = some (.int .i64 (f.wids.getD k default).hi) := by rw [inrow_get hgW (by omega)]; exact (spansC_two (by omega)).2
          obtain ⟨sp, hsp⟩ : ∃ sp, sp = f.wids.getD k default := ⟨_, rfl⟩
          rw [← hsp] at hlo hhi
          have hst := hvf.st hkn
          have hsm : -1000 ≤ sp.lo ∧ sp.lo ≤ 1000 ∧ -1000 ≤ sp.hi ∧ sp.hi ≤ 1000 := by rw [hsp]; omega
          refine cw_cond_p (.tmp rfl) (fun hc2 => ?_) (fun hc2 => ?_)
          ·
            have hbt : bits.testBit 1 = true := bitN_iff.1 (by omega)
            refine cw_chain2 (σ := [0, 1, 2, 3, 4, 5, 6, 7, 8, 9, 10, 11, 12, 13]) [⟨0, [], [], [], 0⟩, ⟨0, [], [], [], 0⟩, ⟨0, [], [], [], 2⟩, ⟨0, [], [], [], 6⟩, ⟨0, [1], [], [], 14⟩, ⟨0, [], [], [], 0⟩, ⟨0, [], [], [], 32⟩, ⟨0, [], [], [], 96⟩, ⟨0, [1], [], [], 224⟩, ⟨0, [], [], [], 480⟩, ⟨0, [], [], [], 1022⟩, ⟨0, [], [], [], 2047⟩, ⟨0, [], [], [], 4095⟩, ⟨0, [], [1], [1], 8191⟩] [(0, _), (1, _), (2, _), (3, _), (4, _), (5, _)] (by kernel_rfl) (by kernel_rfl) rfl ?_
            refine .det (B := []) rfl rfl (.inl rfl) .nil .nil rfl (RunB.lr (run_move (.tmp rfl))) ?_
            refine .det (B := []) rfl rfl (.inl rfl) .nil .nil rfl (RunB.lr (run_move (.tmp rfl))) ?_
            refine .det (B := []) rfl rfl (.inl rfl) .nil .nil rfl (RunB.lr (run_nilAt (.tmp rfl))) ?_
            refine .det (B := []) rfl rfl (.inl rfl) .nil .nil rfl (RunB.lr (run_fieldAddr (.tmp rfl) fa28_1 (by first | exact Nat.add_zero _ | exact rfl))) ?_
            refine .det (B := []) rfl rfl (.inl rfl) (.cons rfl .nil) .nil rfl (RunB.lr (run_load1 (v := .int .i64 sp.hi) (.tmp rfl) kd3 (by repeat (first | exact List.Mem.head _ | apply List.Mem.tail)) (by first | exact hhi | exact (by rw [Nat.add_zero]; exact hhi)))) ?_
            refine .det (B := []) rfl rfl (.inl rfl) .nil .nil rfl (RunB.lr (run_move (.tmp rfl))) ?_
            refine .det (B := []) rfl rfl (.inl rfl) .nil .nil rfl (RunB.lr (run_nilAt (.tmp rfl))) ?_
            refine .det (B := []) rfl rfl (.inl rfl) .nil .nil rfl (RunB.lr (run_fieldAddr (.tmp rfl) fa28_0 (by first | exact Nat.add_zero _ | exact rfl))) ?_
            refine .det (B := []) rfl rfl (.inl rfl) (.cons rfl .nil) .nil rfl (RunB.lr (run_load1 (v := .int .i64 sp.lo) (.tmp rfl) kd3 (by repeat (first | exact List.Mem.head _ | apply List.Mem.tail)) (by first | exact hlo | exact (by rw [Nat.add_zero]; exact hlo)))) ?_
            refine .det (B := []) rfl rfl (.inl rfl) .nil .nil rfl (RunB.lr (run_add (.tmp rfl) .const (IntWalk.i64_in _ (by omega)))) ?_
            refine .det (B := []) rfl rfl (.inl rfl) .nil .nil rfl (RunB.lr (En.run_min2 (.tmp rfl) (.tmp rfl))) ?_
            refine .det (B := []) rfl rfl (.inl rfl) .nil .nil rfl (RunB.lr (run_nilAt (.tmp rfl))) ?_
            refine .det (B := []) rfl rfl (.inl rfl) .nil .nil rfl (RunB.lr (run_fieldAddr (.tmp rfl) fa28_0 (by first | exact Nat.add_zero _ | exact rfl))) ?_
            refine .det (B := [(1, (_, _))]) rfl rfl (.inl rfl) .nil (.cons rfl .nil) rfl (lr_store1 (.tmp rfl) (.tmp rfl) rfl sz3 (put_set rgW (k * 2) (.int .i64 (min sp.hi (sp.lo + 1))) (by omega))) ?_
            refine chain_nil (ts := [0, 1, 2, 3, 4, 5]) (.cons rfl (.cons rfl (.cons rfl (.cons rfl (.cons rfl (.cons rfl .nil)))))) (by decide) ?_
            refine xw_in ?_
            refine xw_then ?_
            refine cw_region ?_
            refine lstepB rfl rfl rfl (run_add (.tmp rfl) .const (by first | exact IntWalk.i64_in _ (by omega) | exact rfl)) ?_
            refine lstepB rfl rfl rfl (run_move (.tmp rfl)) ?_
            refine lnil ?_
            exact xw_round (2, narR (bits.testBit 0) rgO k (f.offs.getD k default), rgW.set (k * 2) (.int .i64 (min sp.hi (sp.lo + 1))), rgD) (.inr (.inr (.inl (by rw [← hsp]; simp only [narR, hbt, if_true, Bool.false_eq_true, if_false])))) (by show 3 - 2 < 3 - 1; omega) (by repeat (first | exact Less.nil | refine Less.cons rfl ?_)) (by repeat (first | exact Pick.nil | (apply Pick.cons; focus (repeat (first | exact Del.here | apply Del.there)))))
          ·
            have hbt : bits.testBit 1 = false := bitN_zero.1 (by have : bitN bits 1 < 2 := Nat.mod_lt _ (by omega); omega)
            refine cw_chain2 (σ := [0, 1, 2, 3, 4, 5, 6, 7, 8, 9, 10, 11, 12, 13]) [⟨0, [], [], [], 0⟩, ⟨0, [], [], [], 0⟩, ⟨0, [], [], [], 2⟩, ⟨0, [], [], [], 6⟩, ⟨0, [1], [], [], 14⟩, ⟨0, [], [], [], 0⟩, ⟨0, [], [], [], 32⟩, ⟨0, [], [], [], 96⟩, ⟨0, [1], [], [], 224⟩, ⟨0, [], [], [], 480⟩, ⟨0, [], [], [], 1022⟩, ⟨0, [], [], [], 2047⟩, ⟨0, [], [], [], 4095⟩, ⟨0, [], [1], [1], 8191⟩] [(0, _), (1, _), (2, _), (3, _), (4, _), (5, _)] (by kernel_rfl) (by kernel_rfl) rfl ?_
            refine .det (B := []) rfl rfl (.inl rfl) .nil .nil rfl (RunB.lr (run_move (.tmp rfl))) ?_
            refine .det (B := []) rfl rfl (.inl rfl) .nil .nil rfl (RunB.lr (run_move (.tmp rfl))) ?_
            refine .det (B := []) rfl rfl (.inl rfl) .nil .nil rfl (RunB.lr (run_nilAt (.tmp rfl))) ?_
            refine .det (B := []) rfl rfl (.inl rfl) .nil .nil rfl (RunB.lr (run_fieldAddr (.tmp rfl) fa28_0 (by first | exact Nat.add_zero _ | exact rfl))) ?_
            refine .det (B := []) rfl rfl (.inl rfl) (.cons rfl .nil) .nil rfl (RunB.lr (run_load1 (v := .int .i64 sp.lo) (.tmp rfl) kd3 (by repeat (first | exact List.Mem.head _ | apply List.Mem.tail)) (by first | exact hlo | exact (by rw [Nat.add_zero]; exact hlo)))) ?_
            refine .det (B := []) rfl rfl (.inl rfl) .nil .nil rfl (RunB.lr (run_move (.tmp rfl))) ?_
            refine .det (B := []) rfl rfl (.inl rfl) .nil .nil rfl (RunB.lr (run_nilAt (.tmp rfl))) ?_
            refine .det (B := []) rfl rfl (.inl rfl) .nil .nil rfl (RunB.lr (run_fieldAddr (.tmp rfl) fa28_1 (by first | exact Nat.add_zero _ | exact rfl))) ?_
            refine .det (B := []) rfl rfl (.inl rfl) (.cons rfl .nil) .nil rfl (RunB.lr (run_load1 (v := .int .i64 sp.hi) (.tmp rfl) kd3 (by repeat (first | exact List.Mem.head _ | apply List.Mem.tail)) (by first | exact hhi | exact (by rw [Nat.add_zero]; exact hhi)))) ?_
            refine .det (B := []) rfl rfl (.inl rfl) .nil .nil rfl (RunB.lr (run_sub (.tmp rfl) .const (IntWalk.i64_in _ (by omega)))) ?_
            refine .det (B := []) rfl rfl (.inl rfl) .nil .nil rfl (RunB.lr (En.run_max2 (.tmp rfl) (.tmp rfl))) ?_
            refine .det (B := []) rfl rfl (.inl rfl) .nil .nil rfl (RunB.lr (run_nilAt (.tmp rfl))) ?_
            refine .det (B := []) rfl rfl (.inl rfl) .nil .nil rfl (RunB.lr (run_fieldAddr (.tmp rfl) fa28_1 (by first | exact Nat.add_zero _ | exact rfl))) ?_
            refine .det (B := [(1, (_, _))]) rfl rfl (.inl rfl) .nil (.cons rfl .nil) rfl (lr_store1 (.tmp rfl) (.tmp rfl) rfl sz3 (put_set rgW (k * 2 + 1) (.int .i64 (max sp.lo (sp.hi - 2))) (by omega))) ?_
            refine chain_nil (ts := [0, 1, 2, 3, 4, 5]) (.cons rfl (.cons rfl (.cons rfl (.cons rfl (.cons rfl (.cons rfl .nil)))))) (by decide) ?_
            refine xw_in ?_
            refine xw_then ?_
            refine cw_region ?_
            refine lstepB rfl rfl rfl (run_add (.tmp rfl) .const (by first | exact IntWalk.i64_in _ (by omega) | exact rfl)) ?_
            refine lstepB rfl rfl rfl (run_move (.tmp rfl)) ?_
            refine lnil ?_
            exact xw_round (2, narR (bits.testBit 0) rgO k (f.offs.getD k default), rgW.set (k * 2 + 1) (.int .i64 (max sp.lo (sp.hi - 2))), rgD) (.inr (.inr (.inl (by rw [← hsp]; simp only [narR, hbt, if_true, Bool.false_eq_true, if_false])))) (by show 3 - 2 < 3 - 1; omega) (by repeat (first | exact Less.nil | refine Less.cons rfl ?_)) (by repeat (first | exact Pick.nil | (apply Pick.cons; focus (repeat (first | exact Del.here | apply Del.there)))))
        ·
          dsimp only
          refine cw_seq ?_
          refine cw_region ?_
          refine lstepB rfl rfl rfl (run_lss (.tmp rfl) (.tmp rfl) (decide_eq_true (by omega))) ?_
          refine lnil ?_
          refine xw_then ?_
          refine cw_seq ?_
          refine cw_cond_true (.tmp rfl) ?_
          refine cw_skip ?_
          refine xw_then ?_
          refine cw_seq ?_
          refine cw_block ?_
          refine cw_seq ?_
          refine cw_region ?_
          refine lstepB rfl rfl rfl (run_move (.tmp rfl)) ?_
          refine lstepB rfl rfl rfl (run_indexAddr (i := 2) (off' := 2) (.tmp rfl) (.tmp rfl) el57 (by omega) rfl) ?_
          refine lstepB rfl rfl rfl (run_load1 (.tmp rfl) kd22 (by repeat (first | exact List.Mem.head _ | apply List.Mem.tail)) rfl) ?_
          refine lstepB rfl rfl rfl (run_assign (.tmp rfl)) ?_
          refine lstepB rfl rfl rfl (run_assign (.tmp rfl)) ?_
          refine lnil ?_
          refine xw_then ?_
          refine cw_seq ?_
          refine cw_region ?_
          refine lstepB rfl rfl rfl (run_move (.tmp rfl)) ?_
          refine lstepB rfl rfl rfl (run_move (.tmp rfl)) ?_
          refine lstepB rfl rfl rfl (run_indexAddr (i := k) (off' := k * 2) (.tmp rfl) (.tmp rfl) el22 (by omega) (Nat.zero_add _)) ?_
          refine lstepB rfl rfl rfl (run_assign (.tmp rfl)) ?_
          refine lnil ?_
          refine xw_then ?_
          refine cw_seq ?_
          refine cw_region ?_
          refine lstepB rfl rfl rfl (run_move (.tmp rfl)) ?_
          refine lstepB rfl rfl rfl (run_convert_at (.tmp rfl) (fun w => cv5_3 (by first | exact IntWalk.i64_in _ (by omega) | exact rfl) w)) ?_
          refine lstepB rfl rfl rfl (run_move (.tmp rfl)) ?_
          refine lstepB rfl rfl rfl (run_shr (z := 2) (.tmp rfl) (.tmp rfl) (by omega)) ?_
          refine lstepB rfl rfl rfl (run_and (c' := ((bitN bits 2 : Nat) : Int)) (.tmp rfl) .const (and_one (Nat.lt_of_le_of_lt (Nat.div_le_self _ _) (by omega)))) ?_
          refine lstepB rfl rfl rfl (run_eql (.tmp rfl) .const rfl) ?_
          refine lnil ?_
          refine xw_then ?_
          have hcl : rgD.length = cgD * 2 := hgD.2.2.1
          have hcx : f.deps.length ≤ cgD := hgD.1
          have hlo : rgD[k * 2]? = some (.int .i64 (f.deps.getD k default).lo) := by rw [inrow_get hgD (by omega)]; exact (spansC_two (by omega)).1
          have hhi : rgD[k * 2 + 1]? = some (.int .i64 (f.deps.getD k default).hi) := by rw [inrow_get hgD (by omega)]; exact (spansC_two (by omega)).2
          obtain ⟨sp, hsp⟩ : ∃ sp, sp = f.deps.getD k default := ⟨_, rfl⟩
          rw [← hsp] at hlo hhi
          have hst := hvf.st hkn
          have hsm : -1000 ≤ sp.lo ∧ sp.lo ≤ 1000 ∧ -1000 ≤ sp.hi ∧ sp.hi ≤ 1000 := by rw [hsp]; omega
          refine cw_cond_p (.tmp rfl) (fun hc2 => ?_) (fun hc2 => ?_)
          ·
            have hbt : bits.testBit 2 = true := bitN_iff.1 (by omega)
            refine cw_chain2 (σ := [0, 1, 2, 3, 4, 5, 6, 7, 8, 9, 10, 11, 12, 13]) [⟨0, [], [], [], 0⟩, ⟨0, [], [], [], 0⟩, ⟨0, [], [], [], 2⟩, ⟨0, [], [], [], 6⟩, ⟨0, [2], [], [], 14⟩, ⟨0, [], [], [], 0⟩, ⟨0, [], [], [], 32⟩, ⟨0, [], [], [], 96⟩, ⟨0, [2], [], [], 224⟩, ⟨0, [], [], [], 480⟩, ⟨0, [], [], [], 1022⟩, ⟨0, [], [], [], 2047⟩, ⟨0, [], [], [], 4095⟩, ⟨0, [], [2], [2], 8191⟩] [(0, _), (1, _), (2, _), (3, _), (4, _), (5, _)] (by kernel_rfl) (by kernel_rfl) rfl ?_
            refine .det (B := []) rfl rfl (.inl rfl) .nil .nil rfl (RunB.lr (run_move (.tmp rfl))) ?_
            refine .det (B := []) rfl rfl (.inl rfl) .nil .nil rfl (RunB.lr (run_move (.tmp rfl))) ?_
            refine .det (B := []) rfl rfl (.inl rfl) .nil .nil rfl (RunB.lr (run_nilAt (.tmp rfl))) ?_
            refine .det (B := []) rfl rfl (.inl rfl) .nil .nil rfl (RunB.lr (run_fieldAddr (.tmp rfl) fa28_1 (by first | exact Nat.add_zero _ | exact rfl))) ?_
            refine .det (B := []) rfl rfl (.inl rfl) (.cons rfl .nil) .nil rfl (RunB.lr (run_load1 (v := .int .i64 sp.hi) (.tmp rfl) kd3 (by repeat (first | exact List.Mem.head _ | apply List.Mem.tail)) (by first | exact hhi | exact (by rw [Nat.add_zero]; exact hhi)))) ?_
            refine .det (B := []) rfl rfl (.inl rfl) .nil .nil rfl (RunB.lr (run_move (.tmp rfl))) ?_
            refine .det (B := []) rfl rfl (.inl rfl) .nil .nil rfl (RunB.lr (run_nilAt (.tmp rfl))) ?_
            refine .det (B := []) rfl rfl (.inl rfl) .nil .nil rfl (RunB.lr (run_fieldAddr (.tmp rfl) fa28_0 (by first | exact Nat.add_zero _ | exact rfl))) ?_
            refine .det (B := []) rfl rfl (.inl rfl) (.cons rfl .nil) .nil rfl (RunB.lr (run_load1 (v := .int .i64 sp.lo) (.tmp rfl) kd3 (by repeat (first | exact List.Mem.head _ | apply List.Mem.tail)) (by first | exact hlo | exact (by rw [Nat.add_zero]; exact hlo)))) ?_
            refine .det (B := []) rfl rfl (.inl rfl) .nil .nil rfl (RunB.lr (run_add (.tmp rfl) .const (IntWalk.i64_in _ (by omega)))) ?_
            refine .det (B := []) rfl rfl (.inl rfl) .nil .nil rfl (RunB.lr (En.run_min2 (.tmp rfl) (.tmp rfl))) ?_
            refine .det (B := []) rfl rfl (.inl rfl) .nil .nil rfl (RunB.lr (run_nilAt (.tmp rfl))) ?_
            refine .det (B := []) rfl rfl (.inl rfl) .nil .nil rfl (RunB.lr (run_fieldAddr (.tmp rfl) fa28_0 (by first | exact Nat.add_zero _ | exact rfl))) ?_
            refine .det (B := [(2, (_, _))]) rfl rfl (.inl rfl) .nil (.cons rfl .nil) rfl (lr_store1 (.tmp rfl) (.tmp rfl) rfl sz3 (put_set rgD (k * 2) (.int .i64 (min sp.hi (sp.lo + 1))) (by omega))) ?_
            refine chain_nil (ts := [0, 1, 2, 3, 4, 5]) (.cons rfl (.cons rfl (.cons rfl (.cons rfl (.cons rfl (.cons rfl .nil)))))) (by decide) ?_
            refine xw_in ?_
            refine xw_then ?_
            refine cw_region ?_
            refine lstepB rfl rfl rfl (run_add (.tmp rfl) .const (by first | exact IntWalk.i64_in _ (by omega) | exact rfl)) ?_
            refine lstepB rfl rfl rfl (run_move (.tmp rfl)) ?_
            refine lnil ?_
            exact xw_round (3, narR (bits.testBit 0) rgO k (f.offs.getD k default), narR (bits.testBit 1) rgW k (f.wids.getD k default), rgD.set (k * 2) (.int .i64 (min sp.hi (sp.lo + 1)))) (.inr (.inr (.inr ((by rw [← hsp]; simp only [narR, hbt, if_true, Bool.false_eq_true, if_false]))))) (by show 3 - 3 < 3 - 2; omega) (by repeat (first | exact Less.nil | refine Less.cons rfl ?_)) (by repeat (first | exact Pick.nil | (apply Pick.cons; focus (repeat (first | exact Del.here | apply Del.there)))))
          ·
            have hbt : bits.testBit 2 = false := bitN_zero.1 (by have : bitN bits 2 < 2 := Nat.mod_lt _ (by omega); omega)
            refine cw_chain2 (σ := [0, 1, 2, 3, 4, 5, 6, 7, 8, 9, 10, 11, 12, 13]) [⟨0, [], [], [], 0⟩, ⟨0, [], [], [], 0⟩, ⟨0, [], [], [], 2⟩, ⟨0, [], [], [], 6⟩, ⟨0, [2], [], [], 14⟩, ⟨0, [], [], [], 0⟩, ⟨0, [], [], [], 32⟩, ⟨0, [], [], [], 96⟩, ⟨0, [2], [], [], 224⟩, ⟨0, [], [], [], 480⟩, ⟨0, [], [], [], 1022⟩, ⟨0, [], [], [], 2047⟩, ⟨0, [], [], [], 4095⟩, ⟨0, [], [2], [2], 8191⟩] [(0, _), (1, _), (2, _), (3, _), (4, _), (5, _)] (by kernel_rfl) (by kernel_rfl) rfl ?_
            refine .det (B := []) rfl rfl (.inl rfl) .nil .nil rfl (RunB.lr (run_move (.tmp rfl))) ?_
            refine .det (B := []) rfl rfl (.inl rfl) .nil .nil rfl (RunB.lr (run_move (.tmp rfl))) ?_
            refine .det (B := []) rfl rfl (.inl rfl) .nil .nil rfl (RunB.lr (run_nilAt (.tmp rfl))) ?_
            refine .det (B := []) rfl rfl (.inl rfl) .nil .nil rfl (RunB.lr (run_fieldAddr (.tmp rfl) fa28_0 (by first | exact Nat.add_zero _ | exact rfl))) ?_
            refine .det (B := []) rfl rfl (.inl rfl) (.cons rfl .nil) .nil rfl (RunB.lr (run_load1 (v := .int .i64 sp.lo) (.tmp rfl) kd3 (by repeat (first | exact List.Mem.head _ | apply List.Mem.tail)) (by first | exact hlo | exact (by rw [Nat.add_zero]; exact hlo)))) ?_
            refine .det (B := []) rfl rfl (.inl rfl) .nil .nil rfl (RunB.lr (run_move (.tmp rfl))) ?_
            refine .det (B := []) rfl rfl (.inl rfl) .nil .nil rfl (RunB.lr (run_nilAt (.tmp rfl))) ?_
            refine .det (B := []) rfl rfl (.inl rfl) .nil .nil rfl (RunB.lr (run_fieldAddr (.tmp rfl) fa28_1 (by first | exact Nat.add_zero _ | exact rfl))) ?_
            refine .det (B := []) rfl rfl (.inl rfl) (.cons rfl .nil) .nil rfl (RunB.lr (run_load1 (v := .int .i64 sp.hi) (.tmp rfl) kd3 (by repeat (first | exact List.Mem.head _ | apply List.Mem.tail)) (by first | exact hhi | exact (by rw [Nat.add_zero]; exact hhi)))) ?_
            refine .det (B := []) rfl rfl (.inl rfl) .nil .nil rfl (RunB.lr (run_sub (.tmp rfl) .const (IntWalk.i64_in _ (by omega)))) ?_
            refine .det (B := []) rfl rfl (.inl rfl) .nil .nil rfl (RunB.lr (En.run_max2 (.tmp rfl) (.tmp rfl))) ?_
            refine .det (B := []) rfl rfl (.inl rfl) .nil .nil rfl (RunB.lr (run_nilAt (.tmp rfl))) ?_
            refine .det (B := []) rfl rfl (.inl rfl) .nil .nil rfl (RunB.lr (run_fieldAddr (.tmp rfl) fa28_1 (by first | exact Nat.add_zero _ | exact rfl))) ?_
            refine .det (B := [(2, (_, _))]) rfl rfl (.inl rfl) .nil (.cons rfl .nil) rfl (lr_store1 (.tmp rfl) (.tmp rfl) rfl sz3 (put_set rgD (k * 2 + 1) (.int .i64 (max sp.lo (sp.hi - 2))) (by omega))) ?_
            refine chain_nil (ts := [0, 1, 2, 3, 4, 5]) (.cons rfl (.cons rfl (.cons rfl (.cons rfl (.cons rfl (.cons rfl .nil)))))) (by decide) ?_
            refine xw_in ?_
            refine xw_then ?_
            refine cw_region ?_
            refine lstepB rfl rfl rfl (run_add (.tmp rfl) .const (by first | exact IntWalk.i64_in _ (by omega) | exact rfl)) ?_
            refine lstepB rfl rfl rfl (run_move (.tmp rfl)) ?_
            refine lnil ?_
            exact xw_round (3, narR (bits.testBit 0) rgO k (f.offs.getD k default), narR (bits.testBit 1) rgW k (f.wids.getD k default), rgD.set (k * 2 + 1) (.int .i64 (max sp.lo (sp.hi - 2)))) (.inr (.inr (.inr ((by rw [← hsp]; simp only [narR, hbt, if_true, Bool.false_eq_true, if_false]))))) (by show 3 - 3 < 3 - 2; omega) (by repeat (first | exact Less.nil | refine Less.cons rfl ?_)) (by repeat (first | exact Pick.nil | (apply Pick.cons; focus (repeat (first | exact Del.here | apply Del.there)))))
        ·
          dsimp only
          refine cw_seq ?_
          refine cw_region ?_
          refine lstepB rfl rfl rfl (run_lss (.tmp rfl) (.tmp rfl) (decide_eq_false (by omega))) ?_
          refine lnil ?_
          refine xw_then ?_
          refine cw_seq ?_
          refine cw_cond_false (.tmp rfl) ?_
          have iO := inrow_nar (bits.testBit 0) hgO rfl hkn
          have iW := inrow_nar (bits.testBit 1) hgW rfl (show k < f.wids.length by omega)
          have iD := inrow_nar (bits.testBit 2) hgD rfl (show k < f.deps.length by omega)
          rw [show f.offs.set k (narS (bits.testBit 0) (f.offs.getD k default)) = x.offs by rw [hx]; rfl] at iO
          rw [show f.wids.set k (narS (bits.testBit 1) (f.wids.getD k default)) = x.wids by rw [hx]; rfl] at iW
          rw [show f.deps.set k (narS (bits.testBit 2) (f.deps.getD k default)) = x.deps by rw [hx]; rfl] at iD
          refine cw_exit ?_
          refine xw_then_exit ?_
          refine xw_then_exit ?_
          refine xw_in_exit ?_
          refine xw_then ?_
          refine cw_seq ?_
          refine cw_region ?_
          refine lstepB rfl rfl rfl (run_assign .func) ?_
          refine lnil ?_
          refine xw_then ?_
          refine cw_seq ?_
          refine cw_region ?_
          refine lstepB rfl rfl rfl (run_loadN (.tmp rfl) kd24 sz24 (by repeat (first | exact List.Mem.head _ | apply List.Mem.tail)) (by repeat (first | exact Sub.done | apply Sub.take | apply Sub.skip))) ?_
          refine lstepB rfl rfl rfl (run_call1 cb14 (.cons (.tmp rfl) .nil) (fun w2 hS => bendQn f rfl rfl rfl  w2 hm (hf.kept hS.kept) hv)) ?_
          refine lstepB rfl rfl rfl (run_move (.tmp rfl)) ?_
          refine lstepB rfl rfl rfl (run_extract (.tmp rfl) rfl) ?_
          refine lstepB rfl rfl rfl (run_extract (.tmp rfl) rfl) ?_
          refine lstep rfl rfl rfl (run_alloc zr28) ?_
          intro b15 _
          refine lstep0 rfl rfl (run_storeN (.tmp rfl) (.tmp rfl) rfl sz28 rfl (by repeat (first | exact Upd.here | apply Upd.there)) (by repeat (first | exact Put.done | apply Put.put | apply Put.skip))) ?_
          refine lstepB rfl rfl rfl (run_assign (.tmp rfl)) ?_
          refine lnil ?_
          refine xw_then ?_
          refine cw_seq ?_
          refine cw_region ?_
          refine lstepB rfl rfl rfl (run_loadN (.tmp rfl) kd24 sz24 (by repeat (first | exact List.Mem.head _ | apply List.Mem.tail)) (by repeat (first | exact Sub.done | apply Sub.take | apply Sub.skip))) ?_
          refine lstepB rfl rfl rfl (run_call1 cb14 (.cons (.tmp rfl) .nil) (fun w2 hS => bendQn x l1 l2 l3  w2 hmx ⟨spansAt_row (hS.mem (b := gO) (by repeat (first | exact List.Mem.head _ | apply List.Mem.tail))) iO, spansAt_row (hS.mem (b := gW) (by repeat (first | exact List.Mem.head _ | apply List.Mem.tail))) iW, spansAt_row (hS.mem (b := gD) (by repeat (first | exact List.Mem.head _ | apply List.Mem.tail))) iD⟩ hvx)) ?_
          refine lstepB rfl rfl rfl (run_move (.tmp rfl)) ?_
          refine lstepB rfl rfl rfl (run_extract (.tmp rfl) rfl) ?_
          refine lstepB rfl rfl rfl (run_extract (.tmp rfl) rfl) ?_
          refine lstep rfl rfl rfl (run_alloc zr28) ?_
          intro b17 _
          refine lstep0 rfl rfl (run_storeN (.tmp rfl) (.tmp rfl) rfl sz28 rfl (by repeat (first | exact Upd.here | apply Upd.there)) (by repeat (first | exact Put.done | apply Put.put | apply Put.skip))) ?_
          refine lstepB rfl rfl rfl (run_assign (.tmp rfl)) ?_
          refine lnil ?_
          refine xw_then ?_
          refine cw_seq ?_
          refine cw_region ?_
          refine lstepB rfl rfl rfl (run_loadN (.tmp rfl) kd24 sz24 (by repeat (first | exact List.Mem.head _ | apply List.Mem.tail)) (by repeat (first | exact Sub.done | apply Sub.take | apply Sub.skip))) ?_
          refine lstepB rfl rfl rfl (run_call1 cb20 (.cons (.tmp rfl) .nil) (fun w2 hS => worstQn f rfl rfl rfl  w2 hm (hf.kept hS.kept) hv)) ?_
          refine lstepB rfl rfl rfl (run_move (.tmp rfl)) ?_
          refine lstepB rfl rfl rfl (run_extract (.tmp rfl) rfl) ?_
          refine lstepB rfl rfl rfl (run_extract (.tmp rfl) rfl) ?_
          refine lstepB rfl rfl rfl (run_extract (.tmp rfl) rfl) ?_
          refine lstepB rfl rfl rfl (run_assign (.tmp rfl)) ?_
          refine lstepB rfl rfl rfl (run_assign (.tmp rfl)) ?_
          refine lstepB rfl rfl rfl (run_assign (.tmp rfl)) ?_
          refine lnil ?_
          refine xw_then ?_
          refine cw_seq ?_
          refine cw_region ?_
          refine lstepB rfl rfl rfl (run_loadN (.tmp rfl) kd24 sz24 (by repeat (first | exact List.Mem.head _ | apply List.Mem.tail)) (by repeat (first | exact Sub.done | apply Sub.take | apply Sub.skip))) ?_
          refine lstepB rfl rfl rfl (run_call1 cb20 (.cons (.tmp rfl) .nil) (fun w2 hS => worstQn x l1 l2 l3  w2 hmx ⟨spansAt_row (hS.mem (b := gO) (by repeat (first | exact List.Mem.head _ | apply List.Mem.tail))) iO, spansAt_row (hS.mem (b := gW) (by repeat (first | exact List.Mem.head _ | apply List.Mem.tail))) iW, spansAt_row (hS.mem (b := gD) (by repeat (first | exact List.Mem.head _ | apply List.Mem.tail))) iD⟩ hvx)) ?_
          refine lstepB rfl rfl rfl (run_move (.tmp rfl)) ?_
          refine lstepB rfl rfl rfl (run_extract (.tmp rfl) rfl) ?_
          refine lstepB rfl rfl rfl (run_extract (.tmp rfl) rfl) ?_
          refine lstepB rfl rfl rfl (run_extract (.tmp rfl) rfl) ?_
          refine lstepB rfl rfl rfl (run_assign (.tmp rfl)) ?_
          refine lstepB rfl rfl rfl (run_assign (.tmp rfl)) ?_
          refine lstepB rfl rfl rfl (run_assign (.tmp rfl)) ?_
          refine lnil ?_
          refine xw_then ?_
          refine cw_seq ?_
          refine cw_region ?_
          refine lstepB rfl rfl rfl (run_loadN (.tmp rfl) kd24 sz24 (by repeat (first | exact List.Mem.head _ | apply List.Mem.tail)) (by repeat (first | exact Sub.done | apply Sub.take | apply Sub.skip))) ?_
          refine lstepB rfl rfl rfl (run_move (.tmp rfl)) ?_
          refine lstepB rfl rfl rfl (run_call1 cb25 (.cons (.tmp rfl) (.cons (.tmp rfl) .nil)) (fun w2 hS => shallowQn f rfl rfl rfl least w2 hm (hf.kept hS.kept) hsf)) ?_
          refine lstepB rfl rfl rfl (run_move (.tmp rfl)) ?_
          refine lstepB rfl rfl rfl (run_extract (.tmp rfl) rfl) ?_
          refine lstepB rfl rfl rfl (run_extract (.tmp rfl) rfl) ?_
          refine lstepB rfl rfl rfl (run_extract (.tmp rfl) rfl) ?_
          refine lstepB rfl rfl rfl (run_assign (.tmp rfl)) ?_
          refine lstepB rfl rfl rfl (run_assign (.tmp rfl)) ?_
          refine lstepB rfl rfl rfl (run_assign (.tmp rfl)) ?_
          refine lnil ?_
          refine xw_then ?_
          refine cw_seq ?_
          refine cw_region ?_
          refine lstepB rfl rfl rfl (run_loadN (.tmp rfl) kd24 sz24 (by repeat (first | exact List.Mem.head _ | apply List.Mem.tail)) (by repeat (first | exact Sub.done | apply Sub.take | apply Sub.skip))) ?_
          refine lstepB rfl rfl rfl (run_move (.tmp rfl)) ?_
          refine lstepB rfl rfl rfl (run_call1 cb25 (.cons (.tmp rfl) (.cons (.tmp rfl) .nil)) (fun w2 hS => shallowQn x l1 l2 l3 least w2 hmx ⟨spansAt_row (hS.mem (b := gO) (by repeat (first | exact List.Mem.head _ | apply List.Mem.tail))) iO, spansAt_row (hS.mem (b := gW) (by repeat (first | exact List.Mem.head _ | apply List.Mem.tail))) iW, spansAt_row (hS.mem (b := gD) (by repeat (first | exact List.Mem.head _ | apply List.Mem.tail))) iD⟩ hsx)) ?_
          refine lstepB rfl rfl rfl (run_move (.tmp rfl)) ?_
          refine lstepB rfl rfl rfl (run_extract (.tmp rfl) rfl) ?_
          refine lstepB rfl rfl rfl (run_extract (.tmp rfl) rfl) ?_
          refine lstepB rfl rfl rfl (run_extract (.tmp rfl) rfl) ?_
          refine lstepB rfl rfl rfl (run_assign (.tmp rfl)) ?_
          refine lstepB rfl rfl rfl (run_assign (.tmp rfl)) ?_
          refine lstepB rfl rfl rfl (run_assign (.tmp rfl)) ?_
          refine lnil ?_
          refine xw_then ?_
          refine cw_seq ?_
          refine cw_region ?_
          refine lstepB rfl rfl rfl (run_loadN (.tmp rfl) kd24 sz24 (by repeat (first | exact List.Mem.head _ | apply List.Mem.tail)) (by repeat (first | exact Sub.done | apply Sub.take | apply Sub.skip))) ?_
          refine lstepB rfl rfl rfl (run_call1 cb27 (.cons (.tmp rfl) .nil) (fun w2 hS => soilQn f rfl rfl rfl  w2 hm (hf.kept hS.kept) hv)) ?_
          refine lstepB rfl rfl rfl (run_move (.tmp rfl)) ?_
          refine lstepB rfl rfl rfl (run_extract (.tmp rfl) rfl) ?_
          refine lstepB rfl rfl rfl (run_extract (.tmp rfl) rfl) ?_
          refine lstep rfl rfl rfl (run_alloc zr28) ?_
          intro b31 _
          refine lstep0 rfl rfl (run_storeN (.tmp rfl) (.tmp rfl) rfl sz28 rfl (by repeat (first | exact Upd.here | apply Upd.there)) (by repeat (first | exact Put.done | apply Put.put | apply Put.skip))) ?_
          refine lstepB rfl rfl rfl (run_assign (.tmp rfl)) ?_
          refine lnil ?_
          refine xw_then ?_
          refine cw_seq ?_
          refine cw_region ?_
          refine lstepB rfl rfl rfl (run_loadN (.tmp rfl) kd24 sz24 (by repeat (first | exact List.Mem.head _ | apply List.Mem.tail)) (by repeat (first | exact Sub.done | apply Sub.take | apply Sub.skip))) ?_
          refine lstepB rfl rfl rfl (run_call1 cb27 (.cons (.tmp rfl) .nil) (fun w2 hS => soilQn x l1 l2 l3  w2 hmx ⟨spansAt_row (hS.mem (b := gO) (by repeat (first | exact List.Mem.head _ | apply List.Mem.tail))) iO, spansAt_row (hS.mem (b := gW) (by repeat (first | exact List.Mem.head _ | apply List.Mem.tail))) iW, spansAt_row (hS.mem (b := gD) (by repeat (first | exact List.Mem.head _ | apply List.Mem.tail))) iD⟩ hvx)) ?_
          refine lstepB rfl rfl rfl (run_move (.tmp rfl)) ?_
          refine lstepB rfl rfl rfl (run_extract (.tmp rfl) rfl) ?_
          refine lstepB rfl rfl rfl (run_extract (.tmp rfl) rfl) ?_
          refine lstep rfl rfl rfl (run_alloc zr28) ?_
          intro b33 _
          refine lstep0 rfl rfl (run_storeN (.tmp rfl) (.tmp rfl) rfl sz28 rfl (by repeat (first | exact Upd.here | apply Upd.there)) (by repeat (first | exact Put.done | apply Put.put | apply Put.skip))) ?_
          refine lstepB rfl rfl rfl (run_assign (.tmp rfl)) ?_
          refine lnil ?_
          refine xw_then ?_
          refine cw_seq ?_
          refine cw_region ?_
          refine lstepB rfl rfl rfl (run_loadN (.tmp rfl) kd24 sz24 (by repeat (first | exact List.Mem.head _ | apply List.Mem.tail)) (by repeat (first | exact Sub.done | apply Sub.take | apply Sub.skip))) ?_
          refine lstepB rfl rfl rfl (run_move (.tmp rfl)) ?_
          refine lstepB rfl rfl rfl (run_call1 cb23 (.cons (.tmp rfl) (.cons (.tmp rfl) .nil)) (fun w2 hS => wrongQn f rfl rfl rfl most w2 hm (hf.kept hS.kept) hws)) ?_
          refine lstepB rfl rfl rfl (run_move (.tmp rfl)) ?_
          refine lstepB rfl rfl rfl (run_extract (.tmp rfl) rfl) ?_
          refine lstepB rfl rfl rfl (run_extract (.tmp rfl) rfl) ?_
          refine lstepB rfl rfl rfl (run_assign (.tmp rfl)) ?_
          refine lstepB rfl rfl rfl (run_assign (.tmp rfl)) ?_
          refine lnil ?_
          refine xw_then ?_
          refine cw_seq ?_
          refine cw_region ?_
          refine lstepB rfl rfl rfl (run_loadN (.tmp rfl) kd24 sz24 (by repeat (first | exact List.Mem.head _ | apply List.Mem.tail)) (by repeat (first | exact Sub.done | apply Sub.take | apply Sub.skip))) ?_
          refine lstepB rfl rfl rfl (run_move (.tmp rfl)) ?_
          refine lstepB rfl rfl rfl (run_call1 cb23 (.cons (.tmp rfl) (.cons (.tmp rfl) .nil)) (fun w2 hS => wrongQn x l1 l2 l3 most w2 hmx ⟨spansAt_row (hS.mem (b := gO) (by repeat (first | exact List.Mem.head _ | apply List.Mem.tail))) iO, spansAt_row (hS.mem (b := gW) (by repeat (first | exact List.Mem.head _ | apply List.Mem.tail))) iW, spansAt_row (hS.mem (b := gD) (by repeat (first | exact List.Mem.head _ | apply List.Mem.tail))) iD⟩ hwz)) ?_
          refine lstepB rfl rfl rfl (run_move (.tmp rfl)) ?_
          refine lstepB rfl rfl rfl (run_extract (.tmp rfl) rfl) ?_
          refine lstepB rfl rfl rfl (run_extract (.tmp rfl) rfl) ?_
          refine lstepB rfl rfl rfl (run_assign (.tmp rfl)) ?_
          refine lstepB rfl rfl rfl (run_assign (.tmp rfl)) ?_
          refine lnil ?_
          refine xw_then ?_
          refine cw_seq ?_
          refine cw_seq ?_
          refine cw_region ?_
          refine lstepB rfl rfl rfl (run_move (.tmp rfl)) ?_
          refine lstepB rfl rfl rfl (run_neq (.tmp rfl) .const (decide_eq_false (by omega))) ?_
          refine lstepB rfl rfl rfl (run_move (.tmp rfl)) ?_
          refine lyes rfl rfl rfl rfl ?_
          refine gstepB rfl rfl (run_move (.tmp rfl)) ?_
          refine lyes rfl rfl rfl rfl ?_
          refine gstepB rfl rfl (run_neq (.tmp rfl) .const (decide_eq_false (by omega))) ?_
          refine lstepB rfl rfl rfl (by first | exact run_pick_true (.tmp rfl) .const | exact run_pick_false (.tmp rfl) (.tmp rfl)) ?_
          refine lstepB rfl rfl rfl (run_move (.tmp rfl)) ?_
          refine lyes rfl rfl rfl rfl ?_
          refine gstepB rfl rfl (run_move (.tmp rfl)) ?_
          refine lyes rfl rfl rfl rfl ?_
          refine gstepB rfl rfl (run_neq (.tmp rfl) .const (decide_eq_false (by omega))) ?_
          refine lstepB rfl rfl rfl (by first | exact run_pick_true (.tmp rfl) .const | exact run_pick_false (.tmp rfl) (.tmp rfl)) ?_
          refine lstepB rfl rfl rfl (run_move (.tmp rfl)) ?_
          refine lyes rfl rfl rfl rfl ?_
          refine gstepB rfl rfl (run_move (.tmp rfl)) ?_
          refine lyes rfl rfl rfl rfl ?_
          refine gstepB rfl rfl (run_neq (.tmp rfl) .const (decide_eq_false (by omega))) ?_
          refine lstepB rfl rfl rfl (by first | exact run_pick_true (.tmp rfl) .const | exact run_pick_false (.tmp rfl) (.tmp rfl)) ?_
          refine lstepB rfl rfl rfl (run_move (.tmp rfl)) ?_
          refine lyes rfl rfl rfl rfl ?_
          refine gstepB rfl rfl (run_move (.tmp rfl)) ?_
          refine lyes rfl rfl rfl rfl ?_
          refine gstepB rfl rfl (run_neq (.tmp rfl) .const (decide_eq_false (by omega))) ?_
          refine lstepB rfl rfl rfl (by first | exact run_pick_true (.tmp rfl) .const | exact run_pick_false (.tmp rfl) (.tmp rfl)) ?_
          refine lstepB rfl rfl rfl (run_move (.tmp rfl)) ?_
          refine lyes rfl rfl rfl rfl ?_
          refine gstepB rfl rfl (run_move (.tmp rfl)) ?_
          refine lyes rfl rfl rfl rfl ?_
          refine gstepB rfl rfl (run_neq (.tmp rfl) .const (decide_eq_false (by omega))) ?_
          refine lstepB rfl rfl rfl (by first | exact run_pick_true (.tmp rfl) .const | exact run_pick_false (.tmp rfl) (.tmp rfl)) ?_
          refine lstepB rfl rfl rfl (run_move (.tmp rfl)) ?_
          refine lyes rfl rfl rfl rfl ?_
          refine gstepB rfl rfl (run_move (.tmp rfl)) ?_
          refine lyes rfl rfl rfl rfl ?_
          refine gstepB rfl rfl (run_move (.tmp rfl)) ?_
          refine lyes rfl rfl rfl rfl ?_
          refine gstepB rfl rfl (run_neq (.tmp rfl) (.tmp rfl) (decide_eq_false (by omega))) ?_
          refine lstepB rfl rfl rfl (by first | exact run_pick_true (.tmp rfl) .const | exact run_pick_false (.tmp rfl) (.tmp rfl)) ?_
          refine lstepB rfl rfl rfl (run_move (.tmp rfl)) ?_
          refine lyes rfl rfl rfl rfl ?_
          refine gstepB rfl rfl (run_move (.tmp rfl)) ?_
          refine lyes rfl rfl rfl rfl ?_
          refine gstepB rfl rfl (run_move (.tmp rfl)) ?_
          refine lyes rfl rfl rfl rfl ?_
          refine gstepB rfl rfl (run_neq (.tmp rfl) (.tmp rfl) (decide_eq_false (by omega))) ?_
          refine lstepB rfl rfl rfl (by first | exact run_pick_true (.tmp rfl) .const | exact run_pick_false (.tmp rfl) (.tmp rfl)) ?_
          refine lstepB rfl rfl rfl (run_move (.tmp rfl)) ?_
          refine lyes rfl rfl rfl rfl ?_
          refine gstepB rfl rfl (run_move (.tmp rfl)) ?_
          refine lyes rfl rfl rfl rfl ?_
          refine gstepB rfl rfl (run_loadN (.tmp rfl) kd28 sz28 (by repeat (first | exact List.Mem.head _ | apply List.Mem.tail)) (by repeat (first | exact Sub.done | apply Sub.take | apply Sub.skip))) ?_
          refine lyes rfl rfl rfl rfl ?_
          refine gstepB rfl rfl (run_loadN (.tmp rfl) kd28 sz28 (by repeat (first | exact List.Mem.head _ | apply List.Mem.tail)) (by repeat (first | exact Sub.done | apply Sub.take | apply Sub.skip))) ?_
          refine lyes rfl rfl rfl rfl ?_
          refine gstepB rfl rfl (run_callv1 cb38 (.tmp rfl) (.cons (.tmp rfl) (.cons (.tmp rfl) .nil)) rfl (fun w2 _ => (inSpK _ _ w2).as (congrArg Value.bool hin1))) ?_
          refine lyes rfl rfl rfl rfl ?_
          refine gstepB rfl rfl (run_not (.tmp rfl) (by first | exact Bool.not_true | exact Bool.not_false | exact rfl)) ?_
          refine lstepB rfl rfl rfl (by first | exact run_pick_true (.tmp rfl) .const | exact run_pick_false (.tmp rfl) (.tmp rfl)) ?_
          refine lstepB rfl rfl rfl (run_move (.tmp rfl)) ?_
          refine lyes rfl rfl rfl rfl ?_
          refine gstepB rfl rfl (run_move (.tmp rfl)) ?_
          refine lyes rfl rfl rfl rfl ?_
          refine gstepB rfl rfl (run_loadN (.tmp rfl) kd28 sz28 (by repeat (first | exact List.Mem.head _ | apply List.Mem.tail)) (by repeat (first | exact Sub.done | apply Sub.take | apply Sub.skip))) ?_
          refine lyes rfl rfl rfl rfl ?_
          refine gstepB rfl rfl (run_loadN (.tmp rfl) kd28 sz28 (by repeat (first | exact List.Mem.head _ | apply List.Mem.tail)) (by repeat (first | exact Sub.done | apply Sub.take | apply Sub.skip))) ?_
          refine lyes rfl rfl rfl rfl ?_
          refine gstepB rfl rfl (run_callv1 cb38 (.tmp rfl) (.cons (.tmp rfl) (.cons (.tmp rfl) .nil)) rfl (fun w2 _ => (inSpK _ _ w2).as (congrArg Value.bool hin2))) ?_
          refine lyes rfl rfl rfl rfl ?_
          refine gstepB rfl rfl (run_not (.tmp rfl) (by first | exact Bool.not_true | exact Bool.not_false | exact rfl)) ?_
          refine lstepB rfl rfl rfl (by first | exact run_pick_true (.tmp rfl) .const | exact run_pick_false (.tmp rfl) (.tmp rfl)) ?_
          refine lstepB rfl rfl rfl (run_move (.tmp rfl)) ?_
          refine lyes rfl rfl rfl rfl ?_
          refine gstepB rfl rfl (run_move (.tmp rfl)) ?_
          refine lyes rfl rfl rfl rfl ?_
          refine gstepB rfl rfl (run_move (.tmp rfl)) ?_
          refine lyes rfl rfl rfl rfl ?_
          refine gstepB rfl rfl (run_andNot (.tmp rfl) (.tmp rfl) (andNot_zero wf32.1 wx32.1 hsu)) ?_
          refine lyes rfl rfl rfl rfl ?_
          refine gstepB rfl rfl (run_neq (.tmp rfl) .const (decide_eq_false (by omega))) ?_
          refine lstepB rfl rfl rfl (by first | exact run_pick_true (.tmp rfl) .const | exact run_pick_false (.tmp rfl) (.tmp rfl)) ?_
          refine lstepB rfl rfl rfl (run_move (.tmp rfl)) ?_
          refine lyes rfl rfl rfl rfl ?_
          refine gstepB rfl rfl (run_move (.tmp rfl)) ?_
          refine lyes rfl rfl rfl rfl ?_
          refine gstepB rfl rfl (run_move (.tmp rfl)) ?_
          refine lyes rfl rfl rfl rfl ?_
          refine gstepB rfl rfl (run_andNot (.tmp rfl) (.tmp rfl) (andNot_zero wx32.2 wf32.2 hca)) ?_
          refine lyes rfl rfl rfl rfl ?_
          refine gstepB rfl rfl (run_neq (.tmp rfl) .const (decide_eq_false (by omega))) ?_
          refine lstepB rfl rfl rfl (by first | exact run_pick_true (.tmp rfl) .const | exact run_pick_false (.tmp rfl) (.tmp rfl)) ?_
          refine lstepB rfl rfl rfl (run_move (.tmp rfl)) ?_
          refine lyes rfl rfl rfl rfl ?_
          refine gstepB rfl rfl (run_move (.tmp rfl)) ?_
          refine lyes rfl rfl rfl rfl ?_
          refine gstepB rfl rfl (run_move (.tmp rfl)) ?_
          refine lyes rfl rfl rfl rfl ?_
          refine gstepB rfl rfl (run_andNot (.tmp rfl) (.tmp rfl) (andNot_zero sa32 sc32 hss)) ?_
          refine lyes rfl rfl rfl rfl ?_
          refine gstepB rfl rfl (run_neq (.tmp rfl) .const (decide_eq_false (by omega))) ?_
          refine lstepB rfl rfl rfl (by first | exact run_pick_true (.tmp rfl) .const | exact run_pick_false (.tmp rfl) (.tmp rfl)) ?_
          refine lstepB rfl rfl rfl (run_move (.tmp rfl)) ?_
          refine lyes rfl rfl rfl rfl ?_
          refine gstepB rfl rfl (run_move (.tmp rfl)) ?_
          refine lyes rfl rfl rfl rfl ?_
          refine gstepB rfl rfl (run_move (.tmp rfl)) ?_
          refine lyes rfl rfl rfl rfl ?_
          refine gstepB rfl rfl (run_andNot (.tmp rfl) (.tmp rfl) (andNot_zero sd32 sb32 hsp)) ?_
          refine lyes rfl rfl rfl rfl ?_
          refine gstepB rfl rfl (run_neq (.tmp rfl) .const (decide_eq_false (by omega))) ?_
          refine lstepB rfl rfl rfl (by first | exact run_pick_true (.tmp rfl) .const | exact run_pick_false (.tmp rfl) (.tmp rfl)) ?_
          refine lnil ?_
          refine xw_then ?_
          refine cw_cond_false (.tmp rfl) ?_
          refine cw_skip ?_
          refine xw_then ?_
          refine cw_seq ?_
          refine cw_region ?_
          refine lstepB rfl rfl rfl (run_move (.tmp rfl)) ?_
          refine lstepB rfl rfl rfl (run_geq (.tmp rfl) .const (decide_eq_true (by omega))) ?_
          refine lstepB rfl rfl rfl (run_move (.tmp rfl)) ?_
          refine lyes rfl rfl rfl rfl ?_
          refine gstepB rfl rfl (run_move (.tmp rfl)) ?_
          refine lyes rfl rfl rfl rfl ?_
          refine gstepB rfl rfl (run_geq (.tmp rfl) .const (decide_eq_true (by omega))) ?_
          refine lstepB rfl rfl rfl (by first | exact run_pick_true (.tmp rfl) (.tmp rfl) | exact run_pick_false (.tmp rfl) .const) ?_
          refine lstepB rfl rfl rfl (run_move (.tmp rfl)) ?_
          refine lyes rfl rfl rfl rfl ?_
          refine gstepB rfl rfl (run_move (.tmp rfl)) ?_
          refine lyes rfl rfl rfl rfl ?_
          refine gstepB rfl rfl (run_call1 cb36 (.cons (.tmp rfl) .nil) (fun w2 _ => sizeK wz wz256 w2)) ?_
          refine lyes rfl rfl rfl rfl ?_
          refine gstepB rfl rfl (run_move (.tmp rfl)) ?_
          refine lyes rfl rfl rfl rfl ?_
          refine gstepB rfl rfl (run_call1 cb36 (.cons (.tmp rfl) .nil) (fun w2 _ => sizeK ws ws256 w2)) ?_
          refine lyes rfl rfl rfl rfl ?_
          refine gstepB rfl rfl (run_geq (.tmp rfl) (.tmp rfl) (decide_eq_true (by omega))) ?_
          refine lstepB rfl rfl rfl (by first | exact run_pick_true (.tmp rfl) (.tmp rfl) | exact run_pick_false (.tmp rfl) .const) ?_
          refine lstepB rfl rfl rfl (run_move (.tmp rfl)) ?_
          refine lyes rfl rfl rfl rfl ?_
          refine gstepB rfl rfl (run_call1 cb13 .nil (fun w _ => aliveK w)) ?_
          refine lstepB rfl rfl rfl (by first | exact run_pick_true (.tmp rfl) (.tmp rfl) | exact run_pick_false (.tmp rfl) .const) ?_
          refine lstepB rfl rfl rfl (run_assign (.tmp rfl)) ?_
          refine lnil ?_
          refine xw_then ?_
          refine cw_ret ?_
          refine xw_ret1 Try.results10 rfl (fun w hS => ⟨rfl, hS.kept⟩)
  ·
    refine .mk <| enter (n := 268) Try.func10 rfl rfl rfl (by repeat (first | exact Fill.nil | apply Fill.cons)) ?_
    refine cw_seq ?_
    refine cw_region ?_
    refine lstep rfl rfl rfl (run_boxN (.tmp rfl)) ?_
    intro b4 _
    refine lstepB rfl rfl rfl (run_assign .const) ?_
    refine lnil ?_
    refine xw_then ?_
    refine cw_seq ?_
    refine cw_seq ?_
    refine cw_region ?_
    refine lstepB rfl rfl rfl (run_loadN (.tmp rfl) kd24 sz24 (by repeat (first | exact List.Mem.head _ | apply List.Mem.tail)) (by repeat (first | exact Sub.done | apply Sub.take | apply Sub.skip))) ?_
    refine lstepB rfl rfl rfl (run_call1 cb12 (.cons (.tmp rfl) (.cons .const (.cons .const .nil))) (fun w2 hS => (heavyK f _ _ _ oc wc dc 6 6 w2 hbnd (hf.kept hS.kept)).as (congrArg Value.bool hh))) ?_
    refine lstepB rfl rfl rfl (run_move (.tmp rfl)) ?_
    refine lskip rfl rfl rfl rfl rfl rfl rfl ?_
    refine lskip rfl rfl rfl rfl rfl rfl rfl ?_
    refine lskip rfl rfl rfl rfl rfl rfl rfl ?_
    refine lstepB rfl rfl rfl (by first | exact run_pick_true (.tmp rfl) .const | exact run_pick_false (.tmp rfl) (.tmp rfl)) ?_
    refine lstepB rfl rfl rfl (run_move (.tmp rfl)) ?_
    refine lskip rfl rfl rfl rfl rfl rfl rfl ?_
    refine lskip rfl rfl rfl rfl rfl rfl rfl ?_
    refine lskip rfl rfl rfl rfl rfl rfl rfl ?_
    refine lskip rfl rfl rfl rfl rfl rfl rfl ?_
    refine lstepB rfl rfl rfl (by first | exact run_pick_true (.tmp rfl) .const | exact run_pick_false (.tmp rfl) (.tmp rfl)) ?_
    refine lnil ?_
    refine xw_then ?_
    refine cw_cond_true (.tmp rfl) ?_
    refine cw_seq ?_
    refine cw_region ?_
    refine lstepB rfl rfl rfl (run_call1 cb13 .nil (fun w _ => aliveK w)) ?_
    refine lstepB rfl rfl rfl (run_assign (.tmp rfl)) ?_
    refine lnil ?_
    refine xw_then ?_
    refine cw_ret ?_
    refine xw_then_ret ?_
    refine xw_ret1 Try.results10 rfl (fun w hS => ⟨rfl, hS.kept⟩)
end Go.Proofs.Ytjdeplehhmhpcaa
