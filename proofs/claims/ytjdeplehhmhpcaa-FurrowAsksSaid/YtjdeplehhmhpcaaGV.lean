/- Furrow: the document's own Free, can, Wrong. -/
import Derived.Test.YtjdeplehhmhpcaaGU
import Derived.Test.YtjdeplehhmhpcaaGJ
namespace Go.Proofs.Ytjdeplehhmhpcaa
open Go.RowKit En

inductive FreR where
  | zero
  | one (a : Nat × Nat × List Value)
structure FreS where
  k : Nat
  rows : FreR
theorem alongU_succ (n : Nat) (G : Nat → SpanD) : alongL (n + 1) G = alongL n G ++ [G n] := by simp [alongL, List.range_succ]
theorem alongU_row {n cap : Nat} {cur : List Value} {G : Nat → SpanD} {s : SpanD} (e : s = G n) (h : InRow 2 (n + 1) cap cur (spansC (alongL n G) ++ spanC s)) : InRow 2 (n + 1) cap cur (spansC (alongL (n + 1) G)) := by
  subst e
  rw [alongU_succ, show spansC (alongL n G ++ [G n]) = spansC (alongL n G) ++ spanC (G n) from List.flatMap_append ..]
  exact h
set_option maxRecDepth 100000 in
set_option maxHeartbeats 4000000 in
theorem rfreeK (f : FurrowD) (oa wa da : Option Addr) (oc wc dc : Nat) (s : Nat) (hs : s < 256) (w : World) (hn1 : 1 ≤ f.offs.length) (hn8 : f.offs.length ≤ 8) (hf : FurrowAt w f oa wa da) : CallsF Try.prog 66 (([furrowV f oa wa da oc wc dc, .int .i64 (s : Int)] : List Value)).toArray w fun e w' => ∃ q : Nat × Nat × List Value, InRow 2 f.offs.length q.2.1 q.2.2 (spansC (freedL f.offs s)) ∧ e = .returned (.slice (some ⟨q.1, 0, none⟩) f.offs.length q.2.1) ∧ St w NoT [(q.1, Obj.cells q.2.2.toArray 28 (0, 0))] w' := by
  refine enter (n := 29) Try.func66 rfl rfl rfl (by repeat (first | exact Fill.nil | apply Fill.cons)) ?_
  refine cw_seq ?_
  refine cw_region ?_
  refine lstep rfl rfl rfl (run_boxN (.tmp rfl)) ?_
  intro b2 _
  refine lstepB rfl rfl rfl (run_assign .const) ?_
  refine lnil ?_
  refine xw_then ?_
  refine cw_seq ?_
  refine cw_region ?_
  refine lstepB rfl rfl rfl (run_assign .const) ?_
  refine lnil ?_
  refine xw_then ?_
  refine cw_seq ?_
  refine cw_seq ?_
  refine cw_region ?_
  refine lstepB rfl rfl rfl (run_assign .const) ?_
  refine lnil ?_
  refine xw_then ?_
  refine cw_block ?_
  refine cw_loop (S := FreS) (fun st => [(6, .int .i64 ((st.k : Nat) : Int)), (5, match st.rows with | .zero => .slice none 0 0 | .one a => .slice (some ⟨a.1, 0, none⟩) st.k a.2.1)]) [(1, _), (2, _)] (fun st => (match st.rows with | .zero => [] | .one a => [(a.1, Obj.cells a.2.2.toArray 28 (0, 0))]) ++ [(b2, Obj.cells (furrowC f oa wa da oc wc dc).toArray 24 (0, 0))]) (fun st => st.k ≤ f.offs.length ∧ match st.rows with | .zero => st.k = 0 | .one a => 0 < st.k ∧ InRow 2 st.k a.2.1 a.2.2 (spansC (alongL st.k (freedS f.offs s)))) (fun st => f.offs.length - st.k) ⟨0, .zero⟩ ⟨Nat.zero_le _, rfl⟩ (by repeat (first | exact Less.nil | refine Less.cons rfl ?_)) (by repeat (first | exact Pick.nil | (apply Pick.cons; focus (repeat (first | exact Del.here | apply Del.there))))) ?_
  intro st hs
  obtain ⟨k, rows⟩ := st
  obtain ⟨hk, hrows⟩ := hs
  dsimp only at hk hrows ⊢
  cases rows
  case zero =>
    dsimp only at hrows ⊢
    obtain rfl := hrows
    refine cw_seq ?_
    refine cw_seq ?_
    refine cw_region ?_
    refine lstepB rfl rfl rfl (run_move (.tmp rfl)) ?_
    refine lstepB rfl rfl rfl (run_fieldAddr (.tmp rfl) fa24_0 (by first | exact Nat.zero_add _ | exact rfl)) ?_
    refine lstepB rfl rfl rfl (run_load1 (.tmp rfl) kd22 (by repeat (first | exact List.Mem.head _ | apply List.Mem.tail)) (by exact rfl)) ?_
    refine lstepB rfl rfl rfl (run_len (.tmp rfl) sl22) ?_
    refine lstepB rfl rfl rfl (run_lss (.tmp rfl) (.tmp rfl) rfl) ?_
    refine lnil ?_
    refine xw_then ?_
    refine cw_cond_p (.tmp rfl) (fun hl => ?_) (fun hl => ?_)
    ·
      have hkn : 0 < f.offs.length := by omega
      obtain ⟨bo, oo, hoa, hbo, hco⟩ := hf.offs.span (by omega)
      subst hoa
      obtain ⟨sp, hsp⟩ : ∃ sp, sp = f.offs.getD 0 default := ⟨_, rfl⟩
      have hsk : f.offs[0]? = some sp := by rw [hsp]; exact getD_some hkn
      cases hb : s.testBit 0
      ·
        refine cw_skip ?_
        refine xw_then ?_
        refine cw_seq ?_
        refine cw_block ?_
        refine cw_seq ?_
        refine cw_region ?_
        refine lstepB rfl rfl rfl (run_fieldAddr (.tmp rfl) fa24_0 (by first | exact Nat.zero_add _ | exact rfl)) ?_
        refine lstepB rfl rfl rfl (run_load1 (.tmp rfl) kd22 (by repeat (first | exact List.Mem.head _ | apply List.Mem.tail)) (by exact rfl)) ?_
        refine lstepB rfl rfl rfl (run_move (.tmp rfl)) ?_
        refine lstepB rfl rfl rfl (run_indexAddr (i := 0) (off' := oo + 0 * 2) (.tmp rfl) (.tmp rfl) el22 (by omega) rfl) ?_
        refine lstepB rfl rfl rfl (run_loadN_at (l := spanC sp) (.tmp rfl) kd28 sz28 rfl (fun w' hS j v hj => hS.old_cell (fun h => h) (hco 0 sp hsk j v hj))) ?_
        refine lstep rfl rfl rfl (run_alloc zr28) ?_
        intro b7 _
        refine lstep0 rfl rfl (run_storeN (.tmp rfl) (.tmp rfl) rfl sz28 rfl (by repeat (first | exact Upd.here | apply Upd.there)) (by repeat (first | exact Put.done | apply Put.put | apply Put.skip))) ?_
        refine lnil ?_
        refine xw_then ?_
        refine cw_seq ?_
        refine cw_seq ?_
        refine cw_region ?_
        refine lstepB rfl rfl rfl (run_move (.tmp rfl)) ?_
        refine lstepB rfl rfl rfl (run_move (.tmp rfl)) ?_
        refine lstepB rfl rfl rfl (run_call1 cb99 (.cons (.tmp rfl) (.cons (.tmp rfl) .nil)) (fun w2 _ => (hasK s 0 (by omega) (by omega) w2).as (congrArg Value.bool hb))) ?_
        refine lnil ?_
        refine xw_then ?_
        refine cw_cond_false (.tmp rfl) ?_
        refine cw_skip ?_
        refine xw_then ?_
        refine cw_region ?_
        refine lstepB rfl rfl rfl (run_move (.tmp rfl)) ?_
        refine lstepB rfl rfl rfl (run_loadN (.tmp rfl) kd28 sz28 (by repeat (first | exact List.Mem.head _ | apply List.Mem.tail)) (by repeat (first | exact Sub.done | apply Sub.take | apply Sub.skip))) ?_
        refine lstep rfl rfl rfl (LR.runs (lr_buildSlice_at (.cons (.tmp rfl) .nil) (fun w => bs22_1_0 w)) (by repeat (first | exact Pick.nil | (apply Pick.cons; focus (repeat (first | exact Del.here | apply Del.there))))) (by repeat (first | exact Dels.nil | (apply Dels.cons; focus (repeat (first | exact Del.here | apply Del.there)))))) ?_
        intro b26 _
        refine lstep rfl rfl rfl (LR.runs (R := [(b26, _)]) (A := []) (lr_append_nil ap22 (.tmp rfl) (.tmp rfl) (news := spanC sp) rfl (by omega) (by omega) (by decide) (news_own (by repeat (first | exact List.Mem.head _ | apply List.Mem.tail)))) (by repeat (first | exact Pick.nil | (apply Pick.cons; focus (repeat (first | exact Del.here | apply Del.there))))) (by repeat (first | exact Dels.nil | (apply Dels.cons; focus (repeat (first | exact Del.here | apply Del.there)))))) ?_
        intro ⟨Y, cY, rY⟩ hY
        dsimp only at hY ⊢
        refine lstepB rfl rfl rfl (run_assign (.tmp rfl)) ?_
        refine lnil ?_
        refine xw_in ?_
        refine xw_then ?_
        refine cw_region ?_
        refine lstepB rfl rfl rfl (run_move (.tmp rfl)) ?_
        refine lstepB rfl rfl rfl (run_add (.tmp rfl) .const (by first | exact IntWalk.i64_in _ (by omega) | exact rfl)) ?_
        refine lstepB rfl rfl rfl (run_assign (.tmp rfl)) ?_
        refine lnil ?_
        exact xw_round ⟨0 + 1, .one (Y, cY, rY)⟩ ⟨by simp only; omega, by simp only; omega, alongU_row (n := 0) (G := freedS f.offs s) (by unfold freedS; rw [hb]; exact hsp) hY⟩ (by simp only; omega) (by repeat (first | exact Less.nil | refine Less.cons rfl ?_)) (by repeat (first | exact Pick.nil | (apply Pick.cons; focus (repeat (first | exact Del.here | apply Del.there)))))
      ·
        refine cw_skip ?_
        refine xw_then ?_
        refine cw_seq ?_
        refine cw_block ?_
        refine cw_seq ?_
        refine cw_region ?_
        refine lstepB rfl rfl rfl (run_fieldAddr (.tmp rfl) fa24_0 (by first | exact Nat.zero_add _ | exact rfl)) ?_
        refine lstepB rfl rfl rfl (run_load1 (.tmp rfl) kd22 (by repeat (first | exact List.Mem.head _ | apply List.Mem.tail)) (by exact rfl)) ?_
        refine lstepB rfl rfl rfl (run_move (.tmp rfl)) ?_
        refine lstepB rfl rfl rfl (run_indexAddr (i := 0) (off' := oo + 0 * 2) (.tmp rfl) (.tmp rfl) el22 (by omega) rfl) ?_
        refine lstepB rfl rfl rfl (run_loadN_at (l := spanC sp) (.tmp rfl) kd28 sz28 rfl (fun w' hS j v hj => hS.old_cell (fun h => h) (hco 0 sp hsk j v hj))) ?_
        refine lstep rfl rfl rfl (run_alloc zr28) ?_
        intro b7 _
        refine lstep0 rfl rfl (run_storeN (.tmp rfl) (.tmp rfl) rfl sz28 rfl (by repeat (first | exact Upd.here | apply Upd.there)) (by repeat (first | exact Put.done | apply Put.put | apply Put.skip))) ?_
        refine lnil ?_
        refine xw_then ?_
        refine cw_seq ?_
        refine cw_seq ?_
        refine cw_region ?_
        refine lstepB rfl rfl rfl (run_move (.tmp rfl)) ?_
        refine lstepB rfl rfl rfl (run_move (.tmp rfl)) ?_
        refine lstepB rfl rfl rfl (run_call1 cb99 (.cons (.tmp rfl) (.cons (.tmp rfl) .nil)) (fun w2 _ => (hasK s 0 (by omega) (by omega) w2).as (congrArg Value.bool hb))) ?_
        refine lnil ?_
        refine xw_then ?_
        refine cw_cond_true (.tmp rfl) ?_
        refine cw_region ?_
        refine lstepB rfl rfl rfl (run_build_at (.cons .const (.cons .const .nil)) (fun w => bd28_0_1 w)) ?_
        refine lstep0 rfl rfl (run_storeN (.tmp rfl) (.tmp rfl) rfl sz28 rfl (by repeat (first | exact Upd.here | apply Upd.there)) (by repeat (first | exact Put.done | apply Put.put | apply Put.skip))) ?_
        refine lnil ?_
        refine xw_then ?_
        refine cw_region ?_
        refine lstepB rfl rfl rfl (run_move (.tmp rfl)) ?_
        refine lstepB rfl rfl rfl (run_loadN (.tmp rfl) kd28 sz28 (by repeat (first | exact List.Mem.head _ | apply List.Mem.tail)) (by repeat (first | exact Sub.done | apply Sub.take | apply Sub.skip))) ?_
        refine lstep rfl rfl rfl (LR.runs (lr_buildSlice_at (.cons (.tmp rfl) .nil) (fun w => bs22_1_0 w)) (by repeat (first | exact Pick.nil | (apply Pick.cons; focus (repeat (first | exact Del.here | apply Del.there))))) (by repeat (first | exact Dels.nil | (apply Dels.cons; focus (repeat (first | exact Del.here | apply Del.there)))))) ?_
        intro b26 _
        refine lstep rfl rfl rfl (LR.runs (R := [(b26, _)]) (A := []) (lr_append_nil ap22 (.tmp rfl) (.tmp rfl) (news := spanC ⟨-12, 12⟩) rfl (by omega) (by omega) (by decide) (news_own (by repeat (first | exact List.Mem.head _ | apply List.Mem.tail)))) (by repeat (first | exact Pick.nil | (apply Pick.cons; focus (repeat (first | exact Del.here | apply Del.there))))) (by repeat (first | exact Dels.nil | (apply Dels.cons; focus (repeat (first | exact Del.here | apply Del.there)))))) ?_
        intro ⟨Y, cY, rY⟩ hY
        dsimp only at hY ⊢
        refine lstepB rfl rfl rfl (run_assign (.tmp rfl)) ?_
        refine lnil ?_
        refine xw_in ?_
        refine xw_then ?_
        refine cw_region ?_
        refine lstepB rfl rfl rfl (run_move (.tmp rfl)) ?_
        refine lstepB rfl rfl rfl (run_add (.tmp rfl) .const (by first | exact IntWalk.i64_in _ (by omega) | exact rfl)) ?_
        refine lstepB rfl rfl rfl (run_assign (.tmp rfl)) ?_
        refine lnil ?_
        exact xw_round ⟨0 + 1, .one (Y, cY, rY)⟩ ⟨by simp only; omega, by simp only; omega, alongU_row (n := 0) (G := freedS f.offs s) (by unfold freedS; rw [hb]; rfl) hY⟩ (by simp only; omega) (by repeat (first | exact Less.nil | refine Less.cons rfl ?_)) (by repeat (first | exact Pick.nil | (apply Pick.cons; focus (repeat (first | exact Del.here | apply Del.there)))))
    ·
      exfalso; omega
  case one qX =>
    obtain ⟨gX, cX, rX⟩ := qX
    dsimp only at hrows ⊢
    obtain ⟨kpos, hX⟩ := hrows
    refine cw_seq ?_
    refine cw_seq ?_
    refine cw_region ?_
    refine lstepB rfl rfl rfl (run_move (.tmp rfl)) ?_
    refine lstepB rfl rfl rfl (run_fieldAddr (.tmp rfl) fa24_0 (by first | exact Nat.zero_add _ | exact rfl)) ?_
    refine lstepB rfl rfl rfl (run_load1 (.tmp rfl) kd22 (by repeat (first | exact List.Mem.head _ | apply List.Mem.tail)) (by exact rfl)) ?_
    refine lstepB rfl rfl rfl (run_len (.tmp rfl) sl22) ?_
    refine lstepB rfl rfl rfl (run_lss (.tmp rfl) (.tmp rfl) rfl) ?_
    refine lnil ?_
    refine xw_then ?_
    refine cw_cond_p (.tmp rfl) (fun hl => ?_) (fun hl => ?_)
    ·
      have hkn : k < f.offs.length := by omega
      obtain ⟨bo, oo, hoa, hbo, hco⟩ := hf.offs.span (by omega)
      subst hoa
      obtain ⟨sp, hsp⟩ : ∃ sp, sp = f.offs.getD k default := ⟨_, rfl⟩
      have hsk : f.offs[k]? = some sp := by rw [hsp]; exact getD_some hkn
      cases hb : s.testBit k
      ·
        refine cw_skip ?_
        refine xw_then ?_
        refine cw_seq ?_
        refine cw_block ?_
        refine cw_seq ?_
        refine cw_region ?_
        refine lstepB rfl rfl rfl (run_fieldAddr (.tmp rfl) fa24_0 (by first | exact Nat.zero_add _ | exact rfl)) ?_
        refine lstepB rfl rfl rfl (run_load1 (.tmp rfl) kd22 (by repeat (first | exact List.Mem.head _ | apply List.Mem.tail)) (by exact rfl)) ?_
        refine lstepB rfl rfl rfl (run_move (.tmp rfl)) ?_
        refine lstepB rfl rfl rfl (run_indexAddr (i := k) (off' := oo + k * 2) (.tmp rfl) (.tmp rfl) el22 (by omega) rfl) ?_
        refine lstepB rfl rfl rfl (run_loadN_at (l := spanC sp) (.tmp rfl) kd28 sz28 rfl (fun w' hS j v hj => hS.old_cell (fun h => h) (hco k sp hsk j v hj))) ?_
        refine lstep rfl rfl rfl (run_alloc zr28) ?_
        intro b7 _
        refine lstep0 rfl rfl (run_storeN (.tmp rfl) (.tmp rfl) rfl sz28 rfl (by repeat (first | exact Upd.here | apply Upd.there)) (by repeat (first | exact Put.done | apply Put.put | apply Put.skip))) ?_
        refine lnil ?_
        refine xw_then ?_
        refine cw_seq ?_
        refine cw_seq ?_
        refine cw_region ?_
        refine lstepB rfl rfl rfl (run_move (.tmp rfl)) ?_
        refine lstepB rfl rfl rfl (run_move (.tmp rfl)) ?_
        refine lstepB rfl rfl rfl (run_call1 cb99 (.cons (.tmp rfl) (.cons (.tmp rfl) .nil)) (fun w2 _ => (hasK s k (by omega) (by omega) w2).as (congrArg Value.bool hb))) ?_
        refine lnil ?_
        refine xw_then ?_
        refine cw_cond_false (.tmp rfl) ?_
        refine cw_skip ?_
        refine xw_then ?_
        refine cw_region ?_
        refine lstepB rfl rfl rfl (run_move (.tmp rfl)) ?_
        refine lstepB rfl rfl rfl (run_loadN (.tmp rfl) kd28 sz28 (by repeat (first | exact List.Mem.head _ | apply List.Mem.tail)) (by repeat (first | exact Sub.done | apply Sub.take | apply Sub.skip))) ?_
        refine lstep rfl rfl rfl (LR.runs (lr_buildSlice_at (.cons (.tmp rfl) .nil) (fun w => bs22_1_0 w)) (by repeat (first | exact Pick.nil | (apply Pick.cons; focus (repeat (first | exact Del.here | apply Del.there))))) (by repeat (first | exact Dels.nil | (apply Dels.cons; focus (repeat (first | exact Del.here | apply Del.there)))))) ?_
        intro b26 _
        refine lstep rfl rfl rfl (LR.runs (R := [(b26, _)]) (A := [(gX, _)]) (lr_append_row ap22 (.tmp rfl) hX (.tmp rfl) (news := spanC sp) rfl rfl (by omega) (by unfold maxLen; omega) (news_own (by repeat (first | exact List.Mem.head _ | apply List.Mem.tail)))) (by repeat (first | exact Pick.nil | (apply Pick.cons; focus (repeat (first | exact Del.here | apply Del.there))))) (by repeat (first | exact Dels.nil | (apply Dels.cons; focus (repeat (first | exact Del.here | apply Del.there)))))) ?_
        intro ⟨Y, cY, rY⟩ hY
        dsimp only at hY ⊢
        refine lstepB rfl rfl rfl (run_assign (.tmp rfl)) ?_
        refine lnil ?_
        refine xw_in ?_
        refine xw_then ?_
        refine cw_region ?_
        refine lstepB rfl rfl rfl (run_move (.tmp rfl)) ?_
        refine lstepB rfl rfl rfl (run_add (.tmp rfl) .const (by first | exact IntWalk.i64_in _ (by omega) | exact rfl)) ?_
        refine lstepB rfl rfl rfl (run_assign (.tmp rfl)) ?_
        refine lnil ?_
        exact xw_round ⟨k + 1, .one (Y, cY, rY)⟩ ⟨by simp only; omega, by simp only; omega, alongU_row (n := k) (G := freedS f.offs s) (by unfold freedS; rw [hb]; exact hsp) hY⟩ (by simp only; omega) (by repeat (first | exact Less.nil | refine Less.cons rfl ?_)) (by repeat (first | exact Pick.nil | (apply Pick.cons; focus (repeat (first | exact Del.here | apply Del.there)))))
      ·
        refine cw_skip ?_
        refine xw_then ?_
        refine cw_seq ?_
        refine cw_block ?_
        refine cw_seq ?_
        refine cw_region ?_
        refine lstepB rfl rfl rfl (run_fieldAddr (.tmp rfl) fa24_0 (by first | exact Nat.zero_add _ | exact rfl)) ?_
        refine lstepB rfl rfl rfl (run_load1 (.tmp rfl) kd22 (by repeat (first | exact List.Mem.head _ | apply List.Mem.tail)) (by exact rfl)) ?_
        refine lstepB rfl rfl rfl (run_move (.tmp rfl)) ?_
        refine lstepB rfl rfl rfl (run_indexAddr (i := k) (off' := oo + k * 2) (.tmp rfl) (.tmp rfl) el22 (by omega) rfl) ?_
        refine lstepB rfl rfl rfl (run_loadN_at (l := spanC sp) (.tmp rfl) kd28 sz28 rfl (fun w' hS j v hj => hS.old_cell (fun h => h) (hco k sp hsk j v hj))) ?_
        refine lstep rfl rfl rfl (run_alloc zr28) ?_
        intro b7 _
        refine lstep0 rfl rfl (run_storeN (.tmp rfl) (.tmp rfl) rfl sz28 rfl (by repeat (first | exact Upd.here | apply Upd.there)) (by repeat (first | exact Put.done | apply Put.put | apply Put.skip))) ?_
        refine lnil ?_
        refine xw_then ?_
        refine cw_seq ?_
        refine cw_seq ?_
        refine cw_region ?_
        refine lstepB rfl rfl rfl (run_move (.tmp rfl)) ?_
        refine lstepB rfl rfl rfl (run_move (.tmp rfl)) ?_
        refine lstepB rfl rfl rfl (run_call1 cb99 (.cons (.tmp rfl) (.cons (.tmp rfl) .nil)) (fun w2 _ => (hasK s k (by omega) (by omega) w2).as (congrArg Value.bool hb))) ?_
        refine lnil ?_
        refine xw_then ?_
        refine cw_cond_true (.tmp rfl) ?_
        refine cw_region ?_
        refine lstepB rfl rfl rfl (run_build_at (.cons .const (.cons .const .nil)) (fun w => bd28_0_1 w)) ?_
        refine lstep0 rfl rfl (run_storeN (.tmp rfl) (.tmp rfl) rfl sz28 rfl (by repeat (first | exact Upd.here | apply Upd.there)) (by repeat (first | exact Put.done | apply Put.put | apply Put.skip))) ?_
        refine lnil ?_
        refine xw_then ?_
        refine cw_region ?_
        refine lstepB rfl rfl rfl (run_move (.tmp rfl)) ?_
        refine lstepB rfl rfl rfl (run_loadN (.tmp rfl) kd28 sz28 (by repeat (first | exact List.Mem.head _ | apply List.Mem.tail)) (by repeat (first | exact Sub.done | apply Sub.take | apply Sub.skip))) ?_
        refine lstep rfl rfl rfl (LR.runs (lr_buildSlice_at (.cons (.tmp rfl) .nil) (fun w => bs22_1_0 w)) (by repeat (first | exact Pick.nil | (apply Pick.cons; focus (repeat (first | exact Del.here | apply Del.there))))) (by repeat (first | exact Dels.nil | (apply Dels.cons; focus (repeat (first | exact Del.here | apply Del.there)))))) ?_
        intro b26 _
        refine lstep rfl rfl rfl (LR.runs (R := [(b26, _)]) (A := [(gX, _)]) (lr_append_row ap22 (.tmp rfl) hX (.tmp rfl) (news := spanC ⟨-12, 12⟩) rfl rfl (by omega) (by unfold maxLen; omega) (news_own (by repeat (first | exact List.Mem.head _ | apply List.Mem.tail)))) (by repeat (first | exact Pick.nil | (apply Pick.cons; focus (repeat (first | exact Del.here | apply Del.there))))) (by repeat (first | exact Dels.nil | (apply Dels.cons; focus (repeat (first | exact Del.here | apply Del.there)))))) ?_
        intro ⟨Y, cY, rY⟩ hY
        dsimp only at hY ⊢
        refine lstepB rfl rfl rfl (run_assign (.tmp rfl)) ?_
        refine lnil ?_
        refine xw_in ?_
        refine xw_then ?_
        refine cw_region ?_
        refine lstepB rfl rfl rfl (run_move (.tmp rfl)) ?_
        refine lstepB rfl rfl rfl (run_add (.tmp rfl) .const (by first | exact IntWalk.i64_in _ (by omega) | exact rfl)) ?_
        refine lstepB rfl rfl rfl (run_assign (.tmp rfl)) ?_
        refine lnil ?_
        exact xw_round ⟨k + 1, .one (Y, cY, rY)⟩ ⟨by simp only; omega, by simp only; omega, alongU_row (n := k) (G := freedS f.offs s) (by unfold freedS; rw [hb]; rfl) hY⟩ (by simp only; omega) (by repeat (first | exact Less.nil | refine Less.cons rfl ?_)) (by repeat (first | exact Pick.nil | (apply Pick.cons; focus (repeat (first | exact Del.here | apply Del.there)))))
    ·
      obtain rfl : k = f.offs.length := by omega
      refine cw_exit ?_
      refine xw_then_exit ?_
      refine xw_then_exit ?_
      refine xw_in_exit ?_
      refine xw_then ?_
      refine cw_seq ?_
      refine cw_region ?_
      refine lstepB rfl rfl rfl (run_move (.tmp rfl)) ?_
      refine lstepB rfl rfl rfl (run_assign (.tmp rfl)) ?_
      refine lnil ?_
      refine xw_then ?_
      refine cw_ret ?_
      refine xw_ret1 Try.results66 rfl (fun w hS => ⟨(gX, cX, rX), hX, rfl, hS.pick (by repeat (first | exact Pick.nil | (apply Pick.cons; focus (repeat (first | exact Del.here | apply Del.there)))))⟩)
/-- Can the bend be at most so much, with some offsets to begin with? -/
def canF (L : List SpanD) (m : Int) : Nat → List Int → Bool
  | 0, _ => true
  | d + 1, t => (upL (L.getD t.length default).lo (L.getD t.length default).hi).any fun o => (decide (t.length < 2) || decide (bentT (t ++ [o]) (t.length - 1) ≤ m)) && canF L m d (t ++ [o])
def ExtF (L : List SpanD) (m : Int) (t u : List Int) : Prop := Inn L u ∧ u.take t.length = t ∧ ∀ k, Inner L k → t.length ≤ k + 1 → bentT u k ≤ m
theorem getD_take {u t : List Int} {n j : Nat} (h : u.take n = t) (hj : j < n) : u.getD j 0 = t.getD j 0 := by
  rw [← h, List.getD_eq_getElem?_getD, List.getD_eq_getElem?_getD, List.getElem?_take, if_pos hj]
theorem canF_iff {L : List SpanD} {m : Int} : ∀ (d : Nat) (t : List Int), L.length = t.length + d → (∀ j, j < t.length → (L.getD j default).lo ≤ t.getD j 0 ∧ t.getD j 0 ≤ (L.getD j default).hi) → (canF L m d t = true ↔ ∃ u, ExtF L m t u)
  | 0, t, hl, ht => by
    simp only [canF, true_iff]
    exact ⟨t, ⟨by omega, fun j hj => ht j (by omega)⟩, List.take_length, fun k hk hk2 => by unfold Inner at hk; omega⟩
  | d + 1, t, hl, ht => by
    simp only [canF, List.any_eq_true, Bool.and_eq_true, Bool.or_eq_true, decide_eq_true_eq]
    have hlen : ∀ o : Int, (t ++ [o]).length = t.length + 1 := fun o => by simp
    have hget : ∀ (o : Int) (j : Nat), j < t.length → (t ++ [o]).getD j 0 = t.getD j 0 := fun o j hj => by rw [List.getD_eq_getElem?_getD, List.getElem?_append_left hj, ← List.getD_eq_getElem?_getD]
    have hend : ∀ o : Int, (t ++ [o]).getD t.length 0 = o := fun o => by rw [List.getD_eq_getElem?_getD, List.getElem?_append_right (Nat.le_refl _)]; simp
    have key : ∀ o : Int, (L.getD t.length default).lo ≤ o ∧ o ≤ (L.getD t.length default).hi → ∀ j, j < (t ++ [o]).length → (L.getD j default).lo ≤ (t ++ [o]).getD j 0 ∧ (t ++ [o]).getD j 0 ≤ (L.getD j default).hi := fun o ho j hj => by
      rw [hlen] at hj
      rcases Nat.lt_or_ge j t.length with h | h
      · rw [hget o j h]; exact ht j h
      · obtain rfl : j = t.length := by omega
        rw [hend]; exact ho
    have same : ∀ (o : Int) (u : List Int), u.take (t.length + 1) = t ++ [o] → 2 ≤ t.length → bentT u (t.length - 1) = bentT (t ++ [o]) (t.length - 1) := fun o u hu h2 => by
      unfold bentT
      rw [getD_take hu (show t.length - 1 - 1 < t.length + 1 by omega), getD_take hu (show t.length - 1 < t.length + 1 by omega), getD_take hu (show t.length - 1 + 1 < t.length + 1 by omega)]
    constructor
    · rintro ⟨o, ho, hb, hc⟩
      obtain ⟨u, hu1, hu2, hu3⟩ := (canF_iff d (t ++ [o]) (by rw [hlen]; omega) (key o (mem_upL.1 ho))).1 hc
      rw [hlen] at hu2 hu3
      refine ⟨u, hu1, ?_, fun k hk hk2 => ?_⟩
      · have h1 : (u.take (t.length + 1)).take t.length = u.take t.length := by rw [List.take_take]; congr 1; omega
        rw [← h1, hu2, List.take_left']
        rfl
      · rcases Nat.lt_or_ge t.length (k + 1) with h | h
        · exact hu3 k hk (by omega)
        · have hk1 := hk.1
          obtain rfl : k = t.length - 1 := by omega
          rw [same o u hu2 (by omega)]
          rcases hb with hb | hb
          · omega
          · exact hb
    · rintro ⟨u, hu1, hu2, hu3⟩
      have hul : u.length = L.length := hu1.1
      have hut : u.take (t.length + 1) = t ++ [u.getD t.length 0] := by
        rw [List.take_add_one, hu2, getI_some (show t.length < u.length by omega)]; rfl
      have hin := hu1.2 t.length (by omega)
      refine ⟨u.getD t.length 0, mem_upL.2 hin, ?_, ?_⟩
      · rcases Nat.lt_or_ge t.length 2 with h | h
        · exact .inl h
        · right
          rw [← same _ u hut h]
          exact hu3 (t.length - 1) ⟨by omega, by omega⟩ (by omega)
      · exact (canF_iff d (t ++ [u.getD t.length 0]) (by rw [hlen]; omega) (key _ hin)).2 ⟨u, hu1, by rw [hlen]; exact hut, fun k hk hk2 => hu3 k hk (by rw [hlen] at hk2; omega)⟩
theorem canF_most {L : List SpanD} {m : Int} : canF L m L.length [] = canMost L m := by
  rw [Bool.eq_iff_iff, canF_iff L.length [] (by simp) (fun j hj => absurd hj (Nat.not_lt_zero j)), canMost_iff]
  constructor
  · rintro ⟨u, h1, _, h3⟩; exact ⟨u, h1, fun k hk => h3 k hk (by simp)⟩
  · rintro ⟨u, h1, h3⟩; exact ⟨u, h1, rfl, fun k hk _ => h3 k hk⟩
/-- One offset more: does it go on? -/
def testO (L : List SpanD) (m : Int) (d : Nat) (t : List Int) (o : Int) : Bool := (decide (t.length < 2) || decide (bentT (t ++ [o]) (t.length - 1) ≤ m)) && canF L m d (t ++ [o])
theorem canF_succ (L : List SpanD) (m : Int) (d : Nat) (t : List Int) : canF L m (d + 1) t = (upL (L.getD t.length default).lo (L.getD t.length default).hi).any (testO L m d t) := rfl
theorem ints_plain (l : List Int) : (intsV l).all plainV = true := by
  rw [List.all_eq_true]
  intro v hv
  obtain ⟨x, _, rfl⟩ := List.mem_map.1 hv
  rfl
theorem ints_at {l : List Int} {j : Nat} {v : Value} (h : (intsV l)[j]? = some v) : ∃ x, l[j]? = some x ∧ .int .i64 x = v := by
  rw [intsV, List.getElem?_map] at h
  exact Option.map_eq_some_iff.1 h
set_option maxRecDepth 100000 in
set_option maxHeartbeats 4000000 in
theorem canK {L : List SpanD} (hfine : FineC L) (hL : L.length ≤ 100) (m : Int) : ∀ (d : Nat) (t : List Int), L.length = t.length + d → (∀ j, j < t.length → (L.getD j default).lo ≤ t.getD j 0 ∧ t.getD j 0 ≤ (L.getD j default).hi) → SmallL t → ∀ (sa : Option Addr) (sc : Nat) (a : Option Addr) (c : Nat) (w : World), SpansAt w sa L → IntsAt w a t → Gives Try.prog 65 [.slice sa L.length sc, .int .i64 m, .slice a t.length c] w (.bool (canF L m d t)) := by
  intro d
  induction d with
  | zero =>
    intro t hl hlo hts sa sc a c w hq hp
    unfold canF
    refine .mk <| enter (n := 52) Try.func65 rfl rfl rfl (by repeat (first | exact Fill.nil | apply Fill.cons)) ?_
    refine cw_seq ?_
    refine cw_region ?_
    refine lstepB rfl rfl rfl (run_assign .const) ?_
    refine lnil ?_
    refine xw_then ?_
    refine cw_seq ?_
    refine cw_region ?_
    refine lstepB rfl rfl rfl (run_move (.tmp rfl)) ?_
    refine lstepB rfl rfl rfl (run_len (.tmp rfl) sl33) ?_
    refine lstepB rfl rfl rfl (run_assign (.tmp rfl)) ?_
    refine lnil ?_
    refine xw_then ?_
    refine cw_seq ?_
    refine cw_seq ?_
    refine cw_region ?_
    refine lstepB rfl rfl rfl (run_move (.tmp rfl)) ?_
    refine lstepB rfl rfl rfl (run_move (.tmp rfl)) ?_
    refine lstepB rfl rfl rfl (run_len (.tmp rfl) sl22) ?_
    refine lstepB rfl rfl rfl (run_eql (.tmp rfl) (.tmp rfl) (decide_eq_true (by omega))) ?_
    refine lnil ?_
    refine xw_then ?_
    refine cw_cond_true (.tmp rfl) ?_
    refine cw_seq ?_
    refine cw_region ?_
    refine lstepB rfl rfl rfl (run_assign .const) ?_
    refine lnil ?_
    refine xw_then ?_
    refine cw_ret ?_
    refine xw_then_ret ?_
    refine xw_ret1 Try.results65 rfl (fun w hS => ⟨rfl, hS.kept⟩)
  | succ d ih =>
    intro t hl hlo hts sa sc a c w hq hp
    rw [canF_succ]
    have htl : t.length < L.length := by omega
    obtain ⟨bo, oo, hoa, hbo, hco⟩ := hq.span (by omega)
    subst hoa
    obtain ⟨sp, hsp⟩ : ∃ sp, sp = L.getD t.length default := ⟨_, rfl⟩
    have hsk : L[t.length]? = some sp := by rw [hsp]; exact getD_some htl
    have hfi := hfine sp (List.mem_of_getElem? hsk)
    rw [← hsp]
    obtain ⟨R, hR⟩ : ∃ R, R = (upL sp.lo sp.hi).any (testO L m d t) := ⟨_, rfl⟩
    rw [← hR]
    refine .mk <| enter (n := 52) Try.func65 rfl rfl rfl (by repeat (first | exact Fill.nil | apply Fill.cons)) ?_
    refine cw_seq ?_
    refine cw_region ?_
    refine lstepB rfl rfl rfl (run_assign .const) ?_
    refine lnil ?_
    refine xw_then ?_
    refine cw_seq ?_
    refine cw_region ?_
    refine lstepB rfl rfl rfl (run_move (.tmp rfl)) ?_
    refine lstepB rfl rfl rfl (run_len (.tmp rfl) sl33) ?_
    refine lstepB rfl rfl rfl (run_assign (.tmp rfl)) ?_
    refine lnil ?_
    refine xw_then ?_
    refine cw_seq ?_
    refine cw_seq ?_
    refine cw_region ?_
    refine lstepB rfl rfl rfl (run_move (.tmp rfl)) ?_
    refine lstepB rfl rfl rfl (run_move (.tmp rfl)) ?_
    refine lstepB rfl rfl rfl (run_len (.tmp rfl) sl22) ?_
    refine lstepB rfl rfl rfl (run_eql (.tmp rfl) (.tmp rfl) (decide_eq_false (by omega))) ?_
    refine lnil ?_
    refine xw_then ?_
    refine cw_cond_false (.tmp rfl) ?_
    refine cw_skip ?_
    refine xw_then ?_
    refine cw_seq ?_
    refine cw_seq ?_
    refine cw_region ?_
    refine lstepB rfl rfl rfl (run_move (.tmp rfl)) ?_
    refine lstepB rfl rfl rfl (run_move (.tmp rfl)) ?_
    refine lstepB rfl rfl rfl (run_indexAddr (i := t.length) (off' := oo + t.length * 2) (.tmp rfl) (.tmp rfl) el22 (by omega) rfl) ?_
    refine lstepB rfl rfl rfl (run_fieldAddr (.tmp rfl) fa28_0 (by first | exact Nat.zero_add _ | exact rfl)) ?_
    refine lstepB rfl rfl rfl (run_load1_at (.tmp rfl) kd3 (fun w' hS => hS.old_cell (fun h => h) (hco t.length sp hsk 0 _ rfl))) ?_
    refine lstepB rfl rfl rfl (run_assign (.tmp rfl)) ?_
    refine lnil ?_
    refine xw_then ?_
    refine cw_block ?_
    have hz : sp.lo = sp.lo + ((0 : Nat) : Int) := by omega
    rw [hz]
    refine cw_loop (S := Nat) (fun j => [(8, .int .i64 (sp.lo + (j : Int)))]) [(0, _), (1, _), (2, _), (7, _)] (fun j => []) (fun j => j ≤ (sp.hi - sp.lo + 1).toNat ∧ ∀ i, i < j → testO L m d t (sp.lo + (i : Int)) = false) (fun j => (sp.hi - sp.lo + 1).toNat - j) 0 ⟨Nat.zero_le _, fun i h => absurd h (Nat.not_lt_zero i)⟩ (by repeat (first | exact Less.nil | refine Less.cons rfl ?_)) (by repeat (first | exact Pick.nil | (apply Pick.cons; focus (repeat (first | exact Del.here | apply Del.there))))) ?_
    intro j hs
    obtain ⟨hj, hno⟩ := hs
    refine cw_seq ?_
    refine cw_seq ?_
    refine cw_region ?_
    refine lstepB rfl rfl rfl (run_move (.tmp rfl)) ?_
    refine lstepB rfl rfl rfl (run_move (.tmp rfl)) ?_
    refine lstepB rfl rfl rfl (run_move (.tmp rfl)) ?_
    refine lstepB rfl rfl rfl (run_indexAddr (i := t.length) (off' := oo + t.length * 2) (.tmp rfl) (.tmp rfl) el22 (by omega) rfl) ?_
    refine lstepB rfl rfl rfl (run_fieldAddr (.tmp rfl) fa28_1 (by first | exact Nat.zero_add _ | exact rfl)) ?_
    refine lstepB rfl rfl rfl (run_load1_at (.tmp rfl) kd3 (fun w' hS => hS.old_cell (fun h => h) (hco t.length sp hsk 1 _ rfl))) ?_
    refine lstepB rfl rfl rfl (run_leq (.tmp rfl) (.tmp rfl) rfl) ?_
    refine lnil ?_
    refine xw_then ?_
    refine cw_cond_p (.tmp rfl) (fun hle => ?_) (fun hle => ?_)
    ·
      obtain ⟨o, ho⟩ : ∃ o, o = sp.lo + (j : Int) := ⟨_, rfl⟩
      rw [← ho] at hle ⊢
      have hmem : o ∈ upL sp.lo sp.hi := mem_upL.2 (by omega)
      have hlen : (t ++ [o]).length = t.length + 1 := by simp
      have hsm : SmallL (t ++ [o]) := fun x hx => by
        rcases List.mem_append.1 hx with h | h
        · exact hts x h
        · rw [List.mem_singleton] at h; subst h; omega
      have hin : ∀ j, j < (t ++ [o]).length → (L.getD j default).lo ≤ (t ++ [o]).getD j 0 ∧ (t ++ [o]).getD j 0 ≤ (L.getD j default).hi := fun j hj => by
        rw [hlen] at hj
        rcases Nat.lt_or_ge j t.length with h | h
        · rw [List.getD_eq_getElem?_getD (l := t ++ [o]), List.getElem?_append_left h, ← List.getD_eq_getElem?_getD]; exact hlo j h
        · obtain rfl : j = t.length := by omega
          rw [List.getD_eq_getElem?_getD (l := t ++ [o]), List.getElem?_append_right (Nat.le_refl _), ← hsp]
          simp only [Nat.sub_self, List.getElem?_cons_zero, Option.getD_some]
          omega
      have hnext : testO L m d t o = false → ∀ i, i < j + 1 → testO L m d t (sp.lo + (i : Int)) = false := fun h i hi => by
        rcases Nat.lt_succ_iff_lt_or_eq.1 hi with h2 | h2
        · exact hno i h2
        · rw [h2, ← ho]; exact h
      have hyes : testO L m d t o = true → (upL sp.lo sp.hi).any (testO L m d t) = true := fun h => List.any_eq_true.2 ⟨o, hmem, h⟩
      rcases Nat.eq_zero_or_pos t.length with h0 | h0
      ·
        refine cw_skip ?_
        refine xw_then ?_
        refine cw_seq ?_
        refine cw_block ?_
        refine cw_seq ?_
        refine cw_region ?_
        refine lstep rfl rfl rfl (LR.runs (lr_buildSlice_at .nil (fun w => bs33_0_ w)) (by repeat (first | exact Pick.nil | (apply Pick.cons; focus (repeat (first | exact Del.here | apply Del.there))))) (by repeat (first | exact Dels.nil | (apply Dels.cons; focus (repeat (first | exact Del.here | apply Del.there)))))) ?_
        intro b31 _
        refine lstepB rfl rfl rfl (run_move (.tmp rfl)) ?_
        obtain rfl := List.eq_nil_of_length_eq_zero h0
        refine lstepB rfl rfl rfl (run_append_empty ap33 (.tmp rfl) (by omega) (.tmp rfl) rfl) ?_
        refine lstepB rfl rfl rfl (run_move (.tmp rfl)) ?_
        refine lstep rfl rfl rfl (LR.runs (lr_buildSlice_at (.cons (.tmp rfl) .nil) (fun w => bs33_1_0 w)) (by repeat (first | exact Pick.nil | (apply Pick.cons; focus (repeat (first | exact Del.here | apply Del.there))))) (by repeat (first | exact Dels.nil | (apply Dels.cons; focus (repeat (first | exact Del.here | apply Del.there)))))) ?_
        intro b35 _
        refine lstep rfl rfl rfl (LR.runs (R := [(b35, _)]) (A := [(b31, _)]) (lr_append_row ap33 (.tmp rfl) (xs := []) ⟨Nat.le_refl _, Nat.zero_le _, rfl, rfl⟩ (.tmp rfl) (news := [.int .i64 o]) rfl rfl (by omega) (by unfold maxLen; omega) (news_own (by repeat (first | exact List.Mem.head _ | apply List.Mem.tail)))) (by repeat (first | exact Pick.nil | (apply Pick.cons; focus (repeat (first | exact Del.here | apply Del.there))))) (by repeat (first | exact Dels.nil | (apply Dels.cons; focus (repeat (first | exact Del.here | apply Del.there)))))) ?_
        intro ⟨Y, cY, rY⟩ hY
        dsimp only at hY ⊢
        have hY2 : InRow 1 1 cY rY (intsV (([] : List Int) ++ [o])) := hY
        refine lstepB rfl rfl rfl (run_assign (.tmp rfl)) ?_
        refine lnil ?_
        refine xw_then ?_
        refine cw_seq ?_
        refine cw_region ?_
        refine lstepB rfl rfl rfl (run_move (.tmp rfl)) ?_
        refine lstepB rfl rfl rfl (run_lss (.tmp rfl) .const (decide_eq_true (by decide))) ?_
        refine lstepB rfl rfl rfl (run_move (.tmp rfl)) ?_
        refine lskip rfl rfl rfl rfl rfl rfl rfl ?_
        refine lskip rfl rfl rfl rfl rfl rfl rfl ?_
        refine lskip rfl rfl rfl rfl rfl rfl rfl ?_
        refine lskip rfl rfl rfl rfl rfl rfl rfl ?_
        refine lskip rfl rfl rfl rfl rfl rfl rfl ?_
        refine lskip rfl rfl rfl rfl rfl rfl rfl ?_
        refine lstepB rfl rfl rfl (by first | exact run_pick_true (.tmp rfl) .const | exact run_pick_false (.tmp rfl) (.tmp rfl)) ?_
        refine lnil ?_
        refine xw_then ?_
        refine cw_cond_true (.tmp rfl) ?_
        cases hc : canF L m d (([] : List Int) ++ [o])
        ·
          refine cw_seq ?_
          refine cw_region ?_
          refine lstepB rfl rfl rfl (run_move (.tmp rfl)) ?_
          refine lstepB rfl rfl rfl (run_move (.tmp rfl)) ?_
          refine lstepB rfl rfl rfl (run_move (.tmp rfl)) ?_
          refine lstepB rfl rfl rfl (run_call1 cb65 (.cons (.tmp rfl) (.cons (.tmp rfl) (.cons (.tmp rfl) .nil))) (fun w2 hS => by have h := ih (([] : List Int) ++ [o]) (by rw [hlen]; omega) hin hsm (some ⟨bo, oo, none⟩) sc (some ⟨Y, 0, none⟩) cY w2 (hq.kept hS.kept) (intsAt_row (hS.mem (b := Y) (by repeat (first | exact List.Mem.head _ | apply List.Mem.tail))) hY2); rw [hc] at h; exact h)) ?_
          refine lstepB rfl rfl rfl (run_assign (.tmp rfl)) ?_
          refine lnil ?_
          refine xw_then ?_
          refine cw_seq ?_
          refine cw_region ?_
          refine lstepB rfl rfl rfl (run_move (.tmp rfl)) ?_
          refine lnil ?_
          refine xw_then ?_
          refine cw_cond_false (.tmp rfl) ?_
          have hT : testO L m d ([] : List Int) o = false := by unfold testO; rw [hc, Bool.and_false]
          refine cw_skip ?_
          refine xw_in ?_
          refine xw_then ?_
          refine cw_region ?_
          refine lstepB rfl rfl rfl (run_move (.tmp rfl)) ?_
          refine lstepB rfl rfl rfl (run_add (c := sp.lo + ((j + 1 : Nat) : Int)) (.tmp rfl) .const (by rw [show sp.lo + ((j + 1 : Nat) : Int) = o + 1 by omega]; exact IntWalk.i64_in _ (by omega))) ?_
          refine lstepB rfl rfl rfl (run_assign (.tmp rfl)) ?_
          refine lnil ?_
          exact xw_round (j + 1) ⟨by omega, hnext hT⟩ (by show (sp.hi - sp.lo + 1).toNat - (j + 1) < (sp.hi - sp.lo + 1).toNat - j; omega) (by repeat (first | exact Less.nil | refine Less.cons rfl ?_)) (by repeat (first | exact Pick.nil | (apply Pick.cons; focus (repeat (first | exact Del.here | apply Del.there)))))
        ·
          refine cw_seq ?_
          refine cw_region ?_
          refine lstepB rfl rfl rfl (run_move (.tmp rfl)) ?_
          refine lstepB rfl rfl rfl (run_move (.tmp rfl)) ?_
          refine lstepB rfl rfl rfl (run_move (.tmp rfl)) ?_
          refine lstepB rfl rfl rfl (run_call1 cb65 (.cons (.tmp rfl) (.cons (.tmp rfl) (.cons (.tmp rfl) .nil))) (fun w2 hS => by have h := ih (([] : List Int) ++ [o]) (by rw [hlen]; omega) hin hsm (some ⟨bo, oo, none⟩) sc (some ⟨Y, 0, none⟩) cY w2 (hq.kept hS.kept) (intsAt_row (hS.mem (b := Y) (by repeat (first | exact List.Mem.head _ | apply List.Mem.tail))) hY2); rw [hc] at h; exact h)) ?_
          refine lstepB rfl rfl rfl (run_assign (.tmp rfl)) ?_
          refine lnil ?_
          refine xw_then ?_
          refine cw_seq ?_
          refine cw_region ?_
          refine lstepB rfl rfl rfl (run_move (.tmp rfl)) ?_
          refine lnil ?_
          refine xw_then ?_
          refine cw_cond_true (.tmp rfl) ?_
          have hT : testO L m d ([] : List Int) o = true := by unfold testO; rw [hc, show decide (([] : List Int).length < 2) = true from rfl, Bool.true_or]; rfl
          refine cw_seq ?_
          refine cw_region ?_
          refine lstepB rfl rfl rfl (run_assign .const) ?_
          refine lnil ?_
          refine xw_then ?_
          refine cw_ret ?_
          refine xw_in_ret ?_
          refine xw_then_ret ?_
          refine xw_then_ret ?_
          refine xw_in_ret ?_
          refine xw_then_ret ?_
          refine xw_ret1 Try.results65 rfl (fun w hS => ⟨by rw [hR, hyes hT], hS.kept⟩)
      ·
        refine cw_skip ?_
        refine xw_then ?_
        refine cw_seq ?_
        refine cw_block ?_
        refine cw_seq ?_
        refine cw_region ?_
        refine lstep rfl rfl rfl (LR.runs (lr_buildSlice_at .nil (fun w => bs33_0_ w)) (by repeat (first | exact Pick.nil | (apply Pick.cons; focus (repeat (first | exact Del.here | apply Del.there))))) (by repeat (first | exact Dels.nil | (apply Dels.cons; focus (repeat (first | exact Del.here | apply Del.there)))))) ?_
        intro b31 _
        refine lstepB rfl rfl rfl (run_move (.tmp rfl)) ?_
        obtain ⟨bt, ot, hta, hbt, hct⟩ := hp.int h0
        subst hta
        refine lstep rfl rfl rfl (LR.runs (R := []) (A := [(b31, _)]) (lr_append_row ap33 (.tmp rfl) (xs := []) ⟨Nat.le_refl _, Nat.zero_le _, rfl, rfl⟩ (.tmp rfl) (news := intsV t) (by simp [intsV]) (ints_plain t) (by omega) (by unfold maxLen; omega) (fun w' hS j v hj => by obtain ⟨x, hx, rfl⟩ := ints_at hj; exact hS.old_cell (fun h => h) (hct j x hx))) (by repeat (first | exact Pick.nil | (apply Pick.cons; focus (repeat (first | exact Del.here | apply Del.there))))) (by repeat (first | exact Dels.nil | (apply Dels.cons; focus (repeat (first | exact Del.here | apply Del.there)))))) ?_
        intro ⟨X, cX, rX⟩ hX
        dsimp only at hX ⊢
        rw [Nat.zero_add, List.nil_append] at hX
        simp only [Nat.zero_add]
        refine lstepB rfl rfl rfl (run_move (.tmp rfl)) ?_
        refine lstep rfl rfl rfl (LR.runs (lr_buildSlice_at (.cons (.tmp rfl) .nil) (fun w => bs33_1_0 w)) (by repeat (first | exact Pick.nil | (apply Pick.cons; focus (repeat (first | exact Del.here | apply Del.there))))) (by repeat (first | exact Dels.nil | (apply Dels.cons; focus (repeat (first | exact Del.here | apply Del.there)))))) ?_
        intro b35 _
        refine lstep rfl rfl rfl (LR.runs (R := [(b35, _)]) (A := [(X, _)]) (lr_append_row ap33 (.tmp rfl) hX (.tmp rfl) (news := [.int .i64 o]) rfl rfl (by omega) (by unfold maxLen; omega) (news_own (by repeat (first | exact List.Mem.head _ | apply List.Mem.tail)))) (by repeat (first | exact Pick.nil | (apply Pick.cons; focus (repeat (first | exact Del.here | apply Del.there))))) (by repeat (first | exact Dels.nil | (apply Dels.cons; focus (repeat (first | exact Del.here | apply Del.there)))))) ?_
        intro ⟨Y, cY, rY⟩ hY
        dsimp only at hY ⊢
        have hY2 : InRow 1 (t.length + 1) cY rY (intsV (t ++ [o])) := by rw [show intsV (t ++ [o]) = intsV t ++ [.int .i64 o] by simp [intsV]]; exact hY
        by_cases h2 : t.length < 2
        ·
          refine lstepB rfl rfl rfl (run_assign (.tmp rfl)) ?_
          refine lnil ?_
          refine xw_then ?_
          refine cw_seq ?_
          refine cw_region ?_
          refine lstepB rfl rfl rfl (run_move (.tmp rfl)) ?_
          refine lstepB rfl rfl rfl (run_lss (.tmp rfl) .const (decide_eq_true (by omega))) ?_
          refine lstepB rfl rfl rfl (run_move (.tmp rfl)) ?_
          refine lskip rfl rfl rfl rfl rfl rfl rfl ?_
          refine lskip rfl rfl rfl rfl rfl rfl rfl ?_
          refine lskip rfl rfl rfl rfl rfl rfl rfl ?_
          refine lskip rfl rfl rfl rfl rfl rfl rfl ?_
          refine lskip rfl rfl rfl rfl rfl rfl rfl ?_
          refine lskip rfl rfl rfl rfl rfl rfl rfl ?_
          refine lstepB rfl rfl rfl (by first | exact run_pick_true (.tmp rfl) .const | exact run_pick_false (.tmp rfl) (.tmp rfl)) ?_
          refine lnil ?_
          refine xw_then ?_
          refine cw_cond_true (.tmp rfl) ?_
          cases hc : canF L m d (t ++ [o])
          ·
            refine cw_seq ?_
            refine cw_region ?_
            refine lstepB rfl rfl rfl (run_move (.tmp rfl)) ?_
            refine lstepB rfl rfl rfl (run_move (.tmp rfl)) ?_
            refine lstepB rfl rfl rfl (run_move (.tmp rfl)) ?_
            refine lstepB rfl rfl rfl (run_call1 cb65 (.cons (.tmp rfl) (.cons (.tmp rfl) (.cons (.tmp rfl) .nil))) (fun w2 hS => by have h := ih (t ++ [o]) (by rw [hlen]; omega) hin hsm (some ⟨bo, oo, none⟩) sc (some ⟨Y, 0, none⟩) cY w2 (hq.kept hS.kept) (intsAt_row (hS.mem (b := Y) (by repeat (first | exact List.Mem.head _ | apply List.Mem.tail))) hY2); rw [hc] at h; rw [hlen] at h; exact h)) ?_
            refine lstepB rfl rfl rfl (run_assign (.tmp rfl)) ?_
            refine lnil ?_
            refine xw_then ?_
            refine cw_seq ?_
            refine cw_region ?_
            refine lstepB rfl rfl rfl (run_move (.tmp rfl)) ?_
            refine lnil ?_
            refine xw_then ?_
            refine cw_cond_false (.tmp rfl) ?_
            have hT : testO L m d t o = false := by unfold testO; rw [hc, Bool.and_false]
            refine cw_skip ?_
            refine xw_in ?_
            refine xw_then ?_
            refine cw_region ?_
            refine lstepB rfl rfl rfl (run_move (.tmp rfl)) ?_
            refine lstepB rfl rfl rfl (run_add (c := sp.lo + ((j + 1 : Nat) : Int)) (.tmp rfl) .const (by rw [show sp.lo + ((j + 1 : Nat) : Int) = o + 1 by omega]; exact IntWalk.i64_in _ (by omega))) ?_
            refine lstepB rfl rfl rfl (run_assign (.tmp rfl)) ?_
            refine lnil ?_
            exact xw_round (j + 1) ⟨by omega, hnext hT⟩ (by show (sp.hi - sp.lo + 1).toNat - (j + 1) < (sp.hi - sp.lo + 1).toNat - j; omega) (by repeat (first | exact Less.nil | refine Less.cons rfl ?_)) (by repeat (first | exact Pick.nil | (apply Pick.cons; focus (repeat (first | exact Del.here | apply Del.there)))))
          ·
            refine cw_seq ?_
            refine cw_region ?_
            refine lstepB rfl rfl rfl (run_move (.tmp rfl)) ?_
            refine lstepB rfl rfl rfl (run_move (.tmp rfl)) ?_
            refine lstepB rfl rfl rfl (run_move (.tmp rfl)) ?_
            refine lstepB rfl rfl rfl (run_call1 cb65 (.cons (.tmp rfl) (.cons (.tmp rfl) (.cons (.tmp rfl) .nil))) (fun w2 hS => by have h := ih (t ++ [o]) (by rw [hlen]; omega) hin hsm (some ⟨bo, oo, none⟩) sc (some ⟨Y, 0, none⟩) cY w2 (hq.kept hS.kept) (intsAt_row (hS.mem (b := Y) (by repeat (first | exact List.Mem.head _ | apply List.Mem.tail))) hY2); rw [hc] at h; rw [hlen] at h; exact h)) ?_
            refine lstepB rfl rfl rfl (run_assign (.tmp rfl)) ?_
            refine lnil ?_
            refine xw_then ?_
            refine cw_seq ?_
            refine cw_region ?_
            refine lstepB rfl rfl rfl (run_move (.tmp rfl)) ?_
            refine lnil ?_
            refine xw_then ?_
            refine cw_cond_true (.tmp rfl) ?_
            have hT : testO L m d t o = true := by unfold testO; rw [hc, decide_eq_true h2, Bool.true_or]; rfl
            refine cw_seq ?_
            refine cw_region ?_
            refine lstepB rfl rfl rfl (run_assign .const) ?_
            refine lnil ?_
            refine xw_then ?_
            refine cw_ret ?_
            refine xw_in_ret ?_
            refine xw_then_ret ?_
            refine xw_then_ret ?_
            refine xw_in_ret ?_
            refine xw_then_ret ?_
            refine xw_ret1 Try.results65 rfl (fun w hS => ⟨by rw [hR, hyes hT], hS.kept⟩)
        ·
          by_cases hb : bentT (t ++ [o]) (t.length - 1) ≤ m
          ·
            refine lstepB rfl rfl rfl (run_assign (.tmp rfl)) ?_
            refine lnil ?_
            refine xw_then ?_
            refine cw_seq ?_
            refine cw_region ?_
            refine lstepB rfl rfl rfl (run_move (.tmp rfl)) ?_
            refine lstepB rfl rfl rfl (run_lss (.tmp rfl) .const (decide_eq_false (by omega))) ?_
            refine lstepB rfl rfl rfl (run_move (.tmp rfl)) ?_
            refine lyes rfl rfl rfl rfl ?_
            refine gstepB rfl rfl (run_move (.tmp rfl)) ?_
            refine lyes rfl rfl rfl rfl ?_
            refine gstepB rfl rfl (run_move (.tmp rfl)) ?_
            refine lyes rfl rfl rfl rfl ?_
            refine gstepB rfl rfl (run_sub (c := ((t.length - 1 : Nat) : Int)) (.tmp rfl) .const (by rw [show ((t.length - 1 : Nat) : Int) = (t.length : Int) - 1 by omega]; exact IntWalk.i64_in _ (by omega))) ?_
            refine lyes rfl rfl rfl rfl ?_
            refine gstepB rfl rfl (run_call1 cb52 (.cons (.tmp rfl) (.cons (.tmp rfl) .nil)) (fun w2 hS => by have h := rbendK (t ++ [o]) (t.length - 1) (by omega) (by rw [hlen]; omega) (by rw [hlen]; omega) hsm (some ⟨Y, 0, none⟩) cY w2 (intsAt_row (hS.mem (b := Y) (by repeat (first | exact List.Mem.head _ | apply List.Mem.tail))) hY2); rw [hlen] at h; exact h)) ?_
            refine lyes rfl rfl rfl rfl ?_
            refine gstepB rfl rfl (run_move (.tmp rfl)) ?_
            refine lyes rfl rfl rfl rfl ?_
            refine gstepB rfl rfl (run_leq (.tmp rfl) (.tmp rfl) (decide_eq_true hb)) ?_
            refine lstepB rfl rfl rfl (by first | exact run_pick_true (.tmp rfl) .const | exact run_pick_false (.tmp rfl) (.tmp rfl)) ?_
            refine lnil ?_
            refine xw_then ?_
            refine cw_cond_true (.tmp rfl) ?_
            cases hc : canF L m d (t ++ [o])
            ·
              refine cw_seq ?_
              refine cw_region ?_
              refine lstepB rfl rfl rfl (run_move (.tmp rfl)) ?_
              refine lstepB rfl rfl rfl (run_move (.tmp rfl)) ?_
              refine lstepB rfl rfl rfl (run_move (.tmp rfl)) ?_
              refine lstepB rfl rfl rfl (run_call1 cb65 (.cons (.tmp rfl) (.cons (.tmp rfl) (.cons (.tmp rfl) .nil))) (fun w2 hS => by have h := ih (t ++ [o]) (by rw [hlen]; omega) hin hsm (some ⟨bo, oo, none⟩) sc (some ⟨Y, 0, none⟩) cY w2 (hq.kept hS.kept) (intsAt_row (hS.mem (b := Y) (by repeat (first | exact List.Mem.head _ | apply List.Mem.tail))) hY2); rw [hc] at h; rw [hlen] at h; exact h)) ?_
              refine lstepB rfl rfl rfl (run_assign (.tmp rfl)) ?_
              refine lnil ?_
              refine xw_then ?_
              refine cw_seq ?_
              refine cw_region ?_
              refine lstepB rfl rfl rfl (run_move (.tmp rfl)) ?_
              refine lnil ?_
              refine xw_then ?_
              refine cw_cond_false (.tmp rfl) ?_
              have hT : testO L m d t o = false := by unfold testO; rw [hc, Bool.and_false]
              refine cw_skip ?_
              refine xw_in ?_
              refine xw_then ?_
              refine cw_region ?_
              refine lstepB rfl rfl rfl (run_move (.tmp rfl)) ?_
              refine lstepB rfl rfl rfl (run_add (c := sp.lo + ((j + 1 : Nat) : Int)) (.tmp rfl) .const (by rw [show sp.lo + ((j + 1 : Nat) : Int) = o + 1 by omega]; exact IntWalk.i64_in _ (by omega))) ?_
              refine lstepB rfl rfl rfl (run_assign (.tmp rfl)) ?_
              refine lnil ?_
              exact xw_round (j + 1) ⟨by omega, hnext hT⟩ (by show (sp.hi - sp.lo + 1).toNat - (j + 1) < (sp.hi - sp.lo + 1).toNat - j; omega) (by repeat (first | exact Less.nil | refine Less.cons rfl ?_)) (by repeat (first | exact Pick.nil | (apply Pick.cons; focus (repeat (first | exact Del.here | apply Del.there)))))
            ·
              refine cw_seq ?_
              refine cw_region ?_
              refine lstepB rfl rfl rfl (run_move (.tmp rfl)) ?_
              refine lstepB rfl rfl rfl (run_move (.tmp rfl)) ?_
              refine lstepB rfl rfl rfl (run_move (.tmp rfl)) ?_
              refine lstepB rfl rfl rfl (run_call1 cb65 (.cons (.tmp rfl) (.cons (.tmp rfl) (.cons (.tmp rfl) .nil))) (fun w2 hS => by have h := ih (t ++ [o]) (by rw [hlen]; omega) hin hsm (some ⟨bo, oo, none⟩) sc (some ⟨Y, 0, none⟩) cY w2 (hq.kept hS.kept) (intsAt_row (hS.mem (b := Y) (by repeat (first | exact List.Mem.head _ | apply List.Mem.tail))) hY2); rw [hc] at h; rw [hlen] at h; exact h)) ?_
              refine lstepB rfl rfl rfl (run_assign (.tmp rfl)) ?_
              refine lnil ?_
              refine xw_then ?_
              refine cw_seq ?_
              refine cw_region ?_
              refine lstepB rfl rfl rfl (run_move (.tmp rfl)) ?_
              refine lnil ?_
              refine xw_then ?_
              refine cw_cond_true (.tmp rfl) ?_
              have hT : testO L m d t o = true := by unfold testO; rw [hc, decide_eq_true hb, Bool.or_true]; rfl
              refine cw_seq ?_
              refine cw_region ?_
              refine lstepB rfl rfl rfl (run_assign .const) ?_
              refine lnil ?_
              refine xw_then ?_
              refine cw_ret ?_
              refine xw_in_ret ?_
              refine xw_then_ret ?_
              refine xw_then_ret ?_
              refine xw_in_ret ?_
              refine xw_then_ret ?_
              refine xw_ret1 Try.results65 rfl (fun w hS => ⟨by rw [hR, hyes hT], hS.kept⟩)
          ·
            refine lstepB rfl rfl rfl (run_assign (.tmp rfl)) ?_
            refine lnil ?_
            refine xw_then ?_
            refine cw_seq ?_
            refine cw_region ?_
            refine lstepB rfl rfl rfl (run_move (.tmp rfl)) ?_
            refine lstepB rfl rfl rfl (run_lss (.tmp rfl) .const (decide_eq_false (by omega))) ?_
            refine lstepB rfl rfl rfl (run_move (.tmp rfl)) ?_
            refine lyes rfl rfl rfl rfl ?_
            refine gstepB rfl rfl (run_move (.tmp rfl)) ?_
            refine lyes rfl rfl rfl rfl ?_
            refine gstepB rfl rfl (run_move (.tmp rfl)) ?_
            refine lyes rfl rfl rfl rfl ?_
            refine gstepB rfl rfl (run_sub (c := ((t.length - 1 : Nat) : Int)) (.tmp rfl) .const (by rw [show ((t.length - 1 : Nat) : Int) = (t.length : Int) - 1 by omega]; exact IntWalk.i64_in _ (by omega))) ?_
            refine lyes rfl rfl rfl rfl ?_
            refine gstepB rfl rfl (run_call1 cb52 (.cons (.tmp rfl) (.cons (.tmp rfl) .nil)) (fun w2 hS => by have h := rbendK (t ++ [o]) (t.length - 1) (by omega) (by rw [hlen]; omega) (by rw [hlen]; omega) hsm (some ⟨Y, 0, none⟩) cY w2 (intsAt_row (hS.mem (b := Y) (by repeat (first | exact List.Mem.head _ | apply List.Mem.tail))) hY2); rw [hlen] at h; exact h)) ?_
            refine lyes rfl rfl rfl rfl ?_
            refine gstepB rfl rfl (run_move (.tmp rfl)) ?_
            refine lyes rfl rfl rfl rfl ?_
            refine gstepB rfl rfl (run_leq (.tmp rfl) (.tmp rfl) (decide_eq_false hb)) ?_
            refine lstepB rfl rfl rfl (by first | exact run_pick_true (.tmp rfl) .const | exact run_pick_false (.tmp rfl) (.tmp rfl)) ?_
            refine lnil ?_
            refine xw_then ?_
            refine cw_cond_false (.tmp rfl) ?_
            have hT : testO L m d t o = false := by unfold testO; rw [decide_eq_false h2, decide_eq_false hb]; rfl
            refine cw_skip ?_
            refine xw_in ?_
            refine xw_then ?_
            refine cw_region ?_
            refine lstepB rfl rfl rfl (run_move (.tmp rfl)) ?_
            refine lstepB rfl rfl rfl (run_add (c := sp.lo + ((j + 1 : Nat) : Int)) (.tmp rfl) .const (by rw [show sp.lo + ((j + 1 : Nat) : Int) = o + 1 by omega]; exact IntWalk.i64_in _ (by omega))) ?_
            refine lstepB rfl rfl rfl (run_assign (.tmp rfl)) ?_
            refine lnil ?_
            exact xw_round (j + 1) ⟨by omega, hnext hT⟩ (by show (sp.hi - sp.lo + 1).toNat - (j + 1) < (sp.hi - sp.lo + 1).toNat - j; omega) (by repeat (first | exact Less.nil | refine Less.cons rfl ?_)) (by repeat (first | exact Pick.nil | (apply Pick.cons; focus (repeat (first | exact Del.here | apply Del.there)))))
    ·
      have hall : (upL sp.lo sp.hi).any (testO L m d t) = false := by
        rw [List.any_eq_false]
        intro x hx
        have hx := mem_upL.1 hx
        have := hno (x - sp.lo).toNat (by omega)
        rw [show sp.lo + ((x - sp.lo).toNat : Int) = x by omega] at this
        rw [this]
        simp
      refine cw_exit ?_
      refine xw_then_exit ?_
      refine xw_then_exit ?_
      refine xw_in_exit ?_
      refine xw_then ?_
      refine cw_seq ?_
      refine cw_region ?_
      refine lstepB rfl rfl rfl (run_assign .const) ?_
      refine lnil ?_
      refine xw_then ?_
      refine cw_ret ?_
      refine xw_ret1 Try.results65 rfl (fun w hS => ⟨by rw [hR, hall], hS.kept⟩)
end Go.Proofs.Ytjdeplehhmhpcaa
