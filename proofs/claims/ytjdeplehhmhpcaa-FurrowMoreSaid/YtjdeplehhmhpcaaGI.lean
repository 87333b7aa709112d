/- Furrow: free, and what sets save. -/
import Derived.Test.YtjdeplehhmhpcaaGH
namespace Go.Proofs.Ytjdeplehhmhpcaa
open Go.RowKit En

theorem put_set2 : ∀ (cs : List Value) (k : Nat) (v u : Value), k + 1 < cs.length → Put cs k [v, u] ((cs.set k v).set (k + 1) u)
  | [], k, v, u, h => absurd h (by simp)
  | [x], k, v, u, h => absurd h (by simp)
  | x :: y :: r, 0, v, u, _ => .put (.put .done)
  | x :: y :: r, k + 1, v, u, h => .skip (put_set2 (y :: r) k v u (by simpa using h))
theorem spansC_set : ∀ (L : List SpanD) (k : Nat) (s : SpanD), k < L.length → ((spansC L).set (k * 2) (.int .i64 s.lo)).set (k * 2 + 1) (.int .i64 s.hi) = spansC (L.set k s)
  | [], k, s, h => absurd h (Nat.not_lt_zero k)
  | a :: r, 0, s, _ => rfl
  | a :: r, k + 1, s, h => by
    have ih := spansC_set r k s (by simpa using h)
    rw [show (k + 1) * 2 = k * 2 + 2 by omega, show k * 2 + 2 + 1 = (k * 2 + 1) + 2 by omega]
    show spanC a ++ ((spansC r).set (k * 2) (.int .i64 s.lo)).set (k * 2 + 1) (.int .i64 s.hi) = _
    rw [ih]
    rfl
theorem inrow_span {n cap : Nat} {cur : List Value} {L : List SpanD} {k : Nat} {s : SpanD} (h : InRow 2 n cap cur (spansC L)) (hn : L.length = n) (hk : k < n) : InRow 2 n cap ((cur.set (k * 2) (.int .i64 s.lo)).set (k * 2 + 1) (.int .i64 s.hi)) (spansC (L.set k s)) := by
  rw [← spansC_set L k s (by omega)]
  exact inrow_set (inrow_set h (by omega)) (by omega)
theorem spans_plain (l : List SpanD) : (spansC l).all plainV = true := by
  rw [List.all_eq_true]
  intro v hv
  obtain ⟨s, _, hs⟩ := List.mem_flatMap.1 hv
  simp only [spanC, List.mem_cons, List.not_mem_nil, or_false] at hs
  rcases hs with rfl | rfl <;> rfl
section
variable {P : Program} {E : Env} {w0 : World} {T : Nat → Prop} {H : Heap} {x y : Operand} {d : Option Tmp} {t tx ty tyy : TypeId} {pos : String} {af : Array Edge} {gd : Option (Nat × Bool)}
theorem run_append_empty {e sz by_ : Nat} {a1 a2 : Option Addr} {m cap c : Nat} (ht : appB P t e sz by_ = true) (hx : Ev E x (.slice a1 m cap)) {m2 : Nat} (hm : m ≤ cap) (hy : Ev E y (.slice a2 m2 c)) (hm2 : m2 = 0) :
    RunB P E w0 T H ⟨d, .call ⟨.builtin .append, [x, y].toArray, [t, t].toArray⟩, ty, pos, af, gd⟩ (.slice a1 m cap) := fun ρ w hρ hS => by
  subst hm2
  refine doneO rfl ?_
  have e1 := hρ x _ (by simp [Op.operands, Call.operands]) hx
  have e2 := hρ y _ (by simp [Op.operands, Call.operands]) hy
  obtain ⟨hsl, i, z, hi, hz, rfl, rfl, hzs⟩ := appT_of ht
  have hf : (Builtin.firstCells i.size 0 (.slice a2 0 c)).run P w = .ok #[] w := by
    cases a2 with
    | none => simp [run_firstCells_none]
    | some a =>
      have := run_firstCells_some (P := P) w i.size 0 a 0 c [] (by simp) (by simp)
      simpa using this
  have hr : (Builtin.append_ #[t, t] ty #[.slice a1 m cap, .slice a2 0 c]).run P w = .ok (.slice a1 m cap) w := by
    cases a1 <;> simp [Builtin.append_, run_underlying hsl, sizeOf, typeInfo, hi, Builtin.lenOf, hf, hm, storeCells]
  rw [done_append e1 e2 hr]
  exact ⟨rfl, Below.refl _ _⟩
end
/-- Stations of a set lie at some offset. -/
structure FreeOf (l L : List SpanD) (s : Nat) : Prop where
  len : L.length = l.length
  free : ∀ k, k < l.length → s.testBit k = true → -12 ≤ (L.getD k default).lo ∧ (L.getD k default).hi = (L.getD k default).lo ∧ (L.getD k default).lo ≤ 12
  own : ∀ k, k < l.length → s.testBit k = false → L.getD k default = l.getD k default
theorem getS_set {L : List SpanD} {i j : Nat} {s : SpanD} (hi : i < L.length) : (L.set i s).getD j default = if i = j then s else L.getD j default := by
  rw [List.getD_eq_getElem?_getD, List.getElem?_set, List.getD_eq_getElem?_getD]
  split
  · simp [hi]
  · rfl
theorem free_step1 {L : List SpanD} {k n s : Nat} {o : Int} (hkn : k < n) (hLl : L.length = n) (ho : -12 ≤ o ∧ o ≤ 12) (hfree : ∀ j, j < k → s.testBit j = true → -12 ≤ (L.getD j default).lo ∧ (L.getD j default).hi = (L.getD j default).lo ∧ (L.getD j default).lo ≤ 12) (j : Nat) (hj : j < k + 1) (hjb : s.testBit j = true) : -12 ≤ ((L.set k ⟨o, o⟩).getD j default).lo ∧ ((L.set k ⟨o, o⟩).getD j default).hi = ((L.set k ⟨o, o⟩).getD j default).lo ∧ ((L.set k ⟨o, o⟩).getD j default).lo ≤ 12 := by
  rw [getS_set (by omega)]
  split
  · exact ⟨ho.1, rfl, ho.2⟩
  · exact hfree j (by omega) hjb
theorem free_step2 {L M : List SpanD} {k n s : Nat} {o : Int} (hkn : k < n) (hLl : L.length = n) (hbit : s.testBit k = true) (hown : ∀ j, (k ≤ j ∨ s.testBit j = false) → L.getD j default = M.getD j default) (j : Nat) (hj : k + 1 ≤ j ∨ s.testBit j = false) : (L.set k ⟨o, o⟩).getD j default = M.getD j default := by
  rw [getS_set (by omega)]
  split
  · subst_vars
    rcases hj with h | h
    · omega
    · rw [hbit] at h; cases h
  · exact hown j (hj.imp (fun h => by omega) id)
theorem free_step3 {L : List SpanD} {k s : Nat} (hbit : s.testBit k = false) (hfree : ∀ j, j < k → s.testBit j = true → -12 ≤ (L.getD j default).lo ∧ (L.getD j default).hi = (L.getD j default).lo ∧ (L.getD j default).lo ≤ 12) (j : Nat) (hj : j < k + 1) (hjb : s.testBit j = true) : -12 ≤ (L.getD j default).lo ∧ (L.getD j default).hi = (L.getD j default).lo ∧ (L.getD j default).lo ≤ 12 := by
  rcases Nat.lt_succ_iff_lt_or_eq.1 hj with h | rfl
  · exact hfree j h hjb
  · rw [hbit] at hjb; cases hjb
set_option maxRecDepth 100000 in
set_option maxHeartbeats 4000000 in
theorem free_nil (f : FurrowD) (oa wa da : Option Addr) (oc wc dc : Nat) (s : Nat) (ba : Option Addr) (m : List Int) (bc : Nat) (w : World) (h0 : f.offs.length = 0) (hn : f.offs.length ≤ 8) (hs32 : s < 2 ^ 32) (hf : FurrowAt w f oa wa da) (hby : U8At w ba m) (hbm : m.length ≤ 9223372036854775807) : CallsF Try.prog 37 (([furrowV f oa wa da oc wc dc, .int .i64 (s : Int), .slice ba m.length bc] : List Value)).toArray w fun e w' => ∃ q : List SpanD × Nat × Nat × List Value, (FreeOf f.offs q.1 s ∧ InRow 2 f.offs.length q.2.2.1 q.2.2.2 (spansC q.1)) ∧ e = .returned (furrowV ⟨q.1, f.wids, f.deps⟩ (some ⟨q.2.1, 0, none⟩) wa da q.2.2.1 wc dc) ∧ St w NoT [(q.2.1, Obj.cells q.2.2.2.toArray 28 (0, 0))] w' := by
  refine enter (n := 49) Try.func37 rfl rfl rfl (by repeat (first | exact Fill.nil | apply Fill.cons)) ?_
  refine cw_seq ?_
  refine cw_region ?_
  refine lstep rfl rfl rfl (run_boxN (.tmp rfl)) ?_
  intro b3 _
  refine lstep rfl rfl rfl (run_alloc zr24) ?_
  intro b6 _
  refine lnil ?_
  refine xw_then ?_
  refine cw_seq ?_
  refine cw_region ?_
  refine lstepB rfl rfl rfl (run_loadN (.tmp rfl) kd24 sz24 (by repeat (first | exact List.Mem.head _ | apply List.Mem.tail)) (by repeat (first | exact Sub.done | apply Sub.take | apply Sub.skip))) ?_
  refine lstep rfl rfl rfl (run_alloc zr24) ?_
  intro b7 _
  refine lstep0 rfl rfl (run_storeN (.tmp rfl) (.tmp rfl) rfl sz24 rfl (by repeat (first | exact Upd.here | apply Upd.there)) (by repeat (first | exact Put.done | apply Put.put | apply Put.skip))) ?_
  refine lnil ?_
  refine xw_then ?_
  refine cw_seq ?_
  refine cw_region ?_
  refine lstep rfl rfl rfl (LR.runs (lr_buildSlice_at .nil (fun w => bs22_0_ w)) (by repeat (first | exact Pick.nil | (apply Pick.cons; focus (repeat (first | exact Del.here | apply Del.there))))) (by repeat (first | exact Dels.nil | (apply Dels.cons; focus (repeat (first | exact Del.here | apply Del.there)))))) ?_
  intro b11 _
  refine lstepB rfl rfl rfl (run_fieldAddr (.tmp rfl) fa24_0 (by first | exact Nat.zero_add _ | exact rfl)) ?_
  refine lstepB rfl rfl rfl (run_load1 (.tmp rfl) kd22 (by repeat (first | exact List.Mem.head _ | apply List.Mem.tail)) (by exact rfl)) ?_
  refine lstepB rfl rfl rfl (run_append_empty ap22 (.tmp rfl) (by omega) (.tmp rfl) h0) ?_
  refine lstepB rfl rfl rfl (run_fieldAddr (.tmp rfl) fa24_0 (by first | exact Nat.zero_add _ | exact rfl)) ?_
  refine lstep0 rfl rfl (run_store1 (.tmp rfl) (.tmp rfl) rfl sz22 (by repeat (first | exact Upd.here | apply Upd.there)) (by repeat (first | exact Put.done | apply Put.put | apply Put.skip))) ?_
  refine lnil ?_
  refine xw_then ?_
  refine cw_seq ?_
  refine cw_seq ?_
  refine cw_region ?_
  refine lstepB rfl rfl rfl (run_fieldAddr (.tmp rfl) fa24_0 (by first | exact Nat.zero_add _ | exact rfl)) ?_
  refine lstepB rfl rfl rfl (run_load1 (.tmp rfl) kd22 (by repeat (first | exact List.Mem.head _ | apply List.Mem.tail)) (by exact rfl)) ?_
  refine lstepB rfl rfl rfl (run_len (.tmp rfl) sl22) ?_
  refine lstepB rfl rfl rfl (run_move .const) ?_
  refine lnil ?_
  refine xw_then ?_
  refine cw_block ?_
  have hnil : f.offs = [] := List.eq_nil_of_length_eq_zero h0
  refine cw_loop (S := Nat) (fun k => [(19, .int .i64 (k : Int))]) [(0, _), (1, _), (2, _), (3, _), (6, _), (7, _), (17, _), (18, _)] (fun k => [(b11, _), (b6, _), (b7, _)]) (fun k => k = 0) (fun k => 0 - k) 0 rfl (by repeat (first | exact Less.nil | refine Less.cons rfl ?_)) (by repeat (first | exact Pick.nil | (apply Pick.cons; focus (repeat (first | exact Del.here | apply Del.there))))) ?_
  intro k hk
  subst hk
  refine cw_seq ?_
  refine cw_region ?_
  refine lstepB rfl rfl rfl (run_lss (.tmp rfl) (.tmp rfl) (by first | exact decide_eq_true (by omega) | exact decide_eq_false (by omega) | exact rfl)) ?_
  refine lnil ?_
  refine xw_then ?_
  refine cw_seq ?_
  refine cw_cond_false (.tmp rfl) ?_
  refine cw_exit ?_
  refine xw_then_exit ?_
  refine xw_then_exit ?_
  refine xw_in_exit ?_
  refine xw_then ?_
  refine cw_seq ?_
  refine cw_region ?_
  refine lstepB rfl rfl rfl (run_loadN (.tmp rfl) kd24 sz24 (by repeat (first | exact List.Mem.head _ | apply List.Mem.tail)) (by repeat (first | exact Sub.done | apply Sub.take | apply Sub.skip))) ?_
  refine lstep0 rfl rfl (run_storeN (.tmp rfl) (.tmp rfl) rfl sz24 rfl (by repeat (first | exact Upd.here | apply Upd.there)) (by repeat (first | exact Put.done | apply Put.put | apply Put.skip))) ?_
  refine lnil ?_
  refine xw_then ?_
  refine cw_ret ?_
  exact xw_retC1 rfl rfl kd24 sz24 (by repeat (first | exact List.Mem.head _ | apply List.Mem.tail)) (by repeat (first | exact Sub.done | apply Sub.take | apply Sub.skip)) (fun w hS => ⟨([], b11, 0, []), ⟨⟨by simp [h0], fun k hk => by omega, fun k hk => by omega⟩, by rw [h0]; exact ⟨Nat.le_refl _, Nat.zero_le _, rfl, rfl⟩⟩, rfl, hS.pick (by repeat (first | exact Pick.nil | (apply Pick.cons; focus (repeat (first | exact Del.here | apply Del.there)))))⟩)
set_option maxRecDepth 100000 in
set_option maxHeartbeats 4000000 in
theorem free_cons (f : FurrowD) (oa wa da : Option Addr) (oc wc dc : Nat) (s : Nat) (ba : Option Addr) (m : List Int) (bc : Nat) (w : World) (hn1 : 1 ≤ f.offs.length) (hn : f.offs.length ≤ 8) (hs32 : s < 2 ^ 32) (hf : FurrowAt w f oa wa da) (hby : U8At w ba m) (hbm : m.length ≤ 9223372036854775807) : CallsF Try.prog 37 (([furrowV f oa wa da oc wc dc, .int .i64 (s : Int), .slice ba m.length bc] : List Value)).toArray w fun e w' => ∃ q : List SpanD × Nat × Nat × List Value, (FreeOf f.offs q.1 s ∧ InRow 2 f.offs.length q.2.2.1 q.2.2.2 (spansC q.1)) ∧ e = .returned (furrowV ⟨q.1, f.wids, f.deps⟩ (some ⟨q.2.1, 0, none⟩) wa da q.2.2.1 wc dc) ∧ St w NoT [(q.2.1, Obj.cells q.2.2.2.toArray 28 (0, 0))] w' := by
  refine enter (n := 49) Try.func37 rfl rfl rfl (by repeat (first | exact Fill.nil | apply Fill.cons)) ?_
  refine cw_seq ?_
  refine cw_region ?_
  refine lstep rfl rfl rfl (run_boxN (.tmp rfl)) ?_
  intro b3 _
  refine lstep rfl rfl rfl (run_alloc zr24) ?_
  intro b6 _
  refine lnil ?_
  refine xw_then ?_
  refine cw_seq ?_
  refine cw_region ?_
  refine lstepB rfl rfl rfl (run_loadN (.tmp rfl) kd24 sz24 (by repeat (first | exact List.Mem.head _ | apply List.Mem.tail)) (by repeat (first | exact Sub.done | apply Sub.take | apply Sub.skip))) ?_
  refine lstep rfl rfl rfl (run_alloc zr24) ?_
  intro b7 _
  refine lstep0 rfl rfl (run_storeN (.tmp rfl) (.tmp rfl) rfl sz24 rfl (by repeat (first | exact Upd.here | apply Upd.there)) (by repeat (first | exact Put.done | apply Put.put | apply Put.skip))) ?_
  refine lnil ?_
  refine xw_then ?_
  refine cw_seq ?_
  refine cw_region ?_
  refine lstep rfl rfl rfl (LR.runs (lr_buildSlice_at .nil (fun w => bs22_0_ w)) (by repeat (first | exact Pick.nil | (apply Pick.cons; focus (repeat (first | exact Del.here | apply Del.there))))) (by repeat (first | exact Dels.nil | (apply Dels.cons; focus (repeat (first | exact Del.here | apply Del.there)))))) ?_
  intro b11 _
  refine lstepB rfl rfl rfl (run_fieldAddr (.tmp rfl) fa24_0 (by first | exact Nat.zero_add _ | exact rfl)) ?_
  refine lstepB rfl rfl rfl (run_load1 (.tmp rfl) kd22 (by repeat (first | exact List.Mem.head _ | apply List.Mem.tail)) (by exact rfl)) ?_
  obtain ⟨bq, oq, hoa, hbq, hcq⟩ := hf.offs.span (by omega)
  subst hoa
  have hlo := List.length_pos_iff.2 (List.ne_nil_of_length_pos hn1)
  refine lstep rfl rfl rfl (LR.runs (R := []) (A := [(b11, _)]) (lr_append_row ap22 (.tmp rfl) (xs := []) ⟨Nat.le_refl _, Nat.zero_le _, rfl, rfl⟩ (.tmp rfl) (news := spansC f.offs) (spansC_length _) (spans_plain _) (by omega) (by unfold maxLen; omega) (fun w' hS => spans_flat (fun i s hi j v hj => hS.old_cell (fun h => h) (hcq i s hi j v hj)))) (by repeat (first | exact Pick.nil | (apply Pick.cons; focus (repeat (first | exact Del.here | apply Del.there))))) (by repeat (first | exact Dels.nil | (apply Dels.cons; focus (repeat (first | exact Del.here | apply Del.there)))))) ?_
  intro ⟨gX, cX, rX⟩ hX
  dsimp only at hX ⊢
  rw [Nat.zero_add, List.nil_append] at hX
  simp only [Nat.zero_add]
  refine lstepB rfl rfl rfl (run_fieldAddr (.tmp rfl) fa24_0 (by first | exact Nat.zero_add _ | exact rfl)) ?_
  refine lstep0 rfl rfl (run_store1 (.tmp rfl) (.tmp rfl) rfl sz22 (by repeat (first | exact Upd.here | apply Upd.there)) (by repeat (first | exact Put.done | apply Put.put | apply Put.skip))) ?_
  refine lnil ?_
  refine xw_then ?_
  refine cw_seq ?_
  refine cw_seq ?_
  refine cw_region ?_
  refine lstepB rfl rfl rfl (run_fieldAddr (.tmp rfl) fa24_0 (by first | exact Nat.zero_add _ | exact rfl)) ?_
  refine lstepB rfl rfl rfl (run_load1 (.tmp rfl) kd22 (by repeat (first | exact List.Mem.head _ | apply List.Mem.tail)) (by exact rfl)) ?_
  refine lstepB rfl rfl rfl (run_len (.tmp rfl) sl22) ?_
  refine lstepB rfl rfl rfl (run_move .const) ?_
  refine lnil ?_
  refine xw_then ?_
  refine cw_block ?_
  refine cw_loop (S := Nat × List SpanD × List Value) (fun st => [(19, .int .i64 ((st.1 : Nat) : Int))]) [(0, _), (1, _), (2, _), (3, _), (6, _), (7, _), (17, _), (18, _)] (fun st => (gX, Obj.cells st.2.2.toArray 28 (0, 0)) :: (b7, Obj.cells [.slice (some ⟨gX, 0, none⟩) f.offs.length cX, .slice wa f.wids.length wc, .slice da f.deps.length dc].toArray 24 (0, 0)) :: (b6, Obj.cells [.slice none 0 0, .slice none 0 0, .slice none 0 0].toArray 24 (0, 0)) :: []) (fun st => st.1 ≤ f.offs.length ∧ InRow 2 f.offs.length cX st.2.2 (spansC st.2.1) ∧ st.2.1.length = f.offs.length ∧ (∀ j, j < st.1 → s.testBit j = true → -12 ≤ (st.2.1.getD j default).lo ∧ (st.2.1.getD j default).hi = (st.2.1.getD j default).lo ∧ (st.2.1.getD j default).lo ≤ 12) ∧ ∀ j, (st.1 ≤ j ∨ s.testBit j = false) → st.2.1.getD j default = f.offs.getD j default) (fun st => f.offs.length - st.1) (0, f.offs, rX) ⟨Nat.zero_le _, hX, rfl, fun j h => absurd h (Nat.not_lt_zero j), fun j _ => rfl⟩ (by repeat (first | exact Less.nil | refine Less.cons rfl ?_)) (by repeat (first | exact Pick.nil | (apply Pick.cons; focus (repeat (first | exact Del.here | apply Del.there))))) ?_
  intro st hs
  obtain ⟨k, L, cur⟩ := st
  obtain ⟨hk, hX2, hLl, hfree, hown⟩ := hs
  dsimp only at hk hX2 hLl hfree hown ⊢
  refine cw_seq ?_
  refine cw_region ?_
  refine lstepB rfl rfl rfl (run_lss (.tmp rfl) (.tmp rfl) rfl) ?_
  refine lnil ?_
  refine xw_then ?_
  refine cw_seq ?_
  refine cw_cond_p (.tmp rfl) (fun hl2 => ?_) (fun hl2 => ?_)
  ·
    have hkn : k < f.offs.length := by omega
    have hqa : s / 2 ^ k < 2 ^ 32 := Nat.lt_of_le_of_lt (Nat.div_le_self _ _) hs32
    have hcl : cur.length = cX * 2 := hX2.2.2.1
    have hcx : f.offs.length ≤ cX := hX2.1
    refine cw_skip ?_
    refine xw_then ?_
    refine cw_seq ?_
    refine cw_block ?_
    refine cw_seq ?_
    refine cw_region ?_
    refine lstepB rfl rfl rfl (run_move (.tmp rfl)) ?_
    refine lstepB rfl rfl rfl (run_assign (.tmp rfl)) ?_
    refine lnil ?_
    refine xw_then ?_
    refine cw_seq ?_
    refine cw_region ?_
    refine lstepB rfl rfl rfl (run_move (.tmp rfl)) ?_
    refine lstepB rfl rfl rfl (run_move (.tmp rfl)) ?_
    refine lstepB rfl rfl rfl (run_shr (z := k) (.tmp rfl) (.tmp rfl) (by omega)) ?_
    refine lstepB rfl rfl rfl (run_and (c' := ((bitN s k : Nat) : Int)) (.tmp rfl) .const (and_one hqa)) ?_
    refine lstepB rfl rfl rfl (run_eql (.tmp rfl) .const rfl) ?_
    refine lnil ?_
    refine xw_then ?_
    refine cw_cond_p (.tmp rfl) (fun hc2 => ?_) (fun hc2 => ?_)
    ·
      have hbit : s.testBit k = true := bitN_iff.1 (by omega)
      refine cw_seq ?_
      refine cw_region ?_
      refine lstepB rfl rfl rfl (run_assign .const) ?_
      refine lnil ?_
      refine xw_then ?_
      refine cw_meet (S := Int) (fun o => [(9, .int .i64 o)]) [(0, _), (1, _), (2, _), (3, _), (6, _), (7, _), (8, _), (17, _), (18, _), (19, _)] (fun o => (gX, Obj.cells cur.toArray 28 (0, 0)) :: (b7, Obj.cells [.slice (some ⟨gX, 0, none⟩) f.offs.length cX, .slice wa f.wids.length wc, .slice da f.deps.length dc].toArray 24 (0, 0)) :: (b6, Obj.cells [.slice none 0 0, .slice none 0 0, .slice none 0 0].toArray 24 (0, 0)) :: []) (fun o => -12 ≤ o ∧ o ≤ 12) (by repeat (first | exact Less.nil | refine Less.cons rfl ?_)) ?_ ?_
      ·
        refine cw_seq ?_
        refine cw_region ?_
        refine lstepB rfl rfl rfl (run_move (.tmp rfl)) ?_
        refine lstepB rfl rfl rfl (run_len (.tmp rfl) sl52) ?_
        refine lstepB rfl rfl rfl (run_gtr (.tmp rfl) .const rfl) ?_
        refine lnil ?_
        refine xw_then ?_
        refine cw_cond_p (.tmp rfl) (fun hm0 => ?_) (fun hm0 => ?_)
        ·
          obtain ⟨x, hx⟩ : ∃ x, m[k % m.length]? = some x := ⟨_, List.getElem?_eq_getElem (Nat.mod_lt _ (by omega))⟩
          obtain ⟨pb, po, rfl, hpb, hx1, hx2⟩ := hby.row _ x hx
          have hr0 := Int.emod_nonneg x (show (25 : Int) ≠ 0 by omega)
          have hr1 := Int.emod_lt_of_pos x (show (0 : Int) < 25 by omega)
          have hml : k % m.length < m.length := Nat.mod_lt _ (by omega)
          refine cw_region ?_
          refine lstepB rfl rfl rfl (run_move (.tmp rfl)) ?_
          refine lstepB rfl rfl rfl (run_move (.tmp rfl)) ?_
          refine lstepB rfl rfl rfl (run_move (.tmp rfl)) ?_
          refine lstepB rfl rfl rfl (run_len (.tmp rfl) sl52) ?_
          refine lstepB rfl rfl rfl (run_rem_nat (a := k) (b := m.length) (.tmp rfl) (.tmp rfl) (by omega)) ?_
          refine lstepB rfl rfl rfl (run_indexAddr (i := k % m.length) (off' := po + k % m.length) (.tmp rfl) (.tmp rfl) el52 (by omega) (by rw [Nat.mul_one])) ?_
          refine lstepB rfl rfl rfl (run_load1_at (v := .int .u8 x) (.tmp rfl) kd5 (fun w' hS => hS.old_cell (fun h => h) hx2)) ?_
          refine lstepB rfl rfl rfl (run_convert_at (.tmp rfl) (fun w => cv5_3 (c := x) (IntWalk.i64_in _ (by omega)) w)) ?_
          refine lstepB rfl rfl rfl (run_rem (.tmp rfl) .const (by omega) (by omega)) ?_
          refine lstepB rfl rfl rfl (run_sub (.tmp rfl) .const (by first | exact IntWalk.i64_in _ (by omega) | exact rfl)) ?_
          refine lstepB rfl rfl rfl (run_assign (.tmp rfl)) ?_
          refine lnil ?_
          exact xw_meet (x % 25 - 12) (by omega) (by repeat (first | exact Less.nil | refine Less.cons rfl ?_)) (by repeat (first | exact Pick.nil | (apply Pick.cons; focus (repeat (first | exact Del.here | apply Del.there)))))
        ·
          refine cw_skip ?_
          exact xw_meet 0 (by omega) (by repeat (first | exact Less.nil | refine Less.cons rfl ?_)) (by repeat (first | exact Pick.nil | (apply Pick.cons; focus (repeat (first | exact Del.here | apply Del.there)))))
      ·
        intro o ho
        refine cw_chain2 (σ := [0, 1, 2, 3, 4, 5, 6, 7]) [⟨0, [], [], [], 0⟩, ⟨0, [1], [], [], 1⟩, ⟨0, [], [], [], 0⟩, ⟨0, [], [], [], 0⟩, ⟨0, [], [], [], 0⟩, ⟨0, [], [], [], 24⟩, ⟨0, [], [], [], 63⟩, ⟨0, [], [0], [0], 127⟩] [(0, _), (1, _), (2, _)] (by kernel_rfl) (by kernel_rfl) rfl ?_
        refine .det (B := []) rfl rfl (.inl rfl) .nil .nil rfl (RunB.lr (run_fieldAddr (.tmp rfl) fa24_0 (by first | exact Nat.zero_add _ | exact rfl))) ?_
        refine .det (B := []) rfl rfl (.inl rfl) (.cons rfl .nil) .nil rfl (RunB.lr (run_load1 (.tmp rfl) kd22 (by repeat (first | exact List.Mem.head _ | apply List.Mem.tail)) (by exact rfl))) ?_
        refine .det (B := []) rfl rfl (.inl rfl) .nil .nil rfl (RunB.lr (run_move (.tmp rfl))) ?_
        refine .det (B := []) rfl rfl (.inl rfl) .nil .nil rfl (RunB.lr (run_move (.tmp rfl))) ?_
        refine .det (B := []) rfl rfl (.inl rfl) .nil .nil rfl (RunB.lr (run_move (.tmp rfl))) ?_
        refine .det (B := []) rfl rfl (.inl rfl) .nil .nil rfl (RunB.lr (run_call1 cb30 (.cons (.tmp rfl) (.cons (.tmp rfl) .nil)) (fun w2 _ => spanLK _ _ w2))) ?_
        refine .det (B := []) rfl rfl (.inl rfl) .nil .nil rfl (RunB.lr (run_indexAddr (i := k) (off' := k * 2) (.tmp rfl) (.tmp rfl) el22 (by omega) (Nat.zero_add _))) ?_
        refine .det (B := [(0, (_, _))]) rfl rfl (.inl rfl) .nil (.cons rfl .nil) rfl (lr_storeN (.tmp rfl) (.tmp rfl) rfl sz28 rfl (put_set2 cur (k * 2) (.int .i64 o) (.int .i64 o) (by omega))) ?_
        refine chain_nil (ts := [0, 1, 2]) (.cons rfl (.cons rfl (.cons rfl .nil))) (by decide) ?_
        refine xw_in ?_
        refine xw_then ?_
        refine cw_region ?_
        refine lstepB rfl rfl rfl (run_add (.tmp rfl) .const (by first | exact IntWalk.i64_in _ (by omega) | exact rfl)) ?_
        refine lstepB rfl rfl rfl (run_move (.tmp rfl)) ?_
        refine lnil ?_
        exact xw_round (k + 1, L.set k ⟨o, o⟩, (cur.set (k * 2) (.int .i64 o)).set (k * 2 + 1) (.int .i64 o)) ⟨by simp only; omega, inrow_span (s := ⟨o, o⟩) hX2 hLl hkn, by simp only [List.length_set]; exact hLl, fun j hj hjb => (free_step1 (o := o) hkn hLl ho hfree j hj hjb), fun j hj => (free_step2 (o := o) hkn hLl hbit hown j hj)⟩ (by show f.offs.length - (k + 1) < f.offs.length - k; omega) (by repeat (first | exact Less.nil | refine Less.cons rfl ?_)) (by repeat (first | exact Pick.nil | (apply Pick.cons; focus (repeat (first | exact Del.here | apply Del.there)))))
    ·
      have hbit : s.testBit k = false := bitN_zero.1 (by have : bitN s k < 2 := Nat.mod_lt _ (by omega); omega)
      refine cw_skip ?_
      refine xw_in ?_
      refine xw_then ?_
      refine cw_region ?_
      refine lstepB rfl rfl rfl (run_add (.tmp rfl) .const (by first | exact IntWalk.i64_in _ (by omega) | exact rfl)) ?_
      refine lstepB rfl rfl rfl (run_move (.tmp rfl)) ?_
      refine lnil ?_
      exact xw_round (k + 1, L, cur) ⟨by simp only; omega, hX2, hLl, fun j hj hjb => (free_step3 hbit hfree j hj hjb), fun j hj => (hown j (hj.imp (fun h => Nat.le_trans (Nat.le_succ _) h) id))⟩ (by show f.offs.length - (k + 1) < f.offs.length - k; omega) (by repeat (first | exact Less.nil | refine Less.cons rfl ?_)) (by repeat (first | exact Pick.nil | (apply Pick.cons; focus (repeat (first | exact Del.here | apply Del.there)))))
  ·
    obtain rfl : k = f.offs.length := by omega
    refine cw_exit ?_
    refine xw_then_exit ?_
    refine xw_then_exit ?_
    refine xw_in_exit ?_
    refine xw_then ?_
    refine cw_seq ?_
    refine cw_region ?_
    refine lstepB rfl rfl rfl (run_loadN (.tmp rfl) kd24 sz24 (by repeat (first | exact List.Mem.head _ | apply List.Mem.tail)) (by repeat (first | exact Sub.done | apply Sub.take | apply Sub.skip))) ?_
    refine lstep0 rfl rfl (run_storeN (.tmp rfl) (.tmp rfl) rfl sz24 rfl (by repeat (first | exact Upd.here | apply Upd.there)) (by repeat (first | exact Put.done | apply Put.put | apply Put.skip))) ?_
    refine lnil ?_
    refine xw_then ?_
    refine cw_ret ?_
    exact xw_retC1 rfl rfl kd24 sz24 (by repeat (first | exact List.Mem.head _ | apply List.Mem.tail)) (by repeat (first | exact Sub.done | apply Sub.take | apply Sub.skip)) (fun w hS => ⟨(L, gX, cX, cur), ⟨⟨hLl, fun j hj hjb => hfree j hj hjb, fun j hj hjb => hown j (.inr hjb)⟩, hX2⟩, (by show Ending.returned (.agg [.slice (some ⟨gX, 0, none⟩) f.offs.length cX, _, _].toArray) = .returned (.agg [.slice (some ⟨gX, 0, none⟩) L.length cX, _, _].toArray); rw [hLl]), hS.pick (by repeat (first | exact Pick.nil | (apply Pick.cons; focus (repeat (first | exact Del.here | apply Del.there)))))⟩)
theorem free_any (f : FurrowD) (oa wa da : Option Addr) (oc wc dc : Nat) (s : Nat) (ba : Option Addr) (m : List Int) (bc : Nat) (w : World) (hn : f.offs.length ≤ 8) (hs32 : s < 2 ^ 32) (hf : FurrowAt w f oa wa da) (hby : U8At w ba m) (hbm : m.length ≤ 9223372036854775807) : CallsF Try.prog 37 (([furrowV f oa wa da oc wc dc, .int .i64 (s : Int), .slice ba m.length bc] : List Value)).toArray w fun e w' => ∃ q : List SpanD × Nat × Nat × List Value, (FreeOf f.offs q.1 s ∧ InRow 2 f.offs.length q.2.2.1 q.2.2.2 (spansC q.1)) ∧ e = .returned (furrowV ⟨q.1, f.wids, f.deps⟩ (some ⟨q.2.1, 0, none⟩) wa da q.2.2.1 wc dc) ∧ St w NoT [(q.2.1, Obj.cells q.2.2.2.toArray 28 (0, 0))] w' := by
  rcases Nat.eq_zero_or_pos f.offs.length with h | h
  · exact free_nil f oa wa da oc wc dc s ba m bc w h hn hs32 hf hby hbm
  · exact free_cons f oa wa da oc wc dc s ba m bc w h hn hs32 hf hby hbm
end Go.Proofs.Ytjdeplehhmhpcaa
