/- Furrow: helpers of the laws and of the document. -/
import Derived.Test.YtjdeplehhmhpcaaGA
import Derived.Test.YtjdeplehhmhpcaaGB
namespace Go.Proofs.Ytjdeplehhmhpcaa
open Go.RowKit En

theorem run_max3 {P : Program} {E : Env} {w0 : World} {T : Nat → Prop} {H : Heap} {d : Option Tmp} {ty : TypeId} {pos : String} {af : Array Edge} {gd : Option (Nat × Bool)} {x y z : Operand} {k : IntKind} {a b c r : Int} {ts : Array TypeId} (hx : Ev E x (.int k a)) (hy : Ev E y (.int k b)) (hz : Ev E z (.int k c)) (h : max (max a b) c = r) : RunB P E w0 T H ⟨d, .call ⟨.builtin .max, [x, y, z].toArray, ts⟩, ty, pos, af, gd⟩ (.int k r) := fun ρ w hρ _ => by
  refine doneO rfl ?_
  have e := hρ x _ (by simp [Op.operands, Call.operands]) hx
  have e' := hρ y _ (by simp [Op.operands, Call.operands]) hy
  have e2 := hρ z _ (by simp [Op.operands, Call.operands]) hz
  subst h
  have h1 : (execOp ρ ⟨d, .call ⟨.builtin .max, [x, y, z].toArray, ts⟩, ty, pos, af, gd⟩).run P w = .ok (.value (.int k (max (max a b) c))) w := by
    simp [execOp, resolve, invoke, builtin, Builtin.max_, Builtin.max2, e, e', e2, go_sem]
    split <;> split <;> omega
  rw [h1]
  exact ⟨rfl, Below.refl _ _⟩
def insideB (n : Int) (s : SpanD) : Bool := decide (s.lo ≤ n) && decide (n ≤ s.hi)
set_option maxRecDepth 100000 in
set_option maxHeartbeats 4000000 in
theorem rspanK (s : SpanD) (lo hi : Int) (w : World) : Gives Try.prog 73 [spanV s, .int .i64 lo, .int .i64 hi] w (.bool (withinB s lo hi)) := by
  by_cases h1 : lo ≤ s.lo <;> by_cases h2 : s.lo ≤ s.hi <;> by_cases h3 : s.hi ≤ hi
  all_goals
    refine .mk <| enter (n := 24) Try.func73 rfl rfl rfl (by repeat (first | exact Fill.nil | apply Fill.cons)) ?_
    refine cw_seq ?_
    refine cw_region ?_
    refine lstep rfl rfl rfl (run_boxN (.tmp rfl)) ?_
    intro b3 _
    refine lstepB rfl rfl rfl (run_assign .const) ?_
    refine lnil ?_
    refine xw_then ?_
    refine cw_seq ?_
    refine cw_region ?_
    refine lstepB rfl rfl rfl (run_move (.tmp rfl)) ?_
    refine lstepB rfl rfl rfl (run_fieldAddr (.tmp rfl) fa28_0 (by first | exact Nat.zero_add _ | exact rfl)) ?_
    refine lstepB rfl rfl rfl (run_load1 (.tmp rfl) kd3 (by repeat (first | exact List.Mem.head _ | apply List.Mem.tail)) (by exact rfl)) ?_
    refine lstepB rfl rfl rfl (run_leq (.tmp rfl) (.tmp rfl) (by first | exact decide_eq_true (by omega) | exact decide_eq_false (by omega) | exact rfl)) ?_
    refine lstepB rfl rfl rfl (run_move (.tmp rfl)) ?_
    first | (refine lyes rfl rfl rfl rfl ?_; refine gstepB rfl rfl (run_fieldAddr (.tmp rfl) fa28_0 (by first | exact Nat.zero_add _ | exact rfl)) ?_) | refine lskip rfl rfl rfl rfl rfl rfl rfl ?_
    first | (refine lyes rfl rfl rfl rfl ?_; refine gstepB rfl rfl (run_load1 (.tmp rfl) kd3 (by repeat (first | exact List.Mem.head _ | apply List.Mem.tail)) (by exact rfl)) ?_) | refine lskip rfl rfl rfl rfl rfl rfl rfl ?_
    first | (refine lyes rfl rfl rfl rfl ?_; refine gstepB rfl rfl (run_fieldAddr (.tmp rfl) fa28_1 (by first | exact Nat.zero_add _ | exact rfl)) ?_) | refine lskip rfl rfl rfl rfl rfl rfl rfl ?_
    first | (refine lyes rfl rfl rfl rfl ?_; refine gstepB rfl rfl (run_load1 (.tmp rfl) kd3 (by repeat (first | exact List.Mem.head _ | apply List.Mem.tail)) (by exact rfl)) ?_) | refine lskip rfl rfl rfl rfl rfl rfl rfl ?_
    first | (refine lyes rfl rfl rfl rfl ?_; refine gstepB rfl rfl (run_leq (.tmp rfl) (.tmp rfl) (by first | exact decide_eq_true (by omega) | exact decide_eq_false (by omega) | exact rfl)) ?_) | refine lskip rfl rfl rfl rfl rfl rfl rfl ?_
    refine lstepB rfl rfl rfl (by first | exact run_pick_true (.tmp rfl) (.tmp rfl) | exact run_pick_false (.tmp rfl) .const) ?_
    refine lstepB rfl rfl rfl (run_move (.tmp rfl)) ?_
    first | (refine lyes rfl rfl rfl rfl ?_; refine gstepB rfl rfl (run_fieldAddr (.tmp rfl) fa28_1 (by first | exact Nat.zero_add _ | exact rfl)) ?_) | refine lskip rfl rfl rfl rfl rfl rfl rfl ?_
    first | (refine lyes rfl rfl rfl rfl ?_; refine gstepB rfl rfl (run_load1 (.tmp rfl) kd3 (by repeat (first | exact List.Mem.head _ | apply List.Mem.tail)) (by exact rfl)) ?_) | refine lskip rfl rfl rfl rfl rfl rfl rfl ?_
    first | (refine lyes rfl rfl rfl rfl ?_; refine gstepB rfl rfl (run_move (.tmp rfl)) ?_) | refine lskip rfl rfl rfl rfl rfl rfl rfl ?_
    first | (refine lyes rfl rfl rfl rfl ?_; refine gstepB rfl rfl (run_leq (.tmp rfl) (.tmp rfl) (by first | exact decide_eq_true (by omega) | exact decide_eq_false (by omega) | exact rfl)) ?_) | refine lskip rfl rfl rfl rfl rfl rfl rfl ?_
    refine lstepB rfl rfl rfl (by first | exact run_pick_true (.tmp rfl) (.tmp rfl) | exact run_pick_false (.tmp rfl) .const) ?_
    refine lstepB rfl rfl rfl (run_assign (.tmp rfl)) ?_
    refine lnil ?_
    refine xw_then ?_
    refine cw_ret ?_
    refine xw_ret1 Try.results73 rfl (fun w hS => ⟨by simp [withinB, *], hS.kept⟩)
set_option maxRecDepth 100000 in
set_option maxHeartbeats 4000000 in
theorem rFurrowK (f : FurrowD) (oa wa da : Option Addr) (oc wc dc : Nat) (w : World) (hm : Lens f) (hf : FurrowAt w f oa wa da) : Gives Try.prog 35 [furrowV f oa wa da oc wc dc] w (.bool (validB f)) := by
  obtain ⟨hm1, hm2, hm3⟩ := hm.all
  refine .mk <| enter (n := 64) Try.func35 rfl rfl rfl (by repeat (first | exact Fill.nil | apply Fill.cons)) ?_
  by_cases h1 : 8 < f.offs.length
  ·
    refine cw_seq ?_
    refine cw_region ?_
    refine lstep rfl rfl rfl (run_boxN (.tmp rfl)) ?_
    intro b1 _
    refine lstepB rfl rfl rfl (run_assign .const) ?_
    refine lnil ?_
    refine xw_then ?_
    refine cw_seq ?_
    refine cw_region ?_
    refine lstepB rfl rfl rfl (run_fieldAddr (.tmp rfl) fa24_0 (by first | exact Nat.zero_add _ | exact rfl)) ?_
    refine lstepB rfl rfl rfl (run_load1 (.tmp rfl) kd22 (by repeat (first | exact List.Mem.head _ | apply List.Mem.tail)) (by exact rfl)) ?_
    refine lstepB rfl rfl rfl (run_len (.tmp rfl) sl22) ?_
    refine lstepB rfl rfl rfl (run_assign (.tmp rfl)) ?_
    refine lnil ?_
    refine xw_then ?_
    refine cw_seq ?_
    refine cw_seq ?_
    refine cw_region ?_
    refine lstepB rfl rfl rfl (run_move (.tmp rfl)) ?_
    refine lstepB rfl rfl rfl (run_gtr (.tmp rfl) .const (by first | exact decide_eq_true (by omega) | exact decide_eq_false (by omega) | exact rfl)) ?_
    refine lstepB rfl rfl rfl (run_move (.tmp rfl)) ?_
    refine lskip rfl rfl rfl rfl rfl rfl rfl ?_
    refine lskip rfl rfl rfl rfl rfl rfl rfl ?_
    refine lskip rfl rfl rfl rfl rfl rfl rfl ?_
    refine lskip rfl rfl rfl rfl rfl rfl rfl ?_
    refine lskip rfl rfl rfl rfl rfl rfl rfl ?_
    refine lstepB rfl rfl rfl (by first | exact run_pick_true (.tmp rfl) .const | exact run_pick_false (.tmp rfl) (.tmp rfl)) ?_
    refine lstepB rfl rfl rfl (run_move (.tmp rfl)) ?_
    refine lskip rfl rfl rfl rfl rfl rfl rfl ?_
    refine lskip rfl rfl rfl rfl rfl rfl rfl ?_
    refine lskip rfl rfl rfl rfl rfl rfl rfl ?_
    refine lskip rfl rfl rfl rfl rfl rfl rfl ?_
    refine lskip rfl rfl rfl rfl rfl rfl rfl ?_
    refine lstepB rfl rfl rfl (by first | exact run_pick_true (.tmp rfl) .const | exact run_pick_false (.tmp rfl) (.tmp rfl)) ?_
    refine lnil ?_
    refine xw_then ?_
    refine cw_cond_true (.tmp rfl) ?_
    refine cw_seq ?_
    refine cw_region ?_
    refine lstepB rfl rfl rfl (run_assign .const) ?_
    refine lnil ?_
    refine xw_then ?_
    refine cw_ret ?_
    refine xw_then_ret ?_
    refine xw_ret1 Try.results35 rfl (fun w hS => ⟨by simp [validB, h1], hS.kept⟩)
  ·
    by_cases h2 : f.wids.length = f.offs.length
    ·
      by_cases h3 : f.deps.length = f.offs.length
      ·
        refine cw_seq ?_
        refine cw_region ?_
        refine lstep rfl rfl rfl (run_boxN (.tmp rfl)) ?_
        intro b1 _
        refine lstepB rfl rfl rfl (run_assign .const) ?_
        refine lnil ?_
        refine xw_then ?_
        refine cw_seq ?_
        refine cw_region ?_
        refine lstepB rfl rfl rfl (run_fieldAddr (.tmp rfl) fa24_0 (by first | exact Nat.zero_add _ | exact rfl)) ?_
        refine lstepB rfl rfl rfl (run_load1 (.tmp rfl) kd22 (by repeat (first | exact List.Mem.head _ | apply List.Mem.tail)) (by exact rfl)) ?_
        refine lstepB rfl rfl rfl (run_len (.tmp rfl) sl22) ?_
        refine lstepB rfl rfl rfl (run_assign (.tmp rfl)) ?_
        refine lnil ?_
        refine xw_then ?_
        refine cw_seq ?_
        refine cw_seq ?_
        refine cw_region ?_
        refine lstepB rfl rfl rfl (run_move (.tmp rfl)) ?_
        refine lstepB rfl rfl rfl (run_gtr (.tmp rfl) .const (by first | exact decide_eq_true (by omega) | exact decide_eq_false (by omega) | exact rfl)) ?_
        refine lstepB rfl rfl rfl (run_move (.tmp rfl)) ?_
        refine lyes rfl rfl rfl rfl ?_
        refine gstepB rfl rfl (run_fieldAddr (.tmp rfl) fa24_1 (by first | exact Nat.zero_add _ | exact rfl)) ?_
        refine lyes rfl rfl rfl rfl ?_
        refine gstepB rfl rfl (run_load1 (.tmp rfl) kd22 (by repeat (first | exact List.Mem.head _ | apply List.Mem.tail)) (by exact rfl)) ?_
        refine lyes rfl rfl rfl rfl ?_
        refine gstepB rfl rfl (run_len (.tmp rfl) sl22) ?_
        refine lyes rfl rfl rfl rfl ?_
        refine gstepB rfl rfl (run_move (.tmp rfl)) ?_
        refine lyes rfl rfl rfl rfl ?_
        refine gstepB rfl rfl (run_neq (.tmp rfl) (.tmp rfl) (decide_eq_false (by omega))) ?_
        refine lstepB rfl rfl rfl (by first | exact run_pick_true (.tmp rfl) .const | exact run_pick_false (.tmp rfl) (.tmp rfl)) ?_
        refine lstepB rfl rfl rfl (run_move (.tmp rfl)) ?_
        refine lyes rfl rfl rfl rfl ?_
        refine gstepB rfl rfl (run_fieldAddr (.tmp rfl) fa24_2 (by first | exact Nat.zero_add _ | exact rfl)) ?_
        refine lyes rfl rfl rfl rfl ?_
        refine gstepB rfl rfl (run_load1 (.tmp rfl) kd22 (by repeat (first | exact List.Mem.head _ | apply List.Mem.tail)) (by exact rfl)) ?_
        refine lyes rfl rfl rfl rfl ?_
        refine gstepB rfl rfl (run_len (.tmp rfl) sl22) ?_
        refine lyes rfl rfl rfl rfl ?_
        refine gstepB rfl rfl (run_move (.tmp rfl)) ?_
        refine lyes rfl rfl rfl rfl ?_
        refine gstepB rfl rfl (run_neq (.tmp rfl) (.tmp rfl) (decide_eq_false (by omega))) ?_
        refine lstepB rfl rfl rfl (by first | exact run_pick_true (.tmp rfl) .const | exact run_pick_false (.tmp rfl) (.tmp rfl)) ?_
        refine lnil ?_
        refine xw_then ?_
        refine cw_cond_false (.tmp rfl) ?_
        refine cw_skip ?_
        refine xw_then ?_
        refine cw_seq ?_
        refine cw_seq ?_
        refine cw_region ?_
        refine lstepB rfl rfl rfl (run_assign .const) ?_
        refine lnil ?_
        refine xw_then ?_
        refine cw_block ?_
        have hv : validB f = (List.range f.offs.length).all (okN f) := by simp [validB, h1, h2, h3] <;> omega
        refine cw_loop (S := Nat) (fun k => [(4, .int .i64 (k : Int))]) [(1, _), (3, _)] (fun k => [(b1, _)]) (fun k => k ≤ f.offs.length ∧ ∀ j, j < k → okN f j = true) (fun k => f.offs.length - k) 0 ⟨Nat.zero_le _, fun j h => absurd h (Nat.not_lt_zero j)⟩ (by repeat (first | exact Less.nil | refine Less.cons rfl ?_)) (by repeat (first | exact Pick.nil | (apply Pick.cons; focus (repeat (first | exact Del.here | apply Del.there))))) ?_
        intro k hk
        refine cw_seq ?_
        refine cw_seq ?_
        refine cw_region ?_
        refine lstepB rfl rfl rfl (run_move (.tmp rfl)) ?_
        refine lstepB rfl rfl rfl (run_move (.tmp rfl)) ?_
        refine lstepB rfl rfl rfl (run_lss (.tmp rfl) (.tmp rfl) (by first | exact decide_eq_true (by omega) | exact decide_eq_false (by omega) | exact rfl)) ?_
        refine lnil ?_
        refine xw_then ?_
        refine cw_cond_p (.tmp rfl) (fun hl => ?_) (fun hl => ?_)
        ·
          obtain ⟨o, ho⟩ : ∃ o, f.offs[k]? = some o := ⟨_, List.getElem?_eq_getElem (by omega)⟩
          obtain ⟨d, hd⟩ : ∃ o, f.wids[k]? = some o := ⟨_, List.getElem?_eq_getElem (by omega)⟩
          obtain ⟨e, he⟩ : ∃ o, f.deps[k]? = some o := ⟨_, List.getElem?_eq_getElem (by omega)⟩
          obtain ⟨b1', o1, hoa, q1, z1⟩ := hf.offs.span (by omega)
          obtain ⟨b2', o2, hwa, q2, z2⟩ := hf.wids.span (by omega)
          obtain ⟨b3', o3, hda, q3, z3⟩ := hf.deps.span (by omega)
          subst hoa hwa hda
          have hok : okN f k = okSt o d e := by unfold okN; simp only [List.getD_eq_getElem?_getD, ho, hd, he, Option.getD_some]
          have hbad : okSt o d e = false → validB f = false := fun h => by
            rw [hv, ← Bool.not_eq_true, List.all_eq_true]
            intro hh
            have := hh k (List.mem_range.2 (by omega))
            rw [hok, h] at this
            cases this
          cases c1 : withinB o (-12) 12
          ·
            refine cw_skip ?_
            refine xw_then ?_
            refine cw_seq ?_
            refine cw_block ?_
            refine cw_seq ?_
            refine cw_region ?_
            refine lstepB rfl rfl rfl (run_fieldAddr (.tmp rfl) fa24_0 (by first | exact Nat.zero_add _ | exact rfl)) ?_
            refine lstepB rfl rfl rfl (run_load1 (.tmp rfl) kd22 (by repeat (first | exact List.Mem.head _ | apply List.Mem.tail)) (by exact rfl)) ?_
            refine lstepB rfl rfl rfl (run_move (.tmp rfl)) ?_
            refine lstepB rfl rfl rfl (run_indexAddr (i := k) (off' := o1 + k * 2) (.tmp rfl) (.tmp rfl) el22 (by omega) rfl) ?_
            refine lstepB rfl rfl rfl (run_loadN_at (l := spanC o) (.tmp rfl) kd28 sz28 rfl (fun w' hS j v hj => hS.old_cell (fun h => h) (z1 k o ho j v hj))) ?_
            refine lstep rfl rfl rfl (run_alloc zr28) ?_
            intro b5 _
            refine lstep0 rfl rfl (run_storeN (.tmp rfl) (.tmp rfl) rfl sz28 rfl (by repeat (first | exact Upd.here | apply Upd.there)) (by repeat (first | exact Put.done | apply Put.put | apply Put.skip))) ?_
            refine lnil ?_
            refine xw_then ?_
            refine cw_seq ?_
            refine cw_region ?_
            refine lstepB rfl rfl rfl (run_loadN (.tmp rfl) kd28 sz28 (by repeat (first | exact List.Mem.head _ | apply List.Mem.tail)) (by repeat (first | exact Sub.done | apply Sub.take | apply Sub.skip))) ?_
            refine lstepB rfl rfl rfl (run_call1 cb73 (.cons (.tmp rfl) (.cons .const (.cons .const .nil))) (fun w _ => (rspanK ⟨_, _⟩ _ _ w).as (congrArg Value.bool c1))) ?_
            refine lstepB rfl rfl rfl (run_not (.tmp rfl) (by first | exact Bool.not_true | exact Bool.not_false | exact rfl)) ?_
            refine lstepB rfl rfl rfl (run_move (.tmp rfl)) ?_
            refine lskip rfl rfl rfl rfl rfl rfl rfl ?_
            refine lskip rfl rfl rfl rfl rfl rfl rfl ?_
            refine lskip rfl rfl rfl rfl rfl rfl rfl ?_
            refine lskip rfl rfl rfl rfl rfl rfl rfl ?_
            refine lskip rfl rfl rfl rfl rfl rfl rfl ?_
            refine lskip rfl rfl rfl rfl rfl rfl rfl ?_
            refine lstepB rfl rfl rfl (by first | exact run_pick_true (.tmp rfl) .const | exact run_pick_false (.tmp rfl) (.tmp rfl)) ?_
            refine lstepB rfl rfl rfl (run_move (.tmp rfl)) ?_
            refine lskip rfl rfl rfl rfl rfl rfl rfl ?_
            refine lskip rfl rfl rfl rfl rfl rfl rfl ?_
            refine lskip rfl rfl rfl rfl rfl rfl rfl ?_
            refine lskip rfl rfl rfl rfl rfl rfl rfl ?_
            refine lskip rfl rfl rfl rfl rfl rfl rfl ?_
            refine lskip rfl rfl rfl rfl rfl rfl rfl ?_
            refine lskip rfl rfl rfl rfl rfl rfl rfl ?_
            refine lstepB rfl rfl rfl (by first | exact run_pick_true (.tmp rfl) .const | exact run_pick_false (.tmp rfl) (.tmp rfl)) ?_
            refine lstepB rfl rfl rfl (run_move (.tmp rfl)) ?_
            refine lskip rfl rfl rfl rfl rfl rfl rfl ?_
            refine lskip rfl rfl rfl rfl rfl rfl rfl ?_
            refine lskip rfl rfl rfl rfl rfl rfl rfl ?_
            refine lskip rfl rfl rfl rfl rfl rfl rfl ?_
            refine lskip rfl rfl rfl rfl rfl rfl rfl ?_
            refine lskip rfl rfl rfl rfl rfl rfl rfl ?_
            refine lskip rfl rfl rfl rfl rfl rfl rfl ?_
            refine lstepB rfl rfl rfl (by first | exact run_pick_true (.tmp rfl) .const | exact run_pick_false (.tmp rfl) (.tmp rfl)) ?_
            refine lnil ?_
            refine xw_then ?_
            refine cw_cond_true (.tmp rfl) ?_
            refine cw_seq ?_
            refine cw_region ?_
            refine lstepB rfl rfl rfl (run_assign .const) ?_
            refine lnil ?_
            refine xw_then ?_
            refine cw_ret ?_
            refine xw_in_ret ?_
            refine xw_then_ret ?_
            refine xw_then_ret ?_
            refine xw_in_ret ?_
            refine xw_then_ret ?_
            refine xw_ret1 Try.results35 rfl (fun w hS => ⟨by rw [hbad (by simp [okSt, c1])], hS.kept⟩)
          ·
            have hb := withinB_iff c1
            by_cases c2 : 6 < o.hi - o.lo
            ·
              refine cw_skip ?_
              refine xw_then ?_
              refine cw_seq ?_
              refine cw_block ?_
              refine cw_seq ?_
              refine cw_region ?_
              refine lstepB rfl rfl rfl (run_fieldAddr (.tmp rfl) fa24_0 (by first | exact Nat.zero_add _ | exact rfl)) ?_
              refine lstepB rfl rfl rfl (run_load1 (.tmp rfl) kd22 (by repeat (first | exact List.Mem.head _ | apply List.Mem.tail)) (by exact rfl)) ?_
              refine lstepB rfl rfl rfl (run_move (.tmp rfl)) ?_
              refine lstepB rfl rfl rfl (run_indexAddr (i := k) (off' := o1 + k * 2) (.tmp rfl) (.tmp rfl) el22 (by omega) rfl) ?_
              refine lstepB rfl rfl rfl (run_loadN_at (l := spanC o) (.tmp rfl) kd28 sz28 rfl (fun w' hS j v hj => hS.old_cell (fun h => h) (z1 k o ho j v hj))) ?_
              refine lstep rfl rfl rfl (run_alloc zr28) ?_
              intro b5 _
              refine lstep0 rfl rfl (run_storeN (.tmp rfl) (.tmp rfl) rfl sz28 rfl (by repeat (first | exact Upd.here | apply Upd.there)) (by repeat (first | exact Put.done | apply Put.put | apply Put.skip))) ?_
              refine lnil ?_
              refine xw_then ?_
              refine cw_seq ?_
              refine cw_region ?_
              refine lstepB rfl rfl rfl (run_loadN (.tmp rfl) kd28 sz28 (by repeat (first | exact List.Mem.head _ | apply List.Mem.tail)) (by repeat (first | exact Sub.done | apply Sub.take | apply Sub.skip))) ?_
              refine lstepB rfl rfl rfl (run_call1 cb73 (.cons (.tmp rfl) (.cons .const (.cons .const .nil))) (fun w _ => (rspanK ⟨_, _⟩ _ _ w).as (congrArg Value.bool c1))) ?_
              refine lstepB rfl rfl rfl (run_not (.tmp rfl) (by first | exact Bool.not_true | exact Bool.not_false | exact rfl)) ?_
              refine lstepB rfl rfl rfl (run_move (.tmp rfl)) ?_
              refine lyes rfl rfl rfl rfl ?_
              refine gstepB rfl rfl (run_fieldAddr (.tmp rfl) fa28_1 (by first | exact Nat.zero_add _ | exact rfl)) ?_
              refine lyes rfl rfl rfl rfl ?_
              refine gstepB rfl rfl (run_load1 (.tmp rfl) kd3 (by repeat (first | exact List.Mem.head _ | apply List.Mem.tail)) (by exact rfl)) ?_
              refine lyes rfl rfl rfl rfl ?_
              refine gstepB rfl rfl (run_fieldAddr (.tmp rfl) fa28_0 (by first | exact Nat.zero_add _ | exact rfl)) ?_
              refine lyes rfl rfl rfl rfl ?_
              refine gstepB rfl rfl (run_load1 (.tmp rfl) kd3 (by repeat (first | exact List.Mem.head _ | apply List.Mem.tail)) (by exact rfl)) ?_
              refine lyes rfl rfl rfl rfl ?_
              refine gstepB rfl rfl (run_sub (.tmp rfl) (.tmp rfl) (by first | exact IntWalk.i64_in _ (by omega) | exact rfl)) ?_
              refine lyes rfl rfl rfl rfl ?_
              refine gstepB rfl rfl (run_gtr (.tmp rfl) .const (by first | exact decide_eq_true (by omega) | exact decide_eq_false (by omega) | exact rfl)) ?_
              refine lstepB rfl rfl rfl (by first | exact run_pick_true (.tmp rfl) .const | exact run_pick_false (.tmp rfl) (.tmp rfl)) ?_
              refine lstepB rfl rfl rfl (run_move (.tmp rfl)) ?_
              refine lskip rfl rfl rfl rfl rfl rfl rfl ?_
              refine lskip rfl rfl rfl rfl rfl rfl rfl ?_
              refine lskip rfl rfl rfl rfl rfl rfl rfl ?_
              refine lskip rfl rfl rfl rfl rfl rfl rfl ?_
              refine lskip rfl rfl rfl rfl rfl rfl rfl ?_
              refine lskip rfl rfl rfl rfl rfl rfl rfl ?_
              refine lskip rfl rfl rfl rfl rfl rfl rfl ?_
              refine lstepB rfl rfl rfl (by first | exact run_pick_true (.tmp rfl) .const | exact run_pick_false (.tmp rfl) (.tmp rfl)) ?_
              refine lstepB rfl rfl rfl (run_move (.tmp rfl)) ?_
              refine lskip rfl rfl rfl rfl rfl rfl rfl ?_
              refine lskip rfl rfl rfl rfl rfl rfl rfl ?_
              refine lskip rfl rfl rfl rfl rfl rfl rfl ?_
              refine lskip rfl rfl rfl rfl rfl rfl rfl ?_
              refine lskip rfl rfl rfl rfl rfl rfl rfl ?_
              refine lskip rfl rfl rfl rfl rfl rfl rfl ?_
              refine lskip rfl rfl rfl rfl rfl rfl rfl ?_
              refine lstepB rfl rfl rfl (by first | exact run_pick_true (.tmp rfl) .const | exact run_pick_false (.tmp rfl) (.tmp rfl)) ?_
              refine lnil ?_
              refine xw_then ?_
              refine cw_cond_true (.tmp rfl) ?_
              refine cw_seq ?_
              refine cw_region ?_
              refine lstepB rfl rfl rfl (run_assign .const) ?_
              refine lnil ?_
              refine xw_then ?_
              refine cw_ret ?_
              refine xw_in_ret ?_
              refine xw_then_ret ?_
              refine xw_then_ret ?_
              refine xw_in_ret ?_
              refine xw_then_ret ?_
              refine xw_ret1 Try.results35 rfl (fun w hS => ⟨by rw [hbad (by simp [okSt, c2])], hS.kept⟩)
            ·
              cases c3 : withinB d 1 60
              ·
                refine cw_skip ?_
                refine xw_then ?_
                refine cw_seq ?_
                refine cw_block ?_
                refine cw_seq ?_
                refine cw_region ?_
                refine lstepB rfl rfl rfl (run_fieldAddr (.tmp rfl) fa24_0 (by first | exact Nat.zero_add _ | exact rfl)) ?_
                refine lstepB rfl rfl rfl (run_load1 (.tmp rfl) kd22 (by repeat (first | exact List.Mem.head _ | apply List.Mem.tail)) (by exact rfl)) ?_
                refine lstepB rfl rfl rfl (run_move (.tmp rfl)) ?_
                refine lstepB rfl rfl rfl (run_indexAddr (i := k) (off' := o1 + k * 2) (.tmp rfl) (.tmp rfl) el22 (by omega) rfl) ?_
                refine lstepB rfl rfl rfl (run_loadN_at (l := spanC o) (.tmp rfl) kd28 sz28 rfl (fun w' hS j v hj => hS.old_cell (fun h => h) (z1 k o ho j v hj))) ?_
                refine lstep rfl rfl rfl (run_alloc zr28) ?_
                intro b5 _
                refine lstep0 rfl rfl (run_storeN (.tmp rfl) (.tmp rfl) rfl sz28 rfl (by repeat (first | exact Upd.here | apply Upd.there)) (by repeat (first | exact Put.done | apply Put.put | apply Put.skip))) ?_
                refine lnil ?_
                refine xw_then ?_
                refine cw_seq ?_
                refine cw_region ?_
                refine lstepB rfl rfl rfl (run_loadN (.tmp rfl) kd28 sz28 (by repeat (first | exact List.Mem.head _ | apply List.Mem.tail)) (by repeat (first | exact Sub.done | apply Sub.take | apply Sub.skip))) ?_
                refine lstepB rfl rfl rfl (run_call1 cb73 (.cons (.tmp rfl) (.cons .const (.cons .const .nil))) (fun w _ => (rspanK ⟨_, _⟩ _ _ w).as (congrArg Value.bool c1))) ?_
                refine lstepB rfl rfl rfl (run_not (.tmp rfl) (by first | exact Bool.not_true | exact Bool.not_false | exact rfl)) ?_
                refine lstepB rfl rfl rfl (run_move (.tmp rfl)) ?_
                refine lyes rfl rfl rfl rfl ?_
                refine gstepB rfl rfl (run_fieldAddr (.tmp rfl) fa28_1 (by first | exact Nat.zero_add _ | exact rfl)) ?_
                refine lyes rfl rfl rfl rfl ?_
                refine gstepB rfl rfl (run_load1 (.tmp rfl) kd3 (by repeat (first | exact List.Mem.head _ | apply List.Mem.tail)) (by exact rfl)) ?_
                refine lyes rfl rfl rfl rfl ?_
                refine gstepB rfl rfl (run_fieldAddr (.tmp rfl) fa28_0 (by first | exact Nat.zero_add _ | exact rfl)) ?_
                refine lyes rfl rfl rfl rfl ?_
                refine gstepB rfl rfl (run_load1 (.tmp rfl) kd3 (by repeat (first | exact List.Mem.head _ | apply List.Mem.tail)) (by exact rfl)) ?_
                refine lyes rfl rfl rfl rfl ?_
                refine gstepB rfl rfl (run_sub (.tmp rfl) (.tmp rfl) (by first | exact IntWalk.i64_in _ (by omega) | exact rfl)) ?_
                refine lyes rfl rfl rfl rfl ?_
                refine gstepB rfl rfl (run_gtr (.tmp rfl) .const (by first | exact decide_eq_true (by omega) | exact decide_eq_false (by omega) | exact rfl)) ?_
                refine lstepB rfl rfl rfl (by first | exact run_pick_true (.tmp rfl) .const | exact run_pick_false (.tmp rfl) (.tmp rfl)) ?_
                refine lstepB rfl rfl rfl (run_move (.tmp rfl)) ?_
                refine lyes rfl rfl rfl rfl ?_
                refine gstepB rfl rfl (run_fieldAddr (.tmp rfl) fa24_1 (by first | exact Nat.zero_add _ | exact rfl)) ?_
                refine lyes rfl rfl rfl rfl ?_
                refine gstepB rfl rfl (run_load1 (.tmp rfl) kd22 (by repeat (first | exact List.Mem.head _ | apply List.Mem.tail)) (by exact rfl)) ?_
                refine lyes rfl rfl rfl rfl ?_
                refine gstepB rfl rfl (run_move (.tmp rfl)) ?_
                refine lyes rfl rfl rfl rfl ?_
                refine gstepB rfl rfl (run_indexAddr (i := k) (off' := o2 + k * 2) (.tmp rfl) (.tmp rfl) el22 (by omega) rfl) ?_
                refine lyes rfl rfl rfl rfl ?_
                refine gstepB rfl rfl (run_loadN_at (l := spanC d) (.tmp rfl) kd28 sz28 rfl (fun w' hS j v hj => hS.old_cell (fun h => h) (z2 k d hd j v hj))) ?_
                refine lyes rfl rfl rfl rfl ?_
                refine gstepB rfl rfl (run_call1 cb73 (.cons (.tmp rfl) (.cons .const (.cons .const .nil))) (fun w _ => (rspanK ⟨_, _⟩ _ _ w).as (congrArg Value.bool c3))) ?_
                refine lyes rfl rfl rfl rfl ?_
                refine gstepB rfl rfl (run_not (.tmp rfl) (by first | exact Bool.not_true | exact Bool.not_false | exact rfl)) ?_
                refine lstepB rfl rfl rfl (by first | exact run_pick_true (.tmp rfl) .const | exact run_pick_false (.tmp rfl) (.tmp rfl)) ?_
                refine lstepB rfl rfl rfl (run_move (.tmp rfl)) ?_
                refine lskip rfl rfl rfl rfl rfl rfl rfl ?_
                refine lskip rfl rfl rfl rfl rfl rfl rfl ?_
                refine lskip rfl rfl rfl rfl rfl rfl rfl ?_
                refine lskip rfl rfl rfl rfl rfl rfl rfl ?_
                refine lskip rfl rfl rfl rfl rfl rfl rfl ?_
                refine lskip rfl rfl rfl rfl rfl rfl rfl ?_
                refine lskip rfl rfl rfl rfl rfl rfl rfl ?_
                refine lstepB rfl rfl rfl (by first | exact run_pick_true (.tmp rfl) .const | exact run_pick_false (.tmp rfl) (.tmp rfl)) ?_
                refine lnil ?_
                refine xw_then ?_
                refine cw_cond_true (.tmp rfl) ?_
                refine cw_seq ?_
                refine cw_region ?_
                refine lstepB rfl rfl rfl (run_assign .const) ?_
                refine lnil ?_
                refine xw_then ?_
                refine cw_ret ?_
                refine xw_in_ret ?_
                refine xw_then_ret ?_
                refine xw_then_ret ?_
                refine xw_in_ret ?_
                refine xw_then_ret ?_
                refine xw_ret1 Try.results35 rfl (fun w hS => ⟨by rw [hbad (by simp [okSt, c3])], hS.kept⟩)
              ·
                cases c4 : withinB e 0 40
                ·
                  refine cw_skip ?_
                  refine xw_then ?_
                  refine cw_seq ?_
                  refine cw_block ?_
                  refine cw_seq ?_
                  refine cw_region ?_
                  refine lstepB rfl rfl rfl (run_fieldAddr (.tmp rfl) fa24_0 (by first | exact Nat.zero_add _ | exact rfl)) ?_
                  refine lstepB rfl rfl rfl (run_load1 (.tmp rfl) kd22 (by repeat (first | exact List.Mem.head _ | apply List.Mem.tail)) (by exact rfl)) ?_
                  refine lstepB rfl rfl rfl (run_move (.tmp rfl)) ?_
                  refine lstepB rfl rfl rfl (run_indexAddr (i := k) (off' := o1 + k * 2) (.tmp rfl) (.tmp rfl) el22 (by omega) rfl) ?_
                  refine lstepB rfl rfl rfl (run_loadN_at (l := spanC o) (.tmp rfl) kd28 sz28 rfl (fun w' hS j v hj => hS.old_cell (fun h => h) (z1 k o ho j v hj))) ?_
                  refine lstep rfl rfl rfl (run_alloc zr28) ?_
                  intro b5 _
                  refine lstep0 rfl rfl (run_storeN (.tmp rfl) (.tmp rfl) rfl sz28 rfl (by repeat (first | exact Upd.here | apply Upd.there)) (by repeat (first | exact Put.done | apply Put.put | apply Put.skip))) ?_
                  refine lnil ?_
                  refine xw_then ?_
                  refine cw_seq ?_
                  refine cw_region ?_
                  refine lstepB rfl rfl rfl (run_loadN (.tmp rfl) kd28 sz28 (by repeat (first | exact List.Mem.head _ | apply List.Mem.tail)) (by repeat (first | exact Sub.done | apply Sub.take | apply Sub.skip))) ?_
                  refine lstepB rfl rfl rfl (run_call1 cb73 (.cons (.tmp rfl) (.cons .const (.cons .const .nil))) (fun w _ => (rspanK ⟨_, _⟩ _ _ w).as (congrArg Value.bool c1))) ?_
                  refine lstepB rfl rfl rfl (run_not (.tmp rfl) (by first | exact Bool.not_true | exact Bool.not_false | exact rfl)) ?_
                  refine lstepB rfl rfl rfl (run_move (.tmp rfl)) ?_
                  refine lyes rfl rfl rfl rfl ?_
                  refine gstepB rfl rfl (run_fieldAddr (.tmp rfl) fa28_1 (by first | exact Nat.zero_add _ | exact rfl)) ?_
                  refine lyes rfl rfl rfl rfl ?_
                  refine gstepB rfl rfl (run_load1 (.tmp rfl) kd3 (by repeat (first | exact List.Mem.head _ | apply List.Mem.tail)) (by exact rfl)) ?_
                  refine lyes rfl rfl rfl rfl ?_
                  refine gstepB rfl rfl (run_fieldAddr (.tmp rfl) fa28_0 (by first | exact Nat.zero_add _ | exact rfl)) ?_
                  refine lyes rfl rfl rfl rfl ?_
                  refine gstepB rfl rfl (run_load1 (.tmp rfl) kd3 (by repeat (first | exact List.Mem.head _ | apply List.Mem.tail)) (by exact rfl)) ?_
                  refine lyes rfl rfl rfl rfl ?_
                  refine gstepB rfl rfl (run_sub (.tmp rfl) (.tmp rfl) (by first | exact IntWalk.i64_in _ (by omega) | exact rfl)) ?_
                  refine lyes rfl rfl rfl rfl ?_
                  refine gstepB rfl rfl (run_gtr (.tmp rfl) .const (by first | exact decide_eq_true (by omega) | exact decide_eq_false (by omega) | exact rfl)) ?_
                  refine lstepB rfl rfl rfl (by first | exact run_pick_true (.tmp rfl) .const | exact run_pick_false (.tmp rfl) (.tmp rfl)) ?_
                  refine lstepB rfl rfl rfl (run_move (.tmp rfl)) ?_
                  refine lyes rfl rfl rfl rfl ?_
                  refine gstepB rfl rfl (run_fieldAddr (.tmp rfl) fa24_1 (by first | exact Nat.zero_add _ | exact rfl)) ?_
                  refine lyes rfl rfl rfl rfl ?_
                  refine gstepB rfl rfl (run_load1 (.tmp rfl) kd22 (by repeat (first | exact List.Mem.head _ | apply List.Mem.tail)) (by exact rfl)) ?_
                  refine lyes rfl rfl rfl rfl ?_
                  refine gstepB rfl rfl (run_move (.tmp rfl)) ?_
                  refine lyes rfl rfl rfl rfl ?_
                  refine gstepB rfl rfl (run_indexAddr (i := k) (off' := o2 + k * 2) (.tmp rfl) (.tmp rfl) el22 (by omega) rfl) ?_
                  refine lyes rfl rfl rfl rfl ?_
                  refine gstepB rfl rfl (run_loadN_at (l := spanC d) (.tmp rfl) kd28 sz28 rfl (fun w' hS j v hj => hS.old_cell (fun h => h) (z2 k d hd j v hj))) ?_
                  refine lyes rfl rfl rfl rfl ?_
                  refine gstepB rfl rfl (run_call1 cb73 (.cons (.tmp rfl) (.cons .const (.cons .const .nil))) (fun w _ => (rspanK ⟨_, _⟩ _ _ w).as (congrArg Value.bool c3))) ?_
                  refine lyes rfl rfl rfl rfl ?_
                  refine gstepB rfl rfl (run_not (.tmp rfl) (by first | exact Bool.not_true | exact Bool.not_false | exact rfl)) ?_
                  refine lstepB rfl rfl rfl (by first | exact run_pick_true (.tmp rfl) .const | exact run_pick_false (.tmp rfl) (.tmp rfl)) ?_
                  refine lstepB rfl rfl rfl (run_move (.tmp rfl)) ?_
                  refine lyes rfl rfl rfl rfl ?_
                  refine gstepB rfl rfl (run_fieldAddr (.tmp rfl) fa24_2 (by first | exact Nat.zero_add _ | exact rfl)) ?_
                  refine lyes rfl rfl rfl rfl ?_
                  refine gstepB rfl rfl (run_load1 (.tmp rfl) kd22 (by repeat (first | exact List.Mem.head _ | apply List.Mem.tail)) (by exact rfl)) ?_
                  refine lyes rfl rfl rfl rfl ?_
                  refine gstepB rfl rfl (run_move (.tmp rfl)) ?_
                  refine lyes rfl rfl rfl rfl ?_
                  refine gstepB rfl rfl (run_indexAddr (i := k) (off' := o3 + k * 2) (.tmp rfl) (.tmp rfl) el22 (by omega) rfl) ?_
                  refine lyes rfl rfl rfl rfl ?_
                  refine gstepB rfl rfl (run_loadN_at (l := spanC e) (.tmp rfl) kd28 sz28 rfl (fun w' hS j v hj => hS.old_cell (fun h => h) (z3 k e he j v hj))) ?_
                  refine lyes rfl rfl rfl rfl ?_
                  refine gstepB rfl rfl (run_call1 cb73 (.cons (.tmp rfl) (.cons .const (.cons .const .nil))) (fun w _ => (rspanK ⟨_, _⟩ _ _ w).as (congrArg Value.bool c4))) ?_
                  refine lyes rfl rfl rfl rfl ?_
                  refine gstepB rfl rfl (run_not (.tmp rfl) (by first | exact Bool.not_true | exact Bool.not_false | exact rfl)) ?_
                  refine lstepB rfl rfl rfl (by first | exact run_pick_true (.tmp rfl) .const | exact run_pick_false (.tmp rfl) (.tmp rfl)) ?_
                  refine lnil ?_
                  refine xw_then ?_
                  refine cw_cond_true (.tmp rfl) ?_
                  refine cw_seq ?_
                  refine cw_region ?_
                  refine lstepB rfl rfl rfl (run_assign .const) ?_
                  refine lnil ?_
                  refine xw_then ?_
                  refine cw_ret ?_
                  refine xw_in_ret ?_
                  refine xw_then_ret ?_
                  refine xw_then_ret ?_
                  refine xw_in_ret ?_
                  refine xw_then_ret ?_
                  refine xw_ret1 Try.results35 rfl (fun w hS => ⟨by rw [hbad (by simp [okSt, c4])], hS.kept⟩)
                ·
                  refine cw_skip ?_
                  refine xw_then ?_
                  refine cw_seq ?_
                  refine cw_block ?_
                  refine cw_seq ?_
                  refine cw_region ?_
                  refine lstepB rfl rfl rfl (run_fieldAddr (.tmp rfl) fa24_0 (by first | exact Nat.zero_add _ | exact rfl)) ?_
                  refine lstepB rfl rfl rfl (run_load1 (.tmp rfl) kd22 (by repeat (first | exact List.Mem.head _ | apply List.Mem.tail)) (by exact rfl)) ?_
                  refine lstepB rfl rfl rfl (run_move (.tmp rfl)) ?_
                  refine lstepB rfl rfl rfl (run_indexAddr (i := k) (off' := o1 + k * 2) (.tmp rfl) (.tmp rfl) el22 (by omega) rfl) ?_
                  refine lstepB rfl rfl rfl (run_loadN_at (l := spanC o) (.tmp rfl) kd28 sz28 rfl (fun w' hS j v hj => hS.old_cell (fun h => h) (z1 k o ho j v hj))) ?_
                  refine lstep rfl rfl rfl (run_alloc zr28) ?_
                  intro b5 _
                  refine lstep0 rfl rfl (run_storeN (.tmp rfl) (.tmp rfl) rfl sz28 rfl (by repeat (first | exact Upd.here | apply Upd.there)) (by repeat (first | exact Put.done | apply Put.put | apply Put.skip))) ?_
                  refine lnil ?_
                  refine xw_then ?_
                  refine cw_seq ?_
                  refine cw_region ?_
                  refine lstepB rfl rfl rfl (run_loadN (.tmp rfl) kd28 sz28 (by repeat (first | exact List.Mem.head _ | apply List.Mem.tail)) (by repeat (first | exact Sub.done | apply Sub.take | apply Sub.skip))) ?_
                  refine lstepB rfl rfl rfl (run_call1 cb73 (.cons (.tmp rfl) (.cons .const (.cons .const .nil))) (fun w _ => (rspanK ⟨_, _⟩ _ _ w).as (congrArg Value.bool c1))) ?_
                  refine lstepB rfl rfl rfl (run_not (.tmp rfl) (by first | exact Bool.not_true | exact Bool.not_false | exact rfl)) ?_
                  refine lstepB rfl rfl rfl (run_move (.tmp rfl)) ?_
                  refine lyes rfl rfl rfl rfl ?_
                  refine gstepB rfl rfl (run_fieldAddr (.tmp rfl) fa28_1 (by first | exact Nat.zero_add _ | exact rfl)) ?_
                  refine lyes rfl rfl rfl rfl ?_
                  refine gstepB rfl rfl (run_load1 (.tmp rfl) kd3 (by repeat (first | exact List.Mem.head _ | apply List.Mem.tail)) (by exact rfl)) ?_
                  refine lyes rfl rfl rfl rfl ?_
                  refine gstepB rfl rfl (run_fieldAddr (.tmp rfl) fa28_0 (by first | exact Nat.zero_add _ | exact rfl)) ?_
                  refine lyes rfl rfl rfl rfl ?_
                  refine gstepB rfl rfl (run_load1 (.tmp rfl) kd3 (by repeat (first | exact List.Mem.head _ | apply List.Mem.tail)) (by exact rfl)) ?_
                  refine lyes rfl rfl rfl rfl ?_
                  refine gstepB rfl rfl (run_sub (.tmp rfl) (.tmp rfl) (by first | exact IntWalk.i64_in _ (by omega) | exact rfl)) ?_
                  refine lyes rfl rfl rfl rfl ?_
                  refine gstepB rfl rfl (run_gtr (.tmp rfl) .const (by first | exact decide_eq_true (by omega) | exact decide_eq_false (by omega) | exact rfl)) ?_
                  refine lstepB rfl rfl rfl (by first | exact run_pick_true (.tmp rfl) .const | exact run_pick_false (.tmp rfl) (.tmp rfl)) ?_
                  refine lstepB rfl rfl rfl (run_move (.tmp rfl)) ?_
                  refine lyes rfl rfl rfl rfl ?_
                  refine gstepB rfl rfl (run_fieldAddr (.tmp rfl) fa24_1 (by first | exact Nat.zero_add _ | exact rfl)) ?_
                  refine lyes rfl rfl rfl rfl ?_
                  refine gstepB rfl rfl (run_load1 (.tmp rfl) kd22 (by repeat (first | exact List.Mem.head _ | apply List.Mem.tail)) (by exact rfl)) ?_
                  refine lyes rfl rfl rfl rfl ?_
                  refine gstepB rfl rfl (run_move (.tmp rfl)) ?_
                  refine lyes rfl rfl rfl rfl ?_
                  refine gstepB rfl rfl (run_indexAddr (i := k) (off' := o2 + k * 2) (.tmp rfl) (.tmp rfl) el22 (by omega) rfl) ?_
                  refine lyes rfl rfl rfl rfl ?_
                  refine gstepB rfl rfl (run_loadN_at (l := spanC d) (.tmp rfl) kd28 sz28 rfl (fun w' hS j v hj => hS.old_cell (fun h => h) (z2 k d hd j v hj))) ?_
                  refine lyes rfl rfl rfl rfl ?_
                  refine gstepB rfl rfl (run_call1 cb73 (.cons (.tmp rfl) (.cons .const (.cons .const .nil))) (fun w _ => (rspanK ⟨_, _⟩ _ _ w).as (congrArg Value.bool c3))) ?_
                  refine lyes rfl rfl rfl rfl ?_
                  refine gstepB rfl rfl (run_not (.tmp rfl) (by first | exact Bool.not_true | exact Bool.not_false | exact rfl)) ?_
                  refine lstepB rfl rfl rfl (by first | exact run_pick_true (.tmp rfl) .const | exact run_pick_false (.tmp rfl) (.tmp rfl)) ?_
                  refine lstepB rfl rfl rfl (run_move (.tmp rfl)) ?_
                  refine lyes rfl rfl rfl rfl ?_
                  refine gstepB rfl rfl (run_fieldAddr (.tmp rfl) fa24_2 (by first | exact Nat.zero_add _ | exact rfl)) ?_
                  refine lyes rfl rfl rfl rfl ?_
                  refine gstepB rfl rfl (run_load1 (.tmp rfl) kd22 (by repeat (first | exact List.Mem.head _ | apply List.Mem.tail)) (by exact rfl)) ?_
                  refine lyes rfl rfl rfl rfl ?_
                  refine gstepB rfl rfl (run_move (.tmp rfl)) ?_
                  refine lyes rfl rfl rfl rfl ?_
                  refine gstepB rfl rfl (run_indexAddr (i := k) (off' := o3 + k * 2) (.tmp rfl) (.tmp rfl) el22 (by omega) rfl) ?_
                  refine lyes rfl rfl rfl rfl ?_
                  refine gstepB rfl rfl (run_loadN_at (l := spanC e) (.tmp rfl) kd28 sz28 rfl (fun w' hS j v hj => hS.old_cell (fun h => h) (z3 k e he j v hj))) ?_
                  refine lyes rfl rfl rfl rfl ?_
                  refine gstepB rfl rfl (run_call1 cb73 (.cons (.tmp rfl) (.cons .const (.cons .const .nil))) (fun w _ => (rspanK ⟨_, _⟩ _ _ w).as (congrArg Value.bool c4))) ?_
                  refine lyes rfl rfl rfl rfl ?_
                  refine gstepB rfl rfl (run_not (.tmp rfl) (by first | exact Bool.not_true | exact Bool.not_false | exact rfl)) ?_
                  refine lstepB rfl rfl rfl (by first | exact run_pick_true (.tmp rfl) .const | exact run_pick_false (.tmp rfl) (.tmp rfl)) ?_
                  refine lnil ?_
                  refine xw_then ?_
                  refine cw_cond_false (.tmp rfl) ?_
                  refine cw_skip ?_
                  refine xw_in ?_
                  refine xw_then ?_
                  refine cw_region ?_
                  refine lstepB rfl rfl rfl (run_move (.tmp rfl)) ?_
                  refine lstepB rfl rfl rfl (run_add (.tmp rfl) .const (by first | exact IntWalk.i64_in _ (by omega) | exact rfl)) ?_
                  refine lstepB rfl rfl rfl (run_assign (.tmp rfl)) ?_
                  refine lnil ?_
                  exact xw_round (k + 1) ⟨by omega, fun j hj => by rcases Nat.lt_succ_iff_lt_or_eq.1 hj with h | rfl; exact hk.2 j h; rw [hok]; simp [okSt, c1, c2, c3, c4]⟩ (by show f.offs.length - (k + 1) < f.offs.length - k; omega) (by repeat (first | exact Less.nil | refine Less.cons rfl ?_)) (by repeat (first | exact Pick.nil | (apply Pick.cons; focus (repeat (first | exact Del.here | apply Del.there)))))
        ·
          obtain rfl : k = f.offs.length := by omega
          refine cw_exit ?_
          refine xw_then_exit ?_
          refine xw_then_exit ?_
          refine xw_in_exit ?_
          refine xw_then ?_
          refine cw_seq ?_
          refine cw_region ?_
          refine lstepB rfl rfl rfl (run_assign .const) ?_
          refine lnil ?_
          refine xw_then ?_
          refine cw_ret ?_
          refine xw_ret1 Try.results35 rfl (fun w hS => ⟨by rw [hv, List.all_eq_true.2 (fun j hj => hk.2 j (List.mem_range.1 hj))], hS.kept⟩)
      ·
        refine cw_seq ?_
        refine cw_region ?_
        refine lstep rfl rfl rfl (run_boxN (.tmp rfl)) ?_
        intro b1 _
        refine lstepB rfl rfl rfl (run_assign .const) ?_
        refine lnil ?_
        refine xw_then ?_
        refine cw_seq ?_
        refine cw_region ?_
        refine lstepB rfl rfl rfl (run_fieldAddr (.tmp rfl) fa24_0 (by first | exact Nat.zero_add _ | exact rfl)) ?_
        refine lstepB rfl rfl rfl (run_load1 (.tmp rfl) kd22 (by repeat (first | exact List.Mem.head _ | apply List.Mem.tail)) (by exact rfl)) ?_
        refine lstepB rfl rfl rfl (run_len (.tmp rfl) sl22) ?_
        refine lstepB rfl rfl rfl (run_assign (.tmp rfl)) ?_
        refine lnil ?_
        refine xw_then ?_
        refine cw_seq ?_
        refine cw_seq ?_
        refine cw_region ?_
        refine lstepB rfl rfl rfl (run_move (.tmp rfl)) ?_
        refine lstepB rfl rfl rfl (run_gtr (.tmp rfl) .const (by first | exact decide_eq_true (by omega) | exact decide_eq_false (by omega) | exact rfl)) ?_
        refine lstepB rfl rfl rfl (run_move (.tmp rfl)) ?_
        refine lyes rfl rfl rfl rfl ?_
        refine gstepB rfl rfl (run_fieldAddr (.tmp rfl) fa24_1 (by first | exact Nat.zero_add _ | exact rfl)) ?_
        refine lyes rfl rfl rfl rfl ?_
        refine gstepB rfl rfl (run_load1 (.tmp rfl) kd22 (by repeat (first | exact List.Mem.head _ | apply List.Mem.tail)) (by exact rfl)) ?_
        refine lyes rfl rfl rfl rfl ?_
        refine gstepB rfl rfl (run_len (.tmp rfl) sl22) ?_
        refine lyes rfl rfl rfl rfl ?_
        refine gstepB rfl rfl (run_move (.tmp rfl)) ?_
        refine lyes rfl rfl rfl rfl ?_
        refine gstepB rfl rfl (run_neq (.tmp rfl) (.tmp rfl) (decide_eq_false (by omega))) ?_
        refine lstepB rfl rfl rfl (by first | exact run_pick_true (.tmp rfl) .const | exact run_pick_false (.tmp rfl) (.tmp rfl)) ?_
        refine lstepB rfl rfl rfl (run_move (.tmp rfl)) ?_
        refine lyes rfl rfl rfl rfl ?_
        refine gstepB rfl rfl (run_fieldAddr (.tmp rfl) fa24_2 (by first | exact Nat.zero_add _ | exact rfl)) ?_
        refine lyes rfl rfl rfl rfl ?_
        refine gstepB rfl rfl (run_load1 (.tmp rfl) kd22 (by repeat (first | exact List.Mem.head _ | apply List.Mem.tail)) (by exact rfl)) ?_
        refine lyes rfl rfl rfl rfl ?_
        refine gstepB rfl rfl (run_len (.tmp rfl) sl22) ?_
        refine lyes rfl rfl rfl rfl ?_
        refine gstepB rfl rfl (run_move (.tmp rfl)) ?_
        refine lyes rfl rfl rfl rfl ?_
        refine gstepB rfl rfl (run_neq (.tmp rfl) (.tmp rfl) (decide_eq_true (by omega))) ?_
        refine lstepB rfl rfl rfl (by first | exact run_pick_true (.tmp rfl) .const | exact run_pick_false (.tmp rfl) (.tmp rfl)) ?_
        refine lnil ?_
        refine xw_then ?_
        refine cw_cond_true (.tmp rfl) ?_
        refine cw_seq ?_
        refine cw_region ?_
        refine lstepB rfl rfl rfl (run_assign .const) ?_
        refine lnil ?_
        refine xw_then ?_
        refine cw_ret ?_
        refine xw_then_ret ?_
        refine xw_ret1 Try.results35 rfl (fun w hS => ⟨by simp [validB, h3], hS.kept⟩)
    ·
      refine cw_seq ?_
      refine cw_region ?_
      refine lstep rfl rfl rfl (run_boxN (.tmp rfl)) ?_
      intro b1 _
      refine lstepB rfl rfl rfl (run_assign .const) ?_
      refine lnil ?_
      refine xw_then ?_
      refine cw_seq ?_
      refine cw_region ?_
      refine lstepB rfl rfl rfl (run_fieldAddr (.tmp rfl) fa24_0 (by first | exact Nat.zero_add _ | exact rfl)) ?_
      refine lstepB rfl rfl rfl (run_load1 (.tmp rfl) kd22 (by repeat (first | exact List.Mem.head _ | apply List.Mem.tail)) (by exact rfl)) ?_
      refine lstepB rfl rfl rfl (run_len (.tmp rfl) sl22) ?_
      refine lstepB rfl rfl rfl (run_assign (.tmp rfl)) ?_
      refine lnil ?_
      refine xw_then ?_
      refine cw_seq ?_
      refine cw_seq ?_
      refine cw_region ?_
      refine lstepB rfl rfl rfl (run_move (.tmp rfl)) ?_
      refine lstepB rfl rfl rfl (run_gtr (.tmp rfl) .const (by first | exact decide_eq_true (by omega) | exact decide_eq_false (by omega) | exact rfl)) ?_
      refine lstepB rfl rfl rfl (run_move (.tmp rfl)) ?_
      refine lyes rfl rfl rfl rfl ?_
      refine gstepB rfl rfl (run_fieldAddr (.tmp rfl) fa24_1 (by first | exact Nat.zero_add _ | exact rfl)) ?_
      refine lyes rfl rfl rfl rfl ?_
      refine gstepB rfl rfl (run_load1 (.tmp rfl) kd22 (by repeat (first | exact List.Mem.head _ | apply List.Mem.tail)) (by exact rfl)) ?_
      refine lyes rfl rfl rfl rfl ?_
      refine gstepB rfl rfl (run_len (.tmp rfl) sl22) ?_
      refine lyes rfl rfl rfl rfl ?_
      refine gstepB rfl rfl (run_move (.tmp rfl)) ?_
      refine lyes rfl rfl rfl rfl ?_
      refine gstepB rfl rfl (run_neq (.tmp rfl) (.tmp rfl) (decide_eq_true (by omega))) ?_
      refine lstepB rfl rfl rfl (by first | exact run_pick_true (.tmp rfl) .const | exact run_pick_false (.tmp rfl) (.tmp rfl)) ?_
      refine lstepB rfl rfl rfl (run_move (.tmp rfl)) ?_
      refine lskip rfl rfl rfl rfl rfl rfl rfl ?_
      refine lskip rfl rfl rfl rfl rfl rfl rfl ?_
      refine lskip rfl rfl rfl rfl rfl rfl rfl ?_
      refine lskip rfl rfl rfl rfl rfl rfl rfl ?_
      refine lskip rfl rfl rfl rfl rfl rfl rfl ?_
      refine lstepB rfl rfl rfl (by first | exact run_pick_true (.tmp rfl) .const | exact run_pick_false (.tmp rfl) (.tmp rfl)) ?_
      refine lnil ?_
      refine xw_then ?_
      refine cw_cond_true (.tmp rfl) ?_
      refine cw_seq ?_
      refine cw_region ?_
      refine lstepB rfl rfl rfl (run_assign .const) ?_
      refine lnil ?_
      refine xw_then ?_
      refine cw_ret ?_
      refine xw_then_ret ?_
      refine xw_ret1 Try.results35 rfl (fun w hS => ⟨by simp [validB, h2], hS.kept⟩)
def lenM (f : FurrowD) : Nat := max (max f.offs.length f.wids.length) f.deps.length
def wideB (f : FurrowD) (wd : Int) : Bool := f.offs.any fun s => decide (wd < s.hi - s.lo)
def heavyB (f : FurrowD) (st wd : Int) : Bool := if 40 < lenM f then true else if validB f then (wideB f wd || decide (st < (lenM f : Int))) else false
theorem lenM_max (f : FurrowD) : max (max (f.offs.length : Int) (f.wids.length : Int)) (f.deps.length : Int) = (lenM f : Int) := by unfold lenM; omega
theorem lenM_lens {f : FurrowD} (h : ¬ 40 < lenM f) : Lens f := ⟨by unfold lenM at h; omega⟩
set_option maxRecDepth 100000 in
set_option maxHeartbeats 4000000 in
theorem heavyK (f : FurrowD) (oa wa da : Option Addr) (oc wc dc : Nat) (st wd : Int) (w : World) (hbnd : f.offs.length ≤ 9223372036854775807 ∧ f.wids.length ≤ 9223372036854775807 ∧ f.deps.length ≤ 9223372036854775807) (hf : FurrowAt w f oa wa da) : Gives Try.prog 12 [furrowV f oa wa da oc wc dc, .int .i64 st, .int .i64 wd] w (.bool (heavyB f st wd)) := by
  refine .mk <| enter (n := 47) Try.func12 rfl rfl rfl (by repeat (first | exact Fill.nil | apply Fill.cons)) ?_
  unfold heavyB
  by_cases hbig : 40 < lenM f
  ·
    refine cw_seq ?_
    refine cw_region ?_
    refine lstep rfl rfl rfl (run_boxN (.tmp rfl)) ?_
    intro b3 _
    refine lstepB rfl rfl rfl (run_assign .const) ?_
    refine lnil ?_
    refine xw_then ?_
    refine cw_seq ?_
    refine cw_region ?_
    refine lstepB rfl rfl rfl (run_fieldAddr (.tmp rfl) fa24_0 (by first | exact Nat.zero_add _ | exact rfl)) ?_
    refine lstepB rfl rfl rfl (run_load1 (.tmp rfl) kd22 (by repeat (first | exact List.Mem.head _ | apply List.Mem.tail)) (by exact rfl)) ?_
    refine lstepB rfl rfl rfl (run_len (.tmp rfl) sl22) ?_
    refine lstepB rfl rfl rfl (run_fieldAddr (.tmp rfl) fa24_1 (by first | exact Nat.zero_add _ | exact rfl)) ?_
    refine lstepB rfl rfl rfl (run_load1 (.tmp rfl) kd22 (by repeat (first | exact List.Mem.head _ | apply List.Mem.tail)) (by exact rfl)) ?_
    refine lstepB rfl rfl rfl (run_len (.tmp rfl) sl22) ?_
    refine lstepB rfl rfl rfl (run_fieldAddr (.tmp rfl) fa24_2 (by first | exact Nat.zero_add _ | exact rfl)) ?_
    refine lstepB rfl rfl rfl (run_load1 (.tmp rfl) kd22 (by repeat (first | exact List.Mem.head _ | apply List.Mem.tail)) (by exact rfl)) ?_
    refine lstepB rfl rfl rfl (run_len (.tmp rfl) sl22) ?_
    refine lstepB rfl rfl rfl (run_max3 (.tmp rfl) (.tmp rfl) (.tmp rfl) (lenM_max f)) ?_
    refine lstepB rfl rfl rfl (run_assign (.tmp rfl)) ?_
    refine lnil ?_
    refine xw_then ?_
    refine cw_seq ?_
    refine cw_seq ?_
    refine cw_region ?_
    refine lstepB rfl rfl rfl (run_move (.tmp rfl)) ?_
    refine lstepB rfl rfl rfl (run_gtr (.tmp rfl) .const (by first | exact decide_eq_true (by omega) | exact decide_eq_false (by omega) | exact rfl)) ?_
    refine lstepB rfl rfl rfl (run_move (.tmp rfl)) ?_
    refine lskip rfl rfl rfl rfl rfl rfl rfl ?_
    refine lskip rfl rfl rfl rfl rfl rfl rfl ?_
    refine lskip rfl rfl rfl rfl rfl rfl rfl ?_
    refine lstepB rfl rfl rfl (by first | exact run_pick_true (.tmp rfl) .const | exact run_pick_false (.tmp rfl) (.tmp rfl)) ?_
    refine lnil ?_
    refine xw_then ?_
    refine cw_cond_true (.tmp rfl) ?_
    refine cw_seq ?_
    refine cw_region ?_
    refine lstepB rfl rfl rfl (run_move (.tmp rfl)) ?_
    refine lstepB rfl rfl rfl (run_gtr (.tmp rfl) .const (by first | exact decide_eq_true (by omega) | exact decide_eq_false (by omega) | exact rfl)) ?_
    refine lstepB rfl rfl rfl (run_assign (.tmp rfl)) ?_
    refine lnil ?_
    refine xw_then ?_
    refine cw_ret ?_
    refine xw_then_ret ?_
    refine xw_ret1 Try.results12 rfl (fun w hS => ⟨by rw [if_pos hbig], hS.kept⟩)
  ·
    have hm := lenM_lens hbig
    obtain ⟨hm1, hm2, hm3⟩ := hm.all
    rw [if_neg hbig]
    cases hv : validB f
    ·
      refine cw_seq ?_
      refine cw_region ?_
      refine lstep rfl rfl rfl (run_boxN (.tmp rfl)) ?_
      intro b3 _
      refine lstepB rfl rfl rfl (run_assign .const) ?_
      refine lnil ?_
      refine xw_then ?_
      refine cw_seq ?_
      refine cw_region ?_
      refine lstepB rfl rfl rfl (run_fieldAddr (.tmp rfl) fa24_0 (by first | exact Nat.zero_add _ | exact rfl)) ?_
      refine lstepB rfl rfl rfl (run_load1 (.tmp rfl) kd22 (by repeat (first | exact List.Mem.head _ | apply List.Mem.tail)) (by exact rfl)) ?_
      refine lstepB rfl rfl rfl (run_len (.tmp rfl) sl22) ?_
      refine lstepB rfl rfl rfl (run_fieldAddr (.tmp rfl) fa24_1 (by first | exact Nat.zero_add _ | exact rfl)) ?_
      refine lstepB rfl rfl rfl (run_load1 (.tmp rfl) kd22 (by repeat (first | exact List.Mem.head _ | apply List.Mem.tail)) (by exact rfl)) ?_
      refine lstepB rfl rfl rfl (run_len (.tmp rfl) sl22) ?_
      refine lstepB rfl rfl rfl (run_fieldAddr (.tmp rfl) fa24_2 (by first | exact Nat.zero_add _ | exact rfl)) ?_
      refine lstepB rfl rfl rfl (run_load1 (.tmp rfl) kd22 (by repeat (first | exact List.Mem.head _ | apply List.Mem.tail)) (by exact rfl)) ?_
      refine lstepB rfl rfl rfl (run_len (.tmp rfl) sl22) ?_
      refine lstepB rfl rfl rfl (run_max3 (.tmp rfl) (.tmp rfl) (.tmp rfl) (lenM_max f)) ?_
      refine lstepB rfl rfl rfl (run_assign (.tmp rfl)) ?_
      refine lnil ?_
      refine xw_then ?_
      refine cw_seq ?_
      refine cw_seq ?_
      refine cw_region ?_
      refine lstepB rfl rfl rfl (run_move (.tmp rfl)) ?_
      refine lstepB rfl rfl rfl (run_gtr (.tmp rfl) .const (by first | exact decide_eq_true (by omega) | exact decide_eq_false (by omega) | exact rfl)) ?_
      refine lstepB rfl rfl rfl (run_move (.tmp rfl)) ?_
      refine lyes rfl rfl rfl rfl ?_
      refine gstepB rfl rfl (run_loadN (.tmp rfl) kd24 sz24 (by repeat (first | exact List.Mem.head _ | apply List.Mem.tail)) (by repeat (first | exact Sub.done | apply Sub.take | apply Sub.skip))) ?_
      refine lyes rfl rfl rfl rfl ?_
      refine gstepB rfl rfl (run_call1 cb35 (.cons (.tmp rfl) .nil) (fun w2 hS => (rFurrowK f oa wa da oc wc dc w2 hm (hf.kept hS.kept)).as (congrArg Value.bool hv))) ?_
      refine lyes rfl rfl rfl rfl ?_
      refine gstepB rfl rfl (run_not (.tmp rfl) (by first | exact Bool.not_true | exact Bool.not_false | exact rfl)) ?_
      refine lstepB rfl rfl rfl (by first | exact run_pick_true (.tmp rfl) .const | exact run_pick_false (.tmp rfl) (.tmp rfl)) ?_
      refine lnil ?_
      refine xw_then ?_
      refine cw_cond_true (.tmp rfl) ?_
      refine cw_seq ?_
      refine cw_region ?_
      refine lstepB rfl rfl rfl (run_move (.tmp rfl)) ?_
      refine lstepB rfl rfl rfl (run_gtr (.tmp rfl) .const (by first | exact decide_eq_true (by omega) | exact decide_eq_false (by omega) | exact rfl)) ?_
      refine lstepB rfl rfl rfl (run_assign (.tmp rfl)) ?_
      refine lnil ?_
      refine xw_then ?_
      refine cw_ret ?_
      refine xw_then_ret ?_
      refine xw_ret1 Try.results12 rfl (fun w hS => ⟨rfl, hS.kept⟩)
    ·
      refine cw_seq ?_
      refine cw_region ?_
      refine lstep rfl rfl rfl (run_boxN (.tmp rfl)) ?_
      intro b3 _
      refine lstepB rfl rfl rfl (run_assign .const) ?_
      refine lnil ?_
      refine xw_then ?_
      refine cw_seq ?_
      refine cw_region ?_
      refine lstepB rfl rfl rfl (run_fieldAddr (.tmp rfl) fa24_0 (by first | exact Nat.zero_add _ | exact rfl)) ?_
      refine lstepB rfl rfl rfl (run_load1 (.tmp rfl) kd22 (by repeat (first | exact List.Mem.head _ | apply List.Mem.tail)) (by exact rfl)) ?_
      refine lstepB rfl rfl rfl (run_len (.tmp rfl) sl22) ?_
      refine lstepB rfl rfl rfl (run_fieldAddr (.tmp rfl) fa24_1 (by first | exact Nat.zero_add _ | exact rfl)) ?_
      refine lstepB rfl rfl rfl (run_load1 (.tmp rfl) kd22 (by repeat (first | exact List.Mem.head _ | apply List.Mem.tail)) (by exact rfl)) ?_
      refine lstepB rfl rfl rfl (run_len (.tmp rfl) sl22) ?_
      refine lstepB rfl rfl rfl (run_fieldAddr (.tmp rfl) fa24_2 (by first | exact Nat.zero_add _ | exact rfl)) ?_
      refine lstepB rfl rfl rfl (run_load1 (.tmp rfl) kd22 (by repeat (first | exact List.Mem.head _ | apply List.Mem.tail)) (by exact rfl)) ?_
      refine lstepB rfl rfl rfl (run_len (.tmp rfl) sl22) ?_
      refine lstepB rfl rfl rfl (run_max3 (.tmp rfl) (.tmp rfl) (.tmp rfl) (lenM_max f)) ?_
      refine lstepB rfl rfl rfl (run_assign (.tmp rfl)) ?_
      refine lnil ?_
      refine xw_then ?_
      refine cw_seq ?_
      refine cw_seq ?_
      refine cw_region ?_
      refine lstepB rfl rfl rfl (run_move (.tmp rfl)) ?_
      refine lstepB rfl rfl rfl (run_gtr (.tmp rfl) .const (by first | exact decide_eq_true (by omega) | exact decide_eq_false (by omega) | exact rfl)) ?_
      refine lstepB rfl rfl rfl (run_move (.tmp rfl)) ?_
      refine lyes rfl rfl rfl rfl ?_
      refine gstepB rfl rfl (run_loadN (.tmp rfl) kd24 sz24 (by repeat (first | exact List.Mem.head _ | apply List.Mem.tail)) (by repeat (first | exact Sub.done | apply Sub.take | apply Sub.skip))) ?_
      refine lyes rfl rfl rfl rfl ?_
      refine gstepB rfl rfl (run_call1 cb35 (.cons (.tmp rfl) .nil) (fun w2 hS => (rFurrowK f oa wa da oc wc dc w2 hm (hf.kept hS.kept)).as (congrArg Value.bool hv))) ?_
      refine lyes rfl rfl rfl rfl ?_
      refine gstepB rfl rfl (run_not (.tmp rfl) (by first | exact Bool.not_true | exact Bool.not_false | exact rfl)) ?_
      refine lstepB rfl rfl rfl (by first | exact run_pick_true (.tmp rfl) .const | exact run_pick_false (.tmp rfl) (.tmp rfl)) ?_
      refine lnil ?_
      refine xw_then ?_
      refine cw_cond_false (.tmp rfl) ?_
      have hvf := validF hv
      refine cw_skip ?_
      refine xw_then ?_
      refine cw_seq ?_
      refine cw_seq ?_
      refine cw_region ?_
      refine lstepB rfl rfl rfl (run_fieldAddr (.tmp rfl) fa24_0 (by first | exact Nat.zero_add _ | exact rfl)) ?_
      refine lstepB rfl rfl rfl (run_load1 (.tmp rfl) kd22 (by repeat (first | exact List.Mem.head _ | apply List.Mem.tail)) (by exact rfl)) ?_
      refine lstepB rfl rfl rfl (run_len (.tmp rfl) sl22) ?_
      refine lstepB rfl rfl rfl (run_move .const) ?_
      refine lnil ?_
      refine xw_then ?_
      refine cw_block ?_
      refine cw_loop (S := Nat) (fun k => [(32, .int .i64 (k : Int))]) [(1, _), (2, _), (3, _), (7, _), (30, _), (31, _)] (fun k => [(b3, _)]) (fun k => k ≤ f.offs.length ∧ ∀ j, j < k → ¬ wd < (f.offs.getD j default).hi - (f.offs.getD j default).lo) (fun k => f.offs.length - k) 0 ⟨Nat.zero_le _, fun j h => absurd h (Nat.not_lt_zero j)⟩ (by repeat (first | exact Less.nil | refine Less.cons rfl ?_)) (by repeat (first | exact Pick.nil | (apply Pick.cons; focus (repeat (first | exact Del.here | apply Del.there))))) ?_
      intro k hk
      refine cw_seq ?_
      refine cw_region ?_
      refine lstepB rfl rfl rfl (run_lss (.tmp rfl) (.tmp rfl) (by first | exact decide_eq_true (by omega) | exact decide_eq_false (by omega) | exact rfl)) ?_
      refine lnil ?_
      refine xw_then ?_
      refine cw_seq ?_
      refine cw_cond_p (.tmp rfl) (fun hl => ?_) (fun hl => ?_)
      ·
        have hsk := getD_some (l := f.offs) (k := k) (by omega)
        obtain ⟨b, o, hoa, hb, hc⟩ := hf.offs.span (by omega)
        subst hoa
        have hst := (hvf.st (k := k) (by omega)).1
        refine cw_skip ?_
        refine xw_then ?_
        refine cw_seq ?_
        refine cw_block ?_
        refine cw_seq ?_
        refine cw_region ?_
        refine lstepB rfl rfl rfl (run_indexAddr (i := k) (off' := o + k * 2) (.tmp rfl) (.tmp rfl) el22 (by omega) rfl) ?_
        refine lstepB rfl rfl rfl (run_loadN_at (l := spanC (f.offs.getD k default)) (.tmp rfl) kd28 sz28 rfl (fun w' hS j v hj => hS.old_cell (fun h => h) (hc k _ hsk j v hj))) ?_
        refine lstep rfl rfl rfl (run_alloc zr28) ?_
        intro b9 _
        refine lstep0 rfl rfl (run_storeN (.tmp rfl) (.tmp rfl) rfl sz28 rfl (by repeat (first | exact Upd.here | apply Upd.there)) (by repeat (first | exact Put.done | apply Put.put | apply Put.skip))) ?_
        refine lnil ?_
        refine xw_then ?_
        refine cw_seq ?_
        refine cw_region ?_
        refine lstepB rfl rfl rfl (run_fieldAddr (.tmp rfl) fa28_1 (by first | exact Nat.zero_add _ | exact rfl)) ?_
        refine lstepB rfl rfl rfl (run_load1 (.tmp rfl) kd3 (by repeat (first | exact List.Mem.head _ | apply List.Mem.tail)) (by exact rfl)) ?_
        refine lstepB rfl rfl rfl (run_fieldAddr (.tmp rfl) fa28_0 (by first | exact Nat.zero_add _ | exact rfl)) ?_
        refine lstepB rfl rfl rfl (run_load1 (.tmp rfl) kd3 (by repeat (first | exact List.Mem.head _ | apply List.Mem.tail)) (by exact rfl)) ?_
        refine lstepB rfl rfl rfl (run_sub (.tmp rfl) (.tmp rfl) (by first | exact IntWalk.i64_in _ (by omega) | exact rfl)) ?_
        refine lstepB rfl rfl rfl (run_move (.tmp rfl)) ?_
        refine lstepB rfl rfl rfl (run_gtr (.tmp rfl) (.tmp rfl) rfl) ?_
        refine lnil ?_
        refine xw_then ?_
        refine cw_cond_p (.tmp rfl) (fun hc2 => ?_) (fun hc2 => ?_)
        ·
          refine cw_seq ?_
          refine cw_region ?_
          refine lstepB rfl rfl rfl (run_assign .const) ?_
          refine lnil ?_
          refine xw_then ?_
          refine cw_ret ?_
          refine xw_in_ret ?_
          refine xw_then_ret ?_
          refine xw_then_ret ?_
          refine xw_in_ret ?_
          refine xw_then_ret ?_
          refine xw_ret1 Try.results12 rfl (fun w hS => ⟨by rw [if_pos rfl, show wideB f wd = true from List.any_eq_true.2 ⟨_, List.mem_of_getElem? hsk, by simpa using hc2⟩, Bool.true_or], hS.kept⟩)
        ·
          refine cw_skip ?_
          refine xw_in ?_
          refine xw_then ?_
          refine cw_region ?_
          refine lstepB rfl rfl rfl (run_add (.tmp rfl) .const (by first | exact IntWalk.i64_in _ (by omega) | exact rfl)) ?_
          refine lstepB rfl rfl rfl (run_move (.tmp rfl)) ?_
          refine lnil ?_
          exact xw_round (k + 1) ⟨by omega, fun j hj => by rcases Nat.lt_succ_iff_lt_or_eq.1 hj with h | rfl; exact hk.2 j h; exact hc2⟩ (by show f.offs.length - (k + 1) < f.offs.length - k; omega) (by repeat (first | exact Less.nil | refine Less.cons rfl ?_)) (by repeat (first | exact Pick.nil | (apply Pick.cons; focus (repeat (first | exact Del.here | apply Del.there)))))
      ·
        obtain rfl : k = f.offs.length := by omega
        have hw : wideB f wd = false := by
          unfold wideB
          rw [List.any_eq_false]
          intro s hs
          obtain ⟨j, hj, rfl⟩ := List.getElem_of_mem hs
          have := hk.2 j hj
          rw [List.getD_eq_getElem?_getD, List.getElem?_eq_getElem hj] at this
          simpa using this
        refine cw_exit ?_
        refine xw_then_exit ?_
        refine xw_then_exit ?_
        refine xw_in_exit ?_
        refine xw_then ?_
        refine cw_seq ?_
        refine cw_region ?_
        refine lstepB rfl rfl rfl (run_move (.tmp rfl)) ?_
        refine lstepB rfl rfl rfl (run_move (.tmp rfl)) ?_
        refine lstepB rfl rfl rfl (run_gtr (.tmp rfl) (.tmp rfl) rfl) ?_
        refine lstepB rfl rfl rfl (run_assign (.tmp rfl)) ?_
        refine lnil ?_
        refine xw_then ?_
        refine cw_ret ?_
        refine xw_ret1 Try.results12 rfl (fun w hS => ⟨by rw [if_pos rfl, hw, Bool.false_or], hS.kept⟩)
def SmallL (t : List Int) : Prop := ∀ x ∈ t, -900 ≤ x ∧ x ≤ 900
theorem getI_some {t : List Int} {k : Nat} (h : k < t.length) : t[k]? = some (t.getD k 0) := by rw [List.getD_eq_getElem?_getD, List.getElem?_eq_getElem h]; rfl
theorem SmallL.at_ {t : List Int} (h : SmallL t) {k : Nat} (hk : k < t.length) : -900 ≤ t.getD k 0 ∧ t.getD k 0 ≤ 900 := h _ (List.mem_of_getElem? (getI_some hk))
set_option maxRecDepth 100000 in
set_option maxHeartbeats 4000000 in
theorem rbendK (t : List Int) (k : Nat) (hk : 1 ≤ k) (hk2 : k + 1 < t.length) (hn : t.length ≤ 1000000) (hs : SmallL t) (a : Option Addr) (c : Nat) (w : World) (hp : IntsAt w a t) : Gives Try.prog 52 [.slice a t.length c, .int .i64 (k : Int)] w (.int .i64 (bentT t k)) := by
  refine .mk <| enter (n := 27) Try.func52 rfl rfl rfl (by repeat (first | exact Fill.nil | apply Fill.cons)) ?_
  obtain ⟨b, o, rfl, hb, hc⟩ := hp.int (by omega)
  have s0 := hs.at_ (k := k - 1) (by omega)
  have s1 := hs.at_ (k := k) (by omega)
  have s2 := hs.at_ (k := k + 1) (by omega)
  refine cw_seq ?_
  refine cw_region ?_
  refine lstepB rfl rfl rfl (run_assign .const) ?_
  refine lnil ?_
  refine xw_then ?_
  refine cw_seq ?_
  refine cw_chain2 (σ := [0, 1, 2, 3, 4, 5, 6, 7, 8, 9, 10, 11, 12, 13, 14, 15, 16, 17]) [⟨0, [], [], [], 0⟩, ⟨0, [], [], [], 0⟩, ⟨0, [], [], [], 3⟩, ⟨0, [], [], [], 7⟩, ⟨0, [], [], [], 15⟩, ⟨0, [], [], [], 0⟩, ⟨0, [], [], [], 0⟩, ⟨0, [], [], [], 64⟩, ⟨0, [], [], [], 224⟩, ⟨0, [], [], [], 480⟩, ⟨0, [], [], [], 1023⟩, ⟨0, [], [], [], 0⟩, ⟨0, [], [], [], 0⟩, ⟨0, [], [], [], 4096⟩, ⟨0, [], [], [], 14336⟩, ⟨0, [], [], [], 30720⟩, ⟨0, [], [], [], 65535⟩, ⟨0, [], [], [], 131071⟩] [] (by kernel_rfl) (by kernel_rfl) rfl ?_
  refine .det (B := []) rfl rfl (.inl rfl) .nil .nil rfl (RunB.lr (run_move (.tmp rfl))) ?_
  refine .det (B := []) rfl rfl (.inl rfl) .nil .nil rfl (RunB.lr (run_move (.tmp rfl))) ?_
  refine .det (B := []) rfl rfl (.inl rfl) .nil .nil rfl (RunB.lr (run_indexAddr (i := k) (off' := o + (k)) (.tmp rfl) (.tmp rfl) el33 (by omega) (by rw [Nat.mul_one]))) ?_
  refine .det (B := []) rfl rfl (.inl rfl) .nil .nil rfl (RunB.lr (run_load1_at (.tmp rfl) kd3 (fun w' hS => hS.old_cell (fun h => h) (hc (k) _ (getI_some (by omega)))))) ?_
  refine .det (B := []) rfl rfl (.inl rfl) .nil .nil rfl (RunB.lr (run_mul .const (.tmp rfl) (by first | exact IntWalk.i64_in _ (by omega) | exact rfl))) ?_
  refine .det (B := []) rfl rfl (.inl rfl) .nil .nil rfl (RunB.lr (run_move (.tmp rfl))) ?_
  refine .det (B := []) rfl rfl (.inl rfl) .nil .nil rfl (RunB.lr (run_move (.tmp rfl))) ?_
  refine .det (B := []) rfl rfl (.inl rfl) .nil .nil rfl (RunB.lr (run_sub (c := ((k - 1 : Nat) : Int)) (.tmp rfl) .const (by rw [show ((k - 1 : Nat) : Int) = (k : Int) - 1 by omega]; exact IntWalk.i64_in _ (by omega)))) ?_
  refine .det (B := []) rfl rfl (.inl rfl) .nil .nil rfl (RunB.lr (run_indexAddr (i := k - 1) (off' := o + (k - 1)) (.tmp rfl) (.tmp rfl) el33 (by omega) (by rw [Nat.mul_one]))) ?_
  refine .det (B := []) rfl rfl (.inl rfl) .nil .nil rfl (RunB.lr (run_load1_at (.tmp rfl) kd3 (fun w' hS => hS.old_cell (fun h => h) (hc (k - 1) _ (getI_some (by omega)))))) ?_
  refine .det (B := []) rfl rfl (.inl rfl) .nil .nil rfl (RunB.lr (run_sub (.tmp rfl) (.tmp rfl) (by first | exact IntWalk.i64_in _ (by omega) | exact rfl))) ?_
  refine .det (B := []) rfl rfl (.inl rfl) .nil .nil rfl (RunB.lr (run_move (.tmp rfl))) ?_
  refine .det (B := []) rfl rfl (.inl rfl) .nil .nil rfl (RunB.lr (run_move (.tmp rfl))) ?_
  refine .det (B := []) rfl rfl (.inl rfl) .nil .nil rfl (RunB.lr (run_add (c := ((k + 1 : Nat) : Int)) (.tmp rfl) .const (by rw [show ((k + 1 : Nat) : Int) = (k : Int) + 1 by omega]; exact IntWalk.i64_in _ (by omega)))) ?_
  refine .det (B := []) rfl rfl (.inl rfl) .nil .nil rfl (RunB.lr (run_indexAddr (i := k + 1) (off' := o + (k + 1)) (.tmp rfl) (.tmp rfl) el33 (by omega) (by rw [Nat.mul_one]))) ?_
  refine .det (B := []) rfl rfl (.inl rfl) .nil .nil rfl (RunB.lr (run_load1_at (.tmp rfl) kd3 (fun w' hS => hS.old_cell (fun h => h) (hc (k + 1) _ (getI_some (by omega)))))) ?_
  refine .det (B := []) rfl rfl (.inl rfl) .nil .nil rfl (RunB.lr (run_sub (.tmp rfl) (.tmp rfl) (by first | exact IntWalk.i64_in _ (by omega) | exact rfl))) ?_
  refine .det (B := []) rfl rfl (.inl rfl) .nil .nil rfl (RunB.lr (run_assign (.tmp rfl))) ?_
  refine chain_nil (ts := []) .nil (by decide) ?_
  refine xw_then ?_
  refine cw_seq ?_
  refine cw_region ?_
  refine lstepB rfl rfl rfl (run_move (.tmp rfl)) ?_
  refine lstepB rfl rfl rfl (run_move (.tmp rfl)) ?_
  refine lstepB rfl rfl rfl (run_neg (.tmp rfl) (by first | exact IntWalk.i64_in _ (by omega) | exact rfl)) ?_
  refine lstepB rfl rfl rfl (run_max2 (.tmp rfl) (.tmp rfl)) ?_
  refine lstepB rfl rfl rfl (run_assign (.tmp rfl)) ?_
  refine lnil ?_
  refine xw_then ?_
  refine cw_ret ?_
  refine xw_ret1 Try.results52 rfl (fun w hS => ⟨rfl, hS.kept⟩)
set_option maxRecDepth 100000 in
set_option maxHeartbeats 4000000 in
theorem rmostK (t : List Int) (hn : t.length ≤ 1000000) (hs : SmallL t) (a : Option Addr) (c : Nat) (w : World) (hp : IntsAt w a t) : Gives Try.prog 32 [.slice a t.length c] w (.int .i64 (mostT t)) := by
  refine .mk <| enter (n := 18) Try.func32 rfl rfl rfl (by repeat (first | exact Fill.nil | apply Fill.cons)) ?_
  rw [show mostT t = mostN t (t.length - 2) from rfl]
  refine cw_seq ?_
  refine cw_region ?_
  refine lstepB rfl rfl rfl (run_assign .const) ?_
  refine lnil ?_
  refine xw_then ?_
  refine cw_seq ?_
  refine cw_region ?_
  refine lstepB rfl rfl rfl (run_assign .const) ?_
  refine lnil ?_
  refine xw_then ?_
  refine cw_seq ?_
  refine cw_seq ?_
  refine cw_region ?_
  refine lstepB rfl rfl rfl (run_assign .const) ?_
  refine lnil ?_
  refine xw_then ?_
  refine cw_block ?_
  refine cw_loop (S := Nat) (fun k => [(3, .int .i64 (mostN t k)), (4, .int .i64 ((k + 1 : Nat) : Int))]) [(0, _)] (fun k => []) (fun k => k ≤ t.length - 2) (fun k => t.length - k) 0 (Nat.zero_le _) (by repeat (first | exact Less.nil | refine Less.cons rfl ?_)) (by repeat (first | exact Pick.nil | (apply Pick.cons; focus (repeat (first | exact Del.here | apply Del.there))))) ?_
  intro k hk
  refine cw_seq ?_
  refine cw_seq ?_
  refine cw_region ?_
  refine lstepB rfl rfl rfl (run_move (.tmp rfl)) ?_
  refine lstepB rfl rfl rfl (run_add (c := (k : Int) + 2) (.tmp rfl) .const (by rw [show ((k + 1 : Nat) : Int) + 1 = (k : Int) + 2 by omega]; exact IntWalk.i64_in _ (by omega))) ?_
  refine lstepB rfl rfl rfl (run_move (.tmp rfl)) ?_
  refine lstepB rfl rfl rfl (run_len (.tmp rfl) sl33) ?_
  refine lstepB rfl rfl rfl (run_lss (.tmp rfl) (.tmp rfl) (by first | exact decide_eq_true (by omega) | exact decide_eq_false (by omega) | exact rfl)) ?_
  refine lnil ?_
  refine xw_then ?_
  refine cw_cond_p (.tmp rfl) (fun hl => ?_) (fun hl => ?_)
  ·
    refine cw_skip ?_
    refine xw_then ?_
    refine cw_seq ?_
    refine cw_block ?_
    refine cw_region ?_
    refine lstepB rfl rfl rfl (run_move (.tmp rfl)) ?_
    refine lstepB rfl rfl rfl (run_move (.tmp rfl)) ?_
    refine lstepB rfl rfl rfl (run_move (.tmp rfl)) ?_
    refine lstepB rfl rfl rfl (run_call1 cb52 (.cons (.tmp rfl) (.cons (.tmp rfl) .nil)) (fun w2 hS => rbendK t (k + 1) (by omega) (by omega) hn hs a c w2 (hp.kept hS.kept))) ?_
    refine lstepB rfl rfl rfl (run_max2 (.tmp rfl) (.tmp rfl)) ?_
    refine lstepB rfl rfl rfl (run_assign (.tmp rfl)) ?_
    refine lnil ?_
    refine xw_in ?_
    refine xw_then ?_
    refine cw_region ?_
    refine lstepB rfl rfl rfl (run_move (.tmp rfl)) ?_
    refine lstepB rfl rfl rfl (run_add (c := ((k + 1 + 1 : Nat) : Int)) (.tmp rfl) .const (by rw [show ((k + 1 + 1 : Nat) : Int) = ((k + 1 : Nat) : Int) + 1 by omega]; exact IntWalk.i64_in _ (by omega))) ?_
    refine lstepB rfl rfl rfl (run_assign (.tmp rfl)) ?_
    refine lnil ?_
    exact xw_round (k + 1) (by show k + 1 ≤ _; omega) (by show t.length - (k + 1) < t.length - k; omega) (by repeat (first | exact Less.nil | refine Less.cons rfl ?_)) (by repeat (first | exact Pick.nil | (apply Pick.cons; focus (repeat (first | exact Del.here | apply Del.there)))))
  ·
    obtain rfl : k = t.length - 2 := by omega
    refine cw_exit ?_
    refine xw_then_exit ?_
    refine xw_then_exit ?_
    refine xw_in_exit ?_
    refine xw_then ?_
    refine cw_seq ?_
    refine cw_region ?_
    refine lstepB rfl rfl rfl (run_move (.tmp rfl)) ?_
    refine lstepB rfl rfl rfl (run_assign (.tmp rfl)) ?_
    refine lnil ?_
    refine xw_then ?_
    refine cw_ret ?_
    refine xw_ret1 Try.results32 rfl (fun w hS => ⟨rfl, hS.kept⟩)
def cntN (s k : Nat) : Nat := (List.range k).countP fun i => s.testBit i
end Go.Proofs.Ytjdeplehhmhpcaa
