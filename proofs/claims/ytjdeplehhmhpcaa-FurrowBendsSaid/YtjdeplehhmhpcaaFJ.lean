/- Package furrow: hasWay, asked, and bounds of bends. -/
import Derived.Test.YtjdeplehhmhpcaaFI
namespace Go.Proofs.Ytjdeplehhmhpcaa
open Go.RowKit En

abbrev suitV (f : FuncId) (s : Nat) : Value := .func (.func f) #[] [ptrV s].toArray
theorem bd124 {lo hi : Int} {F : Fn} {fs cs : Array Value} (w : World) : (Instr.build 124 [(0, .agg [.int .i64 lo, .int .i64 hi].toArray), (1, .func F fs cs)].toArray).run Try.prog w = .ok (.agg [.int .i64 lo, .int .i64 hi, .func F fs cs].toArray) w := by simp [go_sem]
theorem bs108 {lo hi : Int} {F : Fn} {fs cs : Array Value} (w : World) : (Instr.buildSlice 108 1 [(0, .agg [.int .i64 lo, .int .i64 hi, .func F fs cs].toArray)].toArray).run Try.prog w = .ok (.slice (some ⟨w.heap.size, 0, none⟩) 1 1) (w.alloc (Obj.cells [.int .i64 lo, .int .i64 hi, .func F fs cs].toArray 124 (0, 0))) := by simp [go_sem]
abbrev spotsC (l : List SpotD) : List Value := l.flatMap spotC
theorem spotsC_length (l : List SpotD) : (spotsC l).length = l.length * 3 := by
  induction l with
  | nil => rfl
  | cons a r ih => simp only [spotsC, List.flatMap_cons, List.length_append, List.length_cons, List.length_nil] at ih ⊢; omega
theorem spotsC_at : ∀ (l : List SpotD) (i : Nat) (s : SpotD), l[i]? = some s → (spotsC l)[i * 3]? = some (.int .i64 s.lo) ∧ (spotsC l)[i * 3 + 1]? = some (.int .i64 s.hi) ∧ (spotsC l)[i * 3 + 2]? = some s.fn
  | [], i, s, h => by cases h
  | a :: r, 0, s, h => by cases h; exact ⟨rfl, rfl, rfl⟩
  | a :: r, i + 1, s, h => by
    have := spotsC_at r i s h
    rw [show (i + 1) * 3 = i * 3 + 3 by omega]
    exact this
theorem spots_succ {l : List SpotD} {k : Nat} {s : SpotD} (h : l[k]? = some s) : spotsC (l.take k) ++ [.int .i64 s.lo, .int .i64 s.hi, s.fn] = spotsC (l.take (k + 1)) := by
  rw [List.take_add_one, h]
  simp [spotsC, List.flatMap_append]
theorem spotsAt_row {w : World} {b cap : Nat} {cur : List Value} {te : TypeId} {fr : Nat × Nat} {l : List SpotD} {n : Nat} (h : w.heap[b]? = some (.cells cur.toArray te fr)) (hr : InRow 3 n cap cur (spotsC l)) : SpotsAt w (some ⟨b, 0, none⟩) l := rowsAt_cells h fun i r hi j v hj => by
  rw [List.getElem?_map] at hi
  obtain ⟨m, hm, rfl⟩ := Option.map_eq_some_iff.1 hi
  obtain ⟨a1, a2, a3⟩ := spotsC_at l i m hm
  match j, hj with
  | 0, hj => cases hj; simpa using hr.get a1
  | 1, hj => cases hj; simpa using hr.get a2
  | 2, hj => cases hj; simpa using hr.get a3
/-- The stations of a course, each of which is asked the same. -/
def askedL (l : List SpanD) (v : Value) (ok : Int → Bool) : List SpotD := l.map fun s => ⟨s.lo, s.hi, v, ok⟩
theorem askedL_at {l : List SpanD} {v : Value} {ok : Int → Bool} {k : Nat} {s : SpanD} (h : l[k]? = some s) : (askedL l v ok)[k]? = some ⟨s.lo, s.hi, v, ok⟩ := by simp [askedL, h]
theorem askedL_length (l : List SpanD) (v : Value) (ok : Int → Bool) : (askedL l v ok).length = l.length := by simp [askedL]
theorem pred_most {w : World} {s : Nat} {m : Int} (h : w.cell? ⟨s, 0, none⟩ = some (.int .i64 m)) : PredAt w (suitV 101 s) (fun x => decide (x ≤ m)) InB :=
  .inl ⟨101, _, rfl, cb101, fun w2 hb x _ => suit101K x m s w2 (cell_kept' h hb)⟩
theorem pred_least {w : World} {s : Nat} {m : Int} (h : w.cell? ⟨s, 0, none⟩ = some (.int .i64 m)) : PredAt w (suitV 112 s) (fun x => decide (m ≤ x)) InB :=
  .inl ⟨112, _, rfl, cb112, fun w2 hb x _ => suit112K x m s w2 (cell_kept' h hb)⟩
set_option maxRecDepth 100000 in
set_option maxHeartbeats 4000000 in
theorem make101K (m : Int) (w : World) : CallsF Try.prog 82 (([.int .i64 m] : List Value)).toArray w fun e w' => ∃ s : Nat, True ∧ e = .returned (suitV 101 s) ∧ St w NoT [(s, Obj.cells [.int .i64 m].toArray 3 (0, 0))] w' := by
  refine enter (n := 4) Try.func82 rfl rfl rfl (by repeat (first | exact Fill.nil | apply Fill.cons)) ?_
  refine cw_seq ?_
  refine cw_region ?_
  refine lstep rfl rfl rfl (run_box1 (.tmp rfl) rfl) ?_
  intro b1 _
  refine lstepB rfl rfl rfl (run_assign .const) ?_
  refine lnil ?_
  refine xw_then ?_
  refine cw_seq ?_
  refine cw_region ?_
  refine lstepB rfl rfl rfl (En.run_makeFunc .nil (.cons (.tmp rfl) .nil)) ?_
  refine lstepB rfl rfl rfl (run_assign (.tmp rfl)) ?_
  refine lnil ?_
  refine xw_then ?_
  refine cw_ret ?_
  refine xw_ret1 Try.results82 rfl (fun w2 hS => ⟨b1, trivial, rfl, hS.pick (by repeat (first | exact Pick.nil | (apply Pick.cons; focus (repeat (first | exact Del.here | apply Del.there)))))⟩)
set_option maxRecDepth 100000 in
set_option maxHeartbeats 4000000 in
theorem make112K (m : Int) (w : World) : CallsF Try.prog 108 (([.int .i64 m] : List Value)).toArray w fun e w' => ∃ s : Nat, True ∧ e = .returned (suitV 112 s) ∧ St w NoT [(s, Obj.cells [.int .i64 m].toArray 3 (0, 0))] w' := by
  refine enter (n := 4) Try.func108 rfl rfl rfl (by repeat (first | exact Fill.nil | apply Fill.cons)) ?_
  refine cw_seq ?_
  refine cw_region ?_
  refine lstep rfl rfl rfl (run_box1 (.tmp rfl) rfl) ?_
  intro b1 _
  refine lstepB rfl rfl rfl (run_assign .const) ?_
  refine lnil ?_
  refine xw_then ?_
  refine cw_seq ?_
  refine cw_region ?_
  refine lstepB rfl rfl rfl (En.run_makeFunc .nil (.cons (.tmp rfl) .nil)) ?_
  refine lstepB rfl rfl rfl (run_assign (.tmp rfl)) ?_
  refine lnil ?_
  refine xw_then ?_
  refine cw_ret ?_
  refine xw_ret1 Try.results108 rfl (fun w2 hS => ⟨b1, trivial, rfl, hS.pick (by repeat (first | exact Pick.nil | (apply Pick.cons; focus (repeat (first | exact Del.here | apply Del.there)))))⟩)
set_option maxRecDepth 100000 in
set_option maxHeartbeats 4000000 in
theorem hasWayK (l : List SpotD) (sa : Option Addr) (sc : Nat) (w : World) (hl : ∀ s ∈ l, SpotOk w s) (hp : SpotsAt w sa l) (hn : l.length ≤ 100) :
    Gives Try.prog 80 [.slice sa l.length sc] w (.bool (wayL l).isSome) := by
  refine .mk <| enter (n := 11) Try.func80 rfl rfl rfl (by repeat (first | exact Fill.nil | apply Fill.cons)) ?_
  refine cw_seq ?_
  refine cw_region ?_
  refine lstepB rfl rfl rfl (run_assign .const) ?_
  refine lnil ?_
  refine xw_then ?_
  refine cw_seq ?_
  refine cw_region ?_
  refine lstepB rfl rfl rfl (run_move (.tmp rfl)) ?_
  refine lstep rfl rfl rfl (LR.runs (R := []) (A := []) (lr_gives cb89 (.cons (.tmp rfl) .nil) (fun w2 hS => wayK l sa sc w2 (fun s hs => ⟨(hl s hs).lo, (hl s hs).hi, (hl s hs).fn.kept hS.kept⟩) (hp.kept hS.kept) hn)) (by repeat (first | exact Pick.nil | (apply Pick.cons; focus (repeat (first | exact Del.here | apply Del.there))))) (by repeat (first | exact Dels.nil | (apply Dels.cons; focus (repeat (first | exact Del.here | apply Del.there)))))) ?_
  intro ⟨gO, o2⟩ hO
  refine lstepB rfl rfl rfl (run_move (.tmp rfl)) ?_
  refine lstepB rfl rfl rfl (run_extract (.tmp rfl) rfl) ?_
  refine lstepB rfl rfl rfl (run_extract (.tmp rfl) rfl) ?_
  refine lstepB rfl rfl rfl (run_assign (.tmp rfl)) ?_
  refine lstepB rfl rfl rfl (run_assign (.tmp rfl)) ?_
  refine lnil ?_
  refine xw_then ?_
  refine cw_seq ?_
  refine cw_region ?_
  refine lstepB rfl rfl rfl (run_move (.tmp rfl)) ?_
  refine lstepB rfl rfl rfl (run_assign (.tmp rfl)) ?_
  refine lnil ?_
  refine xw_then ?_
  refine cw_ret ?_
  refine xw_ret1 Try.results80 rfl (fun w hS => ⟨rfl, hS.kept⟩)
set_option maxRecDepth 100000 in
set_option maxHeartbeats 4000000 in
theorem asked_nil (v : Value) (a : Option Addr) (c : Nat) (w : World) : Gives Try.prog 81 [.slice a 0 c, v] w (.slice none 0 0) := by
  refine .mk ?_
  refine enter (n := 22) Try.func81 rfl rfl rfl (by repeat (first | exact Fill.nil | apply Fill.cons)) ?_
  refine cw_seq ?_
  refine cw_region ?_
  refine lstepB rfl rfl rfl (run_assign .const) ?_
  refine lnil ?_
  refine xw_then ?_
  refine cw_seq ?_
  refine cw_region ?_
  refine lstepB rfl rfl rfl (run_assign .const) ?_
  refine lnil ?_
  refine xw_then ?_
  refine cw_seq ?_
  refine cw_seq ?_
  refine cw_region ?_
  refine lstepB rfl rfl rfl (run_move (.tmp rfl)) ?_
  refine lstepB rfl rfl rfl (run_len (.tmp rfl) sl69) ?_
  refine lstepB rfl rfl rfl (run_move .const) ?_
  refine lnil ?_
  refine xw_then ?_
  refine cw_block ?_
  refine cw_loop (S := Nat) (fun k => [(10, .int .i64 (k : Int))]) [(1, _), (4, _), (5, _), (8, _), (9, _)] (fun k => []) (fun k => k = 0) (fun k => 0 - k) 0 rfl (by repeat (first | exact Less.nil | refine Less.cons rfl ?_)) (by repeat (first | exact Pick.nil | (apply Pick.cons; focus (repeat (first | exact Del.here | apply Del.there))))) ?_
  intro k hk
  subst hk
  refine cw_seq ?_
  refine cw_region ?_
  refine lstepB rfl rfl rfl (run_lss (.tmp rfl) (.tmp rfl) (by first | exact decide_eq_true (by omega) | exact decide_eq_false (by omega) | exact rfl)) ?_
  refine lnil ?_
  refine xw_then ?_
  refine cw_seq ?_
  refine cw_cond_false (.tmp rfl) ?_
  refine cw_exit ?_
  refine xw_then_exit ?_
  refine xw_then_exit ?_
  refine xw_in_exit ?_
  refine xw_then ?_
  refine cw_seq ?_
  refine cw_region ?_
  refine lstepB rfl rfl rfl (run_move (.tmp rfl)) ?_
  refine lstepB rfl rfl rfl (run_assign (.tmp rfl)) ?_
  refine lnil ?_
  refine xw_then ?_
  refine cw_ret ?_
  refine xw_ret1 Try.results81 rfl (fun w hS => ⟨rfl, hS.kept⟩)
set_option maxRecDepth 100000 in
set_option maxHeartbeats 4000000 in
theorem asked_cons (l : List SpanD) (F : Fn) (fs cs : Array Value) (ok : Int → Bool) (a : Option Addr) (c : Nat) (w : World) (hn1 : 1 ≤ l.length) (hn : l.length ≤ 100) (hq : SpansAt w a l) :
    CallsF Try.prog 81 (([.slice a l.length c, .func F fs cs] : List Value)).toArray w fun e w' => ∃ q : Nat × Nat × List Value, InRow 3 l.length q.2.1 q.2.2 (spotsC (askedL l (.func F fs cs) ok)) ∧ e = .returned (.slice (some ⟨q.1, 0, none⟩) l.length q.2.1) ∧ St w NoT [(q.1, Obj.cells q.2.2.toArray 124 (0, 0))] w' := by
  refine enter (n := 22) Try.func81 rfl rfl rfl (by repeat (first | exact Fill.nil | apply Fill.cons)) ?_
  refine cw_seq ?_
  refine cw_region ?_
  refine lstepB rfl rfl rfl (run_assign .const) ?_
  refine lnil ?_
  refine xw_then ?_
  refine cw_seq ?_
  refine cw_region ?_
  refine lstepB rfl rfl rfl (run_assign .const) ?_
  refine lnil ?_
  refine xw_then ?_
  refine cw_seq ?_
  refine cw_seq ?_
  refine cw_region ?_
  refine lstepB rfl rfl rfl (run_move (.tmp rfl)) ?_
  refine lstepB rfl rfl rfl (run_len (.tmp rfl) sl69) ?_
  refine lstepB rfl rfl rfl (run_move .const) ?_
  refine lnil ?_
  refine xw_then ?_
  refine cw_block ?_
  refine cw_loop (S := Nat × Option (Nat × Nat × List Value)) (fun s => [(10, .int .i64 ((s.1 : Nat) : Int)), (5, (match s.2 with | none => .slice none 0 0 | some q => .slice (some ⟨q.1, 0, none⟩) s.1 q.2.1))]) [(1, _), (4, _), (8, _), (9, _)] (fun s => (match s.2 with | none => [] | some q => [(q.1, Obj.cells q.2.2.toArray 124 (0, 0))])) (fun s => s.1 ≤ l.length ∧ match s.2 with | none => s.1 = 0 ∧ True | some q => 1 ≤ s.1 ∧ InRow 3 s.1 q.2.1 q.2.2 (spotsC ((askedL l (.func F fs cs) ok).take s.1))) (fun s => l.length - s.1) (0, none) ⟨Nat.zero_le _, rfl, trivial⟩ (by repeat (first | exact Less.nil | refine Less.cons rfl ?_)) (by repeat (first | exact Pick.nil | (apply Pick.cons; focus (repeat (first | exact Del.here | apply Del.there))))) ?_
  intro s hs
  obtain ⟨k, o⟩ := s
  obtain ⟨hk, ho⟩ := hs
  dsimp only at hk ho ⊢
  cases o
  case none =>
    dsimp only at ho ⊢
    obtain ⟨ho1, ho2⟩ := ho
    subst ho1
    refine cw_seq ?_
    refine cw_region ?_
    refine lstepB rfl rfl rfl (run_lss (.tmp rfl) (.tmp rfl) rfl) ?_
    refine lnil ?_
    refine xw_then ?_
    refine cw_seq ?_
    refine cw_cond_p (.tmp rfl) (fun hl2 => ?_) (fun hl2 => ?_)
    ·
      obtain ⟨s, hsk⟩ : ∃ s, l[0]? = some s := ⟨_, List.getElem?_eq_getElem (by omega)⟩
      obtain ⟨b, o, rfl, hb, hc⟩ := hq.span (by omega)
      have hst := spots_succ (askedL_at (v := (.func F fs cs)) (ok := ok) hsk)
      refine cw_skip ?_
      refine xw_then ?_
      refine cw_seq ?_
      refine cw_block ?_
      refine cw_seq ?_
      refine cw_region ?_
      refine lstepB rfl rfl rfl (run_indexAddr (i := 0) (off' := o + 0 * 2) (.tmp rfl) (.tmp rfl) el69 (by omega) rfl) ?_
      refine lstepB rfl rfl rfl (run_loadN_at (l := spanC s) (.tmp rfl) kd67 sz67 rfl (fun w' hS j v hj => hS.old_cell (fun h => h) (hc 0 s hsk j v hj))) ?_
      refine lstep rfl rfl rfl (run_alloc zr67) ?_
      intro b7 _
      refine lstep0 rfl rfl (run_storeN (.tmp rfl) (.tmp rfl) rfl sz67 rfl (by repeat (first | exact Upd.here | apply Upd.there)) (by repeat (first | exact Put.done | apply Put.put | apply Put.skip))) ?_
      refine lnil ?_
      refine xw_then ?_
      refine cw_region ?_
      refine lstepB rfl rfl rfl (run_move (.tmp rfl)) ?_
      refine lstepB rfl rfl rfl (run_loadN (.tmp rfl) kd67 sz67 (by repeat (first | exact List.Mem.head _ | apply List.Mem.tail)) (by repeat (first | exact Sub.done | apply Sub.take | apply Sub.skip))) ?_
      refine lstepB rfl rfl rfl (run_move (.tmp rfl)) ?_
      refine lstepB rfl rfl rfl (run_build_at (.cons (.tmp rfl) (.cons (.tmp rfl) .nil)) (fun w => bd124 w)) ?_
      refine lstep rfl rfl rfl (LR.runs (lr_buildSlice_at (.cons (.tmp rfl) .nil) (fun w => bs108 w)) (by repeat (first | exact Pick.nil | (apply Pick.cons; focus (repeat (first | exact Del.here | apply Del.there))))) (by repeat (first | exact Dels.nil | (apply Dels.cons; focus (repeat (first | exact Del.here | apply Del.there)))))) ?_
      intro b18 _
      refine lstep rfl rfl rfl (LR.runs (R := [(b18, _)]) (A := []) (lr_append_nil ap108 (.tmp rfl) (.tmp rfl) (news := [.int .i64 s.lo, .int .i64 s.hi, (.func F fs cs)]) rfl (by omega) (by omega) (by decide) (news_own (by repeat (first | exact List.Mem.head _ | apply List.Mem.tail)))) (by repeat (first | exact Pick.nil | (apply Pick.cons; focus (repeat (first | exact Del.here | apply Del.there))))) (by repeat (first | exact Dels.nil | (apply Dels.cons; focus (repeat (first | exact Del.here | apply Del.there)))))) ?_
      intro ⟨gW, cgW, rgW⟩ hgW
      change InRow _ _ _ _ (spotsC ((askedL l (.func F fs cs) ok).take 0) ++ _) at hgW
      rw [hst] at hgW
      refine lstepB rfl rfl rfl (run_assign (.tmp rfl)) ?_
      refine lnil ?_
      refine xw_in ?_
      refine xw_then ?_
      refine cw_region ?_
      refine lstepB rfl rfl rfl (run_add (.tmp rfl) .const (by first | exact IntWalk.i64_in _ (by omega) | exact rfl)) ?_
      refine lstepB rfl rfl rfl (run_move (.tmp rfl)) ?_
      refine lnil ?_
      exact xw_round (0 + 1, some (gW, cgW, rgW)) ⟨by simp only; omega, by simp only; omega, hgW⟩ (by show l.length - (0 + 1) < l.length - 0; omega) (by repeat (first | exact Less.nil | refine Less.cons rfl ?_)) (by repeat (first | exact Pick.nil | (apply Pick.cons; focus (repeat (first | exact Del.here | apply Del.there)))))
    ·
      exact absurd hn1 (by omega)
  case some q =>
    obtain ⟨gX, cX, rX⟩ := q
    dsimp only at ho ⊢
    obtain ⟨ho1, ho2⟩ := ho
    refine cw_seq ?_
    refine cw_region ?_
    refine lstepB rfl rfl rfl (run_lss (.tmp rfl) (.tmp rfl) rfl) ?_
    refine lnil ?_
    refine xw_then ?_
    refine cw_seq ?_
    refine cw_cond_p (.tmp rfl) (fun hl2 => ?_) (fun hl2 => ?_)
    ·
      obtain ⟨s, hsk⟩ : ∃ s, l[k]? = some s := ⟨_, List.getElem?_eq_getElem (by omega)⟩
      obtain ⟨b, o, rfl, hb, hc⟩ := hq.span (by omega)
      have hst := spots_succ (askedL_at (v := (.func F fs cs)) (ok := ok) hsk)
      refine cw_skip ?_
      refine xw_then ?_
      refine cw_seq ?_
      refine cw_block ?_
      refine cw_seq ?_
      refine cw_region ?_
      refine lstepB rfl rfl rfl (run_indexAddr (i := k) (off' := o + k * 2) (.tmp rfl) (.tmp rfl) el69 (by omega) rfl) ?_
      refine lstepB rfl rfl rfl (run_loadN_at (l := spanC s) (.tmp rfl) kd67 sz67 rfl (fun w' hS j v hj => hS.old_cell (fun h => h) (hc k s hsk j v hj))) ?_
      refine lstep rfl rfl rfl (run_alloc zr67) ?_
      intro b7 _
      refine lstep0 rfl rfl (run_storeN (.tmp rfl) (.tmp rfl) rfl sz67 rfl (by repeat (first | exact Upd.here | apply Upd.there)) (by repeat (first | exact Put.done | apply Put.put | apply Put.skip))) ?_
      refine lnil ?_
      refine xw_then ?_
      refine cw_region ?_
      refine lstepB rfl rfl rfl (run_move (.tmp rfl)) ?_
      refine lstepB rfl rfl rfl (run_loadN (.tmp rfl) kd67 sz67 (by repeat (first | exact List.Mem.head _ | apply List.Mem.tail)) (by repeat (first | exact Sub.done | apply Sub.take | apply Sub.skip))) ?_
      refine lstepB rfl rfl rfl (run_move (.tmp rfl)) ?_
      refine lstepB rfl rfl rfl (run_build_at (.cons (.tmp rfl) (.cons (.tmp rfl) .nil)) (fun w => bd124 w)) ?_
      refine lstep rfl rfl rfl (LR.runs (lr_buildSlice_at (.cons (.tmp rfl) .nil) (fun w => bs108 w)) (by repeat (first | exact Pick.nil | (apply Pick.cons; focus (repeat (first | exact Del.here | apply Del.there))))) (by repeat (first | exact Dels.nil | (apply Dels.cons; focus (repeat (first | exact Del.here | apply Del.there)))))) ?_
      intro b18 _
      refine lstep rfl rfl rfl (LR.runs (R := [(b18, _)]) (A := [(gX, _)]) (lr_append_row ap108 (.tmp rfl) ho2 (.tmp rfl) (news := [.int .i64 s.lo, .int .i64 s.hi, (.func F fs cs)]) rfl rfl (by omega) (by unfold maxLen; omega) (news_own (by repeat (first | exact List.Mem.head _ | apply List.Mem.tail)))) (by repeat (first | exact Pick.nil | (apply Pick.cons; focus (repeat (first | exact Del.here | apply Del.there))))) (by repeat (first | exact Dels.nil | (apply Dels.cons; focus (repeat (first | exact Del.here | apply Del.there)))))) ?_
      intro ⟨gW, cgW, rgW⟩ hgW
      rw [hst] at hgW
      refine lstepB rfl rfl rfl (run_assign (.tmp rfl)) ?_
      refine lnil ?_
      refine xw_in ?_
      refine xw_then ?_
      refine cw_region ?_
      refine lstepB rfl rfl rfl (run_add (.tmp rfl) .const (by first | exact IntWalk.i64_in _ (by omega) | exact rfl)) ?_
      refine lstepB rfl rfl rfl (run_move (.tmp rfl)) ?_
      refine lnil ?_
      exact xw_round (k + 1, some (gW, cgW, rgW)) ⟨by simp only; omega, by simp only; omega, hgW⟩ (by show l.length - (k + 1) < l.length - k; omega) (by repeat (first | exact Less.nil | refine Less.cons rfl ?_)) (by repeat (first | exact Pick.nil | (apply Pick.cons; focus (repeat (first | exact Del.here | apply Del.there)))))
    ·
      obtain rfl : k = l.length := by omega
      rw [show (askedL l (.func F fs cs) ok).take l.length = askedL l (.func F fs cs) ok by rw [← askedL_length l (.func F fs cs) ok, List.take_length]] at ho2
      refine cw_exit ?_
      refine xw_then_exit ?_
      refine xw_then_exit ?_
      refine xw_in_exit ?_
      refine xw_then ?_
      refine cw_seq ?_
      refine cw_region ?_
      refine lstepB rfl rfl rfl (run_move (.tmp rfl)) ?_
      refine lstepB rfl rfl rfl (run_assign (.tmp rfl)) ?_
      refine lnil ?_
      refine xw_then ?_
      refine cw_ret ?_
      refine xw_ret1 Try.results81 rfl (fun w hS => ⟨(gX, cX, rX), ho2, rfl, hS.pick (by repeat (first | exact Pick.nil | (apply Pick.cons; focus (repeat (first | exact Del.here | apply Del.there)))))⟩)
end Go.Proofs.Ytjdeplehhmhpcaa
