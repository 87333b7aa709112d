/- Package soil: check, which panics. -/
import Derived.Test.YtfmbnobkenngaaaGB
namespace Go.Proofs.Ytfmbnobkenngaaa
open Go.RowKit En

abbrev IntsAt (w : World) (a : Option Addr) (l : List Int) : Prop := RowsAt w a 1 (l.map fun n => [.int .i64 n])
theorem IntsAt.int {w : World} {a : Option Addr} {l : List Int} (h : IntsAt w a l) (hn : 0 < l.length) : ∃ b o, a = some ⟨b, o, none⟩ ∧ b < w.heap.size ∧ ∀ i n, l[i]? = some n → w.cell? ⟨b, o + i, none⟩ = some (.int .i64 n) := by
  obtain ⟨b, o, e, hlt, hc⟩ := RowsAt.at_ h (by simpa using hn)
  exact ⟨b, o, e, hlt, fun i n hi => by simpa using hc i [.int .i64 n] (by simp [hi]) 0 _ rfl⟩
def errP (n : Int) : PanicEntry := { v := .iface 29 (.int .i64 n), recovered := false }
/-- What an error ends in. -/
def endE (v : Value) : Option Int → Ending
  | none => .returned v
  | some n => .panicked [errP n]
def checkE (g : GroundD) (pl : List Int) : Option Int := if validB g then (if pl.all (fun n => upToB n g.long) then none else some 2) else some 1
set_option maxRecDepth 100000 in
set_option maxHeartbeats 4000000 in
theorem checkK (g : GroundD) (pl : List Int) (pa qa : Option Addr) (pc qc : Nat) (w : World) (hm : g.pits.length ≤ 1000000) (hm2 : pl.length ≤ 1000000) (hp : PitsAt w pa g.pits) (hq : IntsAt w qa pl) : CallsF Try.prog 44 (([.agg [.int .i64 g.long, .int .i64 g.rise, .int .i64 g.change, .slice pa g.pits.length pc].toArray, .slice qa pl.length qc] : List Value)).toArray w fun e w' => e = endE (.tuple #[]) (checkE g pl) ∧ Below w.heap.size w w' := by
  refine enter (n := 23) Try.func44 rfl rfl rfl (by repeat (first | exact Fill.nil | apply Fill.cons)) ?_
  cases h1 : validB g
  ·
    refine cw_seq ?_
    refine cw_region ?_
    refine lstep rfl rfl rfl (run_boxN (.tmp rfl)) ?_
    intro b2 _
    refine lnil ?_
    refine xw_then ?_
    refine cw_seq ?_
    refine cw_seq ?_
    refine cw_region ?_
    refine lstepB rfl rfl rfl (run_loadN (.tmp rfl) kd24 sz24 (by repeat (first | exact List.Mem.head _ | apply List.Mem.tail)) (by repeat (first | exact Sub.done | apply Sub.take | apply Sub.skip))) ?_
    refine lstepB rfl rfl rfl (run_call1 cb80 (.cons (.tmp rfl) .nil) (fun w2 hS => (validK g pa pc w2 hm (hp.kept hS.kept)).as (congrArg Value.bool h1))) ?_
    refine lstepB rfl rfl rfl (run_not (.tmp rfl) (by first | exact Bool.not_true | exact Bool.not_false | exact rfl)) ?_
    refine lnil ?_
    refine xw_then ?_
    refine cw_cond_true (.tmp rfl) ?_
    refine cw_region ?_
    refine lstepB rfl rfl rfl (En.run_makeInterface .const if29) ?_
    refine lpanic (.tmp rfl) (fun w => rfl) ?_
    refine xw_then_panic ?_
    refine xw_panic (fun w hS => ⟨by simp [checkE, h1, endE, errP], hS.kept⟩)
  ·
    refine cw_seq ?_
    refine cw_region ?_
    refine lstep rfl rfl rfl (run_boxN (.tmp rfl)) ?_
    intro b2 _
    refine lnil ?_
    refine xw_then ?_
    refine cw_seq ?_
    refine cw_seq ?_
    refine cw_region ?_
    refine lstepB rfl rfl rfl (run_loadN (.tmp rfl) kd24 sz24 (by repeat (first | exact List.Mem.head _ | apply List.Mem.tail)) (by repeat (first | exact Sub.done | apply Sub.take | apply Sub.skip))) ?_
    refine lstepB rfl rfl rfl (run_call1 cb80 (.cons (.tmp rfl) .nil) (fun w2 hS => (validK g pa pc w2 hm (hp.kept hS.kept)).as (congrArg Value.bool h1))) ?_
    refine lstepB rfl rfl rfl (run_not (.tmp rfl) (by first | exact Bool.not_true | exact Bool.not_false | exact rfl)) ?_
    refine lnil ?_
    refine xw_then ?_
    refine cw_cond_false (.tmp rfl) ?_
    refine cw_skip ?_
    refine xw_then ?_
    refine cw_seq ?_
    refine cw_region ?_
    refine lstepB rfl rfl rfl (run_move (.tmp rfl)) ?_
    refine lstepB rfl rfl rfl (run_len (.tmp rfl) sl102) ?_
    refine lstepB rfl rfl rfl (run_move .const) ?_
    refine lnil ?_
    refine xw_then ?_
    refine cw_block ?_
    refine cw_loop (S := Nat) (fun k => [(12, .int .i64 (k : Int))]) [(2, _), (10, _), (11, _)] (fun k => [(_, _)]) (fun k => k ≤ pl.length ∧ ∀ j, j < k → ∀ n, pl[j]? = some n → upToB n g.long = true) (fun k => pl.length - k) 0 ⟨Nat.zero_le _, fun j h => absurd h (Nat.not_lt_zero j)⟩ (by repeat (first | exact Less.nil | refine Less.cons rfl ?_)) (by repeat (first | exact Pick.nil | (apply Pick.cons; focus (repeat (first | exact Del.here | apply Del.there))))) ?_
    intro k hs
    refine cw_seq ?_
    refine cw_region ?_
    refine lstepB rfl rfl rfl (run_lss (.tmp rfl) (.tmp rfl) (by first | exact decide_eq_true (by omega) | exact decide_eq_false (by omega) | exact rfl)) ?_
    refine lnil ?_
    refine xw_then ?_
    refine cw_seq ?_
    refine cw_cond_p (.tmp rfl) (fun hl => ?_) (fun hl => ?_)
    ·
      obtain ⟨n, hn⟩ : ∃ n, pl[k]? = some n := ⟨_, List.getElem?_eq_getElem (by omega)⟩
      obtain ⟨b, o, rfl, hb, hc⟩ := hq.int (by omega)
      cases c : upToB n g.long
      ·
        refine cw_skip ?_
        refine xw_then ?_
        refine cw_seq ?_
        refine cw_block ?_
        refine cw_seq ?_
        refine cw_region ?_
        refine lstepB rfl rfl rfl (run_indexAddr (off' := o + k) (.tmp rfl) (.tmp rfl) el102 (by omega) (by rw [Nat.mul_one])) ?_
        refine lstepB rfl rfl rfl (run_load1_at (.tmp rfl) kd3 (fun w' hS => hS.old_cell (fun h => h) (hc k n hn))) ?_
        refine lstepB rfl rfl rfl (run_assign (.tmp rfl)) ?_
        refine lnil ?_
        refine xw_then ?_
        refine cw_seq ?_
        refine cw_region ?_
        refine lstepB rfl rfl rfl (run_move (.tmp rfl)) ?_
        refine lstepB rfl rfl rfl (run_fieldAddr (.tmp rfl) fa24_0 (by first | exact Nat.zero_add _ | exact rfl)) ?_
        refine lstepB rfl rfl rfl (run_load1 (.tmp rfl) kd3 (by repeat (first | exact List.Mem.head _ | apply List.Mem.tail)) (by exact rfl)) ?_
        refine lstepB rfl rfl rfl (run_call1 cb81 (.cons (.tmp rfl) (.cons (.tmp rfl) .nil)) (fun w _ => (upToK _ _ w).as (congrArg Value.bool c))) ?_
        refine lstepB rfl rfl rfl (run_not (.tmp rfl) (by first | exact Bool.not_true | exact Bool.not_false | exact rfl)) ?_
        refine lnil ?_
        refine xw_then ?_
        refine cw_cond_true (.tmp rfl) ?_
        refine cw_region ?_
        refine lstepB rfl rfl rfl (En.run_makeInterface .const if29) ?_
        refine lpanic (.tmp rfl) (fun w => rfl) ?_
        refine xw_in_panic ?_
        refine xw_then_panic ?_
        refine xw_then_panic ?_
        refine xw_in_panic ?_
        refine xw_panic (fun w hS => ⟨by rw [show checkE g pl = some 2 from by rw [checkE, h1, if_pos rfl, if_neg]; simp only [List.all_eq_true]; intro hh; rw [hh n (List.mem_of_getElem? hn)] at c; cases c]; rfl, hS.kept⟩)
      ·
        refine cw_skip ?_
        refine xw_then ?_
        refine cw_seq ?_
        refine cw_block ?_
        refine cw_seq ?_
        refine cw_region ?_
        refine lstepB rfl rfl rfl (run_indexAddr (off' := o + k) (.tmp rfl) (.tmp rfl) el102 (by omega) (by rw [Nat.mul_one])) ?_
        refine lstepB rfl rfl rfl (run_load1_at (.tmp rfl) kd3 (fun w' hS => hS.old_cell (fun h => h) (hc k n hn))) ?_
        refine lstepB rfl rfl rfl (run_assign (.tmp rfl)) ?_
        refine lnil ?_
        refine xw_then ?_
        refine cw_seq ?_
        refine cw_region ?_
        refine lstepB rfl rfl rfl (run_move (.tmp rfl)) ?_
        refine lstepB rfl rfl rfl (run_fieldAddr (.tmp rfl) fa24_0 (by first | exact Nat.zero_add _ | exact rfl)) ?_
        refine lstepB rfl rfl rfl (run_load1 (.tmp rfl) kd3 (by repeat (first | exact List.Mem.head _ | apply List.Mem.tail)) (by exact rfl)) ?_
        refine lstepB rfl rfl rfl (run_call1 cb81 (.cons (.tmp rfl) (.cons (.tmp rfl) .nil)) (fun w _ => (upToK _ _ w).as (congrArg Value.bool c))) ?_
        refine lstepB rfl rfl rfl (run_not (.tmp rfl) (by first | exact Bool.not_true | exact Bool.not_false | exact rfl)) ?_
        refine lnil ?_
        refine xw_then ?_
        refine cw_cond_false (.tmp rfl) ?_
        refine cw_skip ?_
        refine xw_in ?_
        refine xw_then ?_
        refine cw_region ?_
        refine lstepB rfl rfl rfl (run_add (.tmp rfl) .const (by first | exact IntWalk.i64_in _ (by omega) | exact rfl)) ?_
        refine lstepB rfl rfl rfl (run_move (.tmp rfl)) ?_
        refine lnil ?_
        exact xw_round (k + 1) ⟨by omega, fun j hj => by rcases Nat.lt_succ_iff_lt_or_eq.1 hj with h | h; exact hs.2 j h; subst h; intro m hm2; rw [hn] at hm2; cases hm2; exact c⟩ (by omega) (by repeat (first | exact Less.nil | refine Less.cons rfl ?_)) (by repeat (first | exact Pick.nil | (apply Pick.cons; focus (repeat (first | exact Del.here | apply Del.there)))))
    ·
      refine cw_exit ?_
      refine xw_then_exit ?_
      refine xw_then_exit ?_
      refine xw_in_exit ?_
      refine xw_end0 Try.results44 (fun w hS => ⟨?_, hS.kept⟩)
      rw [show checkE g pl = none from ?_]
      · rfl
      · rw [checkE, h1, if_pos rfl, if_pos]
        simp only [List.all_eq_true]
        intro n hn
        obtain ⟨j, hj, rfl⟩ := List.getElem_of_mem hn
        exact hs.2 j (by omega) _ (List.getElem?_eq_getElem hj)
/-- What ends as an error says: it returns, or it panics. -/
theorem gives_of {f : FuncId} {vs : List Value} {w : World} {v : Value} {o : Option Int} (h : CallsF Try.prog f vs.toArray w fun e w' => e = endE v o ∧ Below w.heap.size w w') (ho : o = none) : Gives Try.prog f vs w v := ⟨by subst ho; exact h⟩
theorem pans_of {f : FuncId} {vs : List Value} {w : World} {v : Value} {o : Option Int} {n : Int} (h : CallsF Try.prog f vs.toArray w fun e w' => e = endE v o ∧ Below w.heap.size w w') (ho : o = some n) : Pans Try.prog f vs w [errP n] := by subst ho; exact h
end Go.Proofs.Ytfmbnobkenngaaa
