/- Package furrow: first; inner stations; courses. -/
import Derived.Test.YtjdeplehhmhpcaaFJ
namespace Go.Proofs.Ytjdeplehhmhpcaa
open Go.RowKit En

theorem iter_kept {P : Program} {f : FuncId} {cs xs : List Value} {Cap : Nat → Prop} {w w2 : World} (h : IterAt P f cs xs Cap w) (hb : Below w.heap.size w w2) : IterAt P f cs xs Cap w2 :=
  fun l J Jx Jp T w1 hb2 => h l J Jx Jp T w1 (hb.trans (hb2.mono hb.size))
theorem PredAt.plain {w : World} {v : Value} {p : Int → Bool} {D : Int → Prop} (h : PredAt w v p D) : plainV v = true := by
  rcases h with ⟨G, gs, rfl, _, _⟩ | ⟨G, fs, rfl, _, _⟩ <;> rfl
theorem find_at {xs : List Int} {p : Int → Bool} {k : Nat} {x : Int} (h : xs[k]? = some x) (hb : ∀ i : Nat, i < k → ∀ y, xs[i]? = some y → p y = false) (hp : p x = true) : xs.find? p = some x := by
  obtain ⟨hk, rfl⟩ := List.getElem?_eq_some_iff.1 h
  rw [List.find?_eq_some_iff_append]
  refine ⟨hp, xs.take k, xs.drop (k + 1), ?_, fun y hy => ?_⟩
  · rw [← List.drop_eq_getElem_cons hk, List.take_append_drop]
  · obtain ⟨i, hi, rfl⟩ := List.getElem_of_mem hy
    rw [List.length_take] at hi
    rw [List.getElem_take]
    simp [hb i (by omega) _ (List.getElem?_eq_getElem (by omega))]
theorem find_none {xs : List Int} {p : Int → Bool} (hb : ∀ i : Nat, i < xs.length → ∀ y, xs[i]? = some y → p y = false) : xs.find? p = none := by
  rw [List.find?_eq_none]
  intro y hy
  obtain ⟨i, hi, rfl⟩ := List.getElem_of_mem hy
  simp [hb i hi _ (List.getElem?_eq_getElem hi)]
set_option maxRecDepth 100000 in
set_option maxHeartbeats 4000000 in
theorem firstK {F : FuncId} {cs : List Value} {xs : List Int} {Cap : Nat → Prop} {pv : Value} {p : Int → Bool} {w : World} (hF : callB Try.prog F = true) (it : IterAt Try.prog F cs (intsV xs) Cap w) (cap : ∀ c, Cap c → c < w.heap.size) (hp : PredAt w pv p (fun x => x ∈ xs)) :
    Gives Try.prog 62 [.func (.func F) #[] cs.toArray, pv] w (.tuple #[.int .i64 ((xs.find? p).getD 0), .bool (xs.any p)]) := by
  have hpl := hp.plain
  refine .mk <| enter (n := 14) Try.func62 rfl rfl rfl (by repeat (first | exact Fill.nil | apply Fill.cons)) ?_
  refine cw_seq ?_
  refine cw_region ?_
  refine lstep rfl rfl rfl (run_box1 (.tmp rfl) hpl) ?_
  intro b3 _
  refine lstep rfl rfl rfl (run_alloc zr3) ?_
  intro b4 _
  refine lstep rfl rfl rfl (run_alloc zr4) ?_
  intro b5 _
  refine lnil ?_
  refine xw_then ?_
  refine cw_seq ?_
  refine cw_seq ?_
  refine cw_region ?_
  refine lstepB rfl rfl rfl (run_move (.tmp rfl)) ?_
  refine lnil ?_
  refine xw_then ?_
  refine cw_block ?_
  refine cw_range (f := F) (xs := intsV xs) (Cap := Cap) (S := Unit) (fun _ => [(b3, Obj.cells [pv].toArray 76 (0, 0)), (b4, Obj.cells [.int .i64 0].toArray 3 (0, 0)), (b5, Obj.cells [.bool false].toArray 4 (0, 0))]) (fun k _ => ∀ i : Nat, i < k → ∀ y, xs[i]? = some y → p y = false) () hF (.tmp rfl) rfl
    (fun w2 hS => iter_kept it hS.kept) (fun c hc => ⟨cap c hc, fun h => h⟩) (fun i hi => absurd hi (Nat.not_lt_zero i)) (by repeat (first | exact Pick.nil | (apply Pick.cons; focus (repeat (first | exact Del.here | apply Del.there))))) ?_ ?_
  ·
    intro L D fn tm k st x w2 hx hb h2
    obtain ⟨y, hy, rfl⟩ : ∃ y, xs[k]? = some y ∧ x = .int .i64 y := by
      simp only [intsV, List.getElem?_map, Option.map_eq_some_iff] at hx
      obtain ⟨y, h1, h2⟩ := hx
      exact ⟨y, h1, h2.symm⟩
    refine cw_region ?_
    refine lstepB rfl rfl rfl (run_assign (.tmp rfl)) ?_
    refine lnil ?_
    refine xw_begin rfl ?_
    refine cw_block ?_
    refine cw_seq ?_
    refine cw_region ?_
    refine lstepB rfl rfl rfl (run_load1 (.tmp rfl) kd76 (by repeat (first | exact List.Mem.head _ | apply List.Mem.tail)) (by exact rfl)) ?_
    refine lstepB rfl rfl rfl (run_move (.tmp rfl)) ?_
    refine lstepB rfl rfl rfl (run_pred hp (.tmp rfl) (.tmp rfl) (List.mem_of_getElem? hy) (fun w3 hS => (h2.join0 hS).kept)) ?_
    refine lnil ?_
    refine xw_then ?_
    refine cw_cond (.tmp rfl) (fun hc => ?_) (fun hc => ?_)
    ·
      refine cw_seq ?_
      refine cw_region ?_
      refine lstepB rfl rfl rfl (run_move (.tmp rfl)) ?_
      refine lstep0 rfl rfl (run_store1 (.tmp rfl) (.tmp rfl) rfl sz3 (by repeat (first | exact Upd.here | apply Upd.there)) (by repeat (first | exact Put.done | apply Put.put | apply Put.skip))) ?_
      refine lstep0 rfl rfl (run_store1 (.tmp rfl) .const rfl sz4 (by repeat (first | exact Upd.here | apply Upd.there)) (by repeat (first | exact Put.done | apply Put.put | apply Put.skip))) ?_
      refine lnil ?_
      refine xw_then ?_
      refine cw_ret ?_
      refine xw_in_ret ?_
      refine xw_rret (H' := (b4, _) :: (b5, _) :: []) (by repeat (first | exact Pick.nil | (apply Pick.cons; focus (repeat (first | exact Del.here | apply Del.there))))) ?_
      refine xw_in_ret ?_
      refine xw_then_ret ?_
      have hfi := find_at hy hb hc
      have hany : xs.any p = true := List.any_eq_true.2 ⟨y, List.mem_of_getElem? hy, hc⟩
      rw [hfi, hany]
      exact xw_retDCC Try.results62 rfl rfl (fun w hS => load_own1 kd3 (hS.cell (by repeat (first | exact List.Mem.head _ | apply List.Mem.tail)) rfl)) (fun w hS => load_own1 kd4 (hS.cell (by repeat (first | exact List.Mem.head _ | apply List.Mem.tail)) rfl)) (fun w hS => ⟨rfl, hS.kept⟩)
    ·
      refine cw_skip ?_
      refine xw_in ?_
      exact xw_rnext () (fun i hi z hz => by rcases Nat.lt_succ_iff_lt_or_eq.1 hi with h | rfl; exact hb i h z hz; rw [hy] at hz; cases hz; exact hc) (by repeat (first | exact Pick.nil | (apply Pick.cons; focus (repeat (first | exact Del.here | apply Del.there)))))
  ·
    intro D st hb
    refine xw_in ?_
    refine xw_then ?_
    refine cw_seq ?_
    refine cw_region ?_
    refine lstepB rfl rfl rfl (run_load1 (.tmp rfl) kd3 (by repeat (first | exact List.Mem.head _ | apply List.Mem.tail)) (by exact rfl)) ?_
    refine lstep0 rfl rfl (run_store1 (.tmp rfl) (.tmp rfl) rfl sz3 (by repeat (first | exact Upd.here | apply Upd.there)) (by repeat (first | exact Put.done | apply Put.put | apply Put.skip))) ?_
    refine lstep0 rfl rfl (run_store1 (.tmp rfl) .const rfl sz4 (by repeat (first | exact Upd.here | apply Upd.there)) (by repeat (first | exact Put.done | apply Put.put | apply Put.skip))) ?_
    refine lnil ?_
    refine xw_then ?_
    refine cw_ret ?_
    have hb2 : ∀ i : Nat, i < xs.length → ∀ y, xs[i]? = some y → p y = false := fun i hi => hb i (by simpa [intsV] using hi)
    have hfi := find_none hb2
    have hany : xs.any p = false := by
      rw [List.any_eq_false]
      intro y hy
      have := List.find?_eq_none.1 hfi y hy
      simpa using this
    rw [hfi, hany]
    refine xw_pick (H' := [(D, dfr), (b4, _), (b5, _)]) (by repeat (first | exact Pick.nil | (apply Pick.cons; focus (repeat (first | exact Del.here | apply Del.there))))) ?_
    exact xw_retDCC Try.results62 rfl rfl (fun w hS => load_own1 kd3 (hS.cell (by repeat (first | exact List.Mem.head _ | apply List.Mem.tail)) rfl)) (fun w hS => load_own1 kd4 (hS.cell (by repeat (first | exact List.Mem.head _ | apply List.Mem.tail)) rfl)) (fun w hS => ⟨rfl, hS.kept⟩)
set_option maxRecDepth 100000 in
set_option maxHeartbeats 4000000 in
theorem demand_ok (n : Int) (w : World) : Gives Try.prog 42 [.bool true, .int .i64 n] w (.tuple #[]) := by
  refine .mk <| enter (n := 8) Try.func42 rfl rfl rfl (by repeat (first | exact Fill.nil | apply Fill.cons)) ?_
  refine cw_seq ?_
  refine cw_region ?_
  refine lstepB rfl rfl rfl (run_move (.tmp rfl)) ?_
  refine lstepB rfl rfl rfl (run_not (.tmp rfl) (by first | exact Bool.not_true | exact Bool.not_false | exact rfl)) ?_
  refine lnil ?_
  refine xw_then ?_
  refine cw_cond_false (.tmp rfl) ?_
  refine cw_skip ?_
  refine xw_end0 Try.results42 (fun w hS => ⟨rfl, hS.kept⟩)
def errP (n : Int) : PanicEntry := { v := .iface 29 (.int .i64 n), recovered := false }
set_option maxRecDepth 100000 in
set_option maxHeartbeats 4000000 in
theorem demand_bad (n : Int) (w : World) : Pans Try.prog 42 [.bool false, .int .i64 n] w [errP n] := by
  refine enter (n := 8) Try.func42 rfl rfl rfl (by repeat (first | exact Fill.nil | apply Fill.cons)) ?_
  refine cw_seq ?_
  refine cw_region ?_
  refine lstepB rfl rfl rfl (run_move (.tmp rfl)) ?_
  refine lstepB rfl rfl rfl (run_not (.tmp rfl) (by first | exact Bool.not_true | exact Bool.not_false | exact rfl)) ?_
  refine lnil ?_
  refine xw_then ?_
  refine cw_cond_true (.tmp rfl) ?_
  refine cw_region ?_
  refine lstepB rfl rfl rfl (run_move (.tmp rfl)) ?_
  refine lstepB rfl rfl rfl (En.run_makeInterface (.tmp rfl) if29) ?_
  refine lpanic (.tmp rfl) (fun w => rfl) ?_
  refine xw_panic (fun w hS => ⟨rfl, hS.kept⟩)
def innerB (n : Nat) (st : Int) : Bool := decide (0 < st) && decide (st < (n : Int) - 1)
set_option maxRecDepth 100000 in
set_option maxHeartbeats 4000000 in
theorem isInnerK (a : Option Addr) (n c : Nat) (st : Int) (hn : n ≤ 1000) (w : World) : Gives Try.prog 49 [.slice a n c, .int .i64 st] w (.bool (innerB n st)) := by
  refine .mk <| enter (n := 14) Try.func49 rfl rfl rfl (by repeat (first | exact Fill.nil | apply Fill.cons)) ?_
  by_cases h1 : 0 < st <;> by_cases h2 : st < (n : Int) - 1
  all_goals
    refine cw_seq ?_
    refine cw_region ?_
    refine lstepB rfl rfl rfl (run_assign .const) ?_
    refine lnil ?_
    refine xw_then ?_
    refine cw_seq ?_
    refine cw_region ?_
    refine lstepB rfl rfl rfl (run_move (.tmp rfl)) ?_
    refine lstepB rfl rfl rfl (run_lss .const (.tmp rfl) (by first | exact decide_eq_true (by omega) | exact decide_eq_false (by omega) | exact rfl)) ?_
    refine lstepB rfl rfl rfl (run_move (.tmp rfl)) ?_
    first | (refine lyes rfl rfl rfl rfl ?_; refine gstepB rfl rfl (run_move (.tmp rfl)) ?_) | refine lskip rfl rfl rfl rfl rfl rfl rfl ?_
    first | (refine lyes rfl rfl rfl rfl ?_; refine gstepB rfl rfl (run_move (.tmp rfl)) ?_) | refine lskip rfl rfl rfl rfl rfl rfl rfl ?_
    first | (refine lyes rfl rfl rfl rfl ?_; refine gstepB rfl rfl (run_len (.tmp rfl) sl69) ?_) | refine lskip rfl rfl rfl rfl rfl rfl rfl ?_
    first | (refine lyes rfl rfl rfl rfl ?_; refine gstepB rfl rfl (run_sub (.tmp rfl) .const (by first | exact IntWalk.i64_in _ (by omega) | exact rfl)) ?_) | refine lskip rfl rfl rfl rfl rfl rfl rfl ?_
    first | (refine lyes rfl rfl rfl rfl ?_; refine gstepB rfl rfl (run_lss (.tmp rfl) (.tmp rfl) (by first | exact decide_eq_true (by omega) | exact decide_eq_false (by omega) | exact rfl)) ?_) | refine lskip rfl rfl rfl rfl rfl rfl rfl ?_
    refine lstepB rfl rfl rfl (by first | exact run_pick_true (.tmp rfl) (.tmp rfl) | exact run_pick_false (.tmp rfl) .const) ?_
    refine lstepB rfl rfl rfl (run_assign (.tmp rfl)) ?_
    refine lnil ?_
    refine xw_then ?_
    refine cw_ret ?_
    refine xw_ret1 Try.results49 rfl (fun w hS => ⟨by simp [innerB, h1, h2], hS.kept⟩)
end Go.Proofs.Ytjdeplehhmhpcaa
