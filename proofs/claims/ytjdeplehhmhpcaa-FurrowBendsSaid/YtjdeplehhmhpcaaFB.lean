/- Package furrow: all, which yields the numbers of a span; inner. -/
import Derived.Test.YtjdeplehhmhpcaaFA
namespace Go.Proofs.Ytjdeplehhmhpcaa
open Go.RowKit En

set_option maxRecDepth 100000 in
set_option maxHeartbeats 4000000 in
theorem all_iter (lo hi : Int) (b : Nat) (w : World) (hl : -100000 ≤ lo ∧ hi ≤ 100000) (h1 : w.cell? ⟨b, 0, none⟩ = some (.int .i64 lo)) (h2 : w.cell? ⟨b, 1, none⟩ = some (.int .i64 hi)) :
    IterAt Try.prog 100 [.pointer (some ⟨b, 0, none⟩)] (intsV (upL lo hi)) (fun c => c = b) w := by
  intro l J Jx Jp T w1 hb R hcap hJ
  have l1 : b < w.heap.size := World.block_lt_of_cell? w _ h1
  refine enter (n := 18) Try.func100 rfl rfl rfl (by repeat (first | exact Fill.nil | apply Fill.cons)) ?_
  refine cw_seq ?_
  refine cw_region ?_
  refine lstepB rfl rfl rfl (run_fieldAddr (.tmp rfl) fa67_0 (by first | exact Nat.zero_add _ | exact rfl)) ?_
  refine lstepB rfl rfl rfl (run_fieldAddr (.tmp rfl) fa28_0 (by first | exact Nat.zero_add _ | exact rfl)) ?_
  refine lstepB rfl rfl rfl (run_load1_at (.tmp rfl) kd3 (fun w' hS => hS.old_cell (fun h => h) ((cell_kept hb l1).trans h1))) ?_
  refine lstepB rfl rfl rfl (run_assign (.tmp rfl)) ?_
  refine lnil ?_
  refine xw_then ?_
  refine cw_block ?_
  refine cw_loopW (S := Nat × World × (Nat → Prop)) (fun s => [(3, .int .i64 (lo + (s.1 : Int)))]) [(0, _), (1, _)] (fun s => s.2.1) (fun _ => NoT) (fun _ => []) (fun s => (s.1 : Int) ≤ max 0 (hi - lo + 1) ∧ J s.1 s.2.2 s.2.1 ∧ w1.heap.size ≤ s.2.1.heap.size ∧ ¬ s.2.2 b ∧ s.2.1.cell? ⟨b, 0, none⟩ = some (.int .i64 lo) ∧ s.2.1.cell? ⟨b, 1, none⟩ = some (.int .i64 hi)) (fun s => (hi - lo + 1).toNat - s.1) (0, w1, T) ⟨by show ((0 : Nat) : Int) ≤ _; omega, hJ, Nat.le_refl _, hcap b rfl, (cell_kept hb l1).trans h1, (cell_kept hb l1).trans h2⟩ (by repeat (first | exact Less.nil | refine Less.cons (by first | exact rfl | (show some (Value.int .i64 lo) = some (Value.int .i64 (lo + ((0 : Nat) : Int))); simp)) ?_)) (fun _ h => h) ?_
  intro s hs
  obtain ⟨k, W, Tk⟩ := s
  obtain ⟨hk, hJk, hB, n1, c1, c2⟩ := hs
  dsimp only at hk hJk hB n1 c1 c2 ⊢
  refine cw_seq ?_
  refine cw_seq ?_
  refine cw_region ?_
  refine lstepB rfl rfl rfl (run_move (.tmp rfl)) ?_
  refine lstepB rfl rfl rfl (run_fieldAddr (.tmp rfl) fa67_0 (by first | exact Nat.zero_add _ | exact rfl)) ?_
  refine lstepB rfl rfl rfl (run_fieldAddr (.tmp rfl) fa28_1 (by first | exact Nat.zero_add _ | exact rfl)) ?_
  refine lstepB rfl rfl rfl (run_load1_at (.tmp rfl) kd3 (fun w' hS => hS.old_cell (fun h => h) c2)) ?_
  refine lstepB rfl rfl rfl (run_leq (.tmp rfl) (.tmp rfl) rfl) ?_
  refine lnil ?_
  refine xw_then ?_
  refine cw_cond_p (.tmp rfl) (fun hl => ?_) (fun hl => ?_)
  ·
    refine cw_skip ?_
    refine xw_then ?_
    refine cw_seq ?_
    refine cw_block ?_
    refine cw_seq ?_
    refine cw_region ?_
    refine lstepB rfl rfl rfl (run_move (.tmp rfl)) ?_
    refine lstepB rfl rfl rfl (run_move (.tmp rfl)) ?_
    have hx : (intsV (upL lo hi))[k]? = some (.int .i64 (lo + (k : Int))) := upV_at (by omega)
    refine lyield rfl (.tmp rfl) (.tmp rfl) (fun w hS => R.yield hx hJk hB hS) (fun u w w' hS hR => ?_) (fun ch w w' hS hR => ?_)
    ·
      obtain ⟨h3, T', h4, h5⟩ := hR
      have k1 : w.heap.size ≤ w'.heap.size := h3.size
      have k0 : W.heap.size ≤ w.heap.size := hS.size
      refine ⟨w', NoT, [], St.init _ _, ?_⟩
      rcases h5 with ⟨rfl, h5⟩ | ⟨rfl, h5⟩
      ·
        refine lstepB rfl rfl rfl (run_not (.tmp rfl) (by first | exact Bool.not_true | exact Bool.not_false | exact rfl)) ?_
        refine lnil ?_
        refine xw_then ?_
        refine cw_cond_false (.tmp rfl) ?_
        refine cw_skip ?_
        refine xw_in ?_
        refine xw_then ?_
        refine cw_region ?_
        refine lstepB rfl rfl rfl (run_move (.tmp rfl)) ?_
        refine lstepB rfl rfl rfl (run_add (.tmp rfl) .const (by first | exact IntWalk.i64_in _ (by omega) | exact rfl)) ?_
        refine lstepB rfl rfl rfl (run_assign (.tmp rfl)) ?_
        refine lnil ?_
        have z1 : b < W.heap.size := World.block_lt_of_cell? W _ c1
        have e1 := h3.old_cell n1 (hS.old_cell (fun h => h) c1)
        have e2 := h3.old_cell n1 (hS.old_cell (fun h => h) c2)
        exact xw_roundW (k + 1, w', T') ⟨by show ((k + 1 : Nat) : Int) ≤ _; omega, h5, by show w1.heap.size ≤ w'.heap.size; omega, fun h => (h4 _ h).elim n1 (fun h => by omega), e1, e2⟩ (by show (hi - lo + 1).toNat - (k + 1) < (hi - lo + 1).toNat - k; omega) (by repeat (first | exact Less.nil | refine Less.cons (by first | exact rfl | (show some (Value.int .i64 (lo + (k : Int) + 1)) = some (Value.int .i64 (lo + ((k + 1 : Nat) : Int))); simp [Int.add_assoc])) ?_)) (fun _ h => h)
      ·
        refine lstepB rfl rfl rfl (run_not (.tmp rfl) (by first | exact Bool.not_true | exact Bool.not_false | exact rfl)) ?_
        refine lnil ?_
        refine xw_then ?_
        refine cw_cond_true (.tmp rfl) ?_
        refine cw_ret ?_
        refine xw_in_ret ?_
        refine xw_then_ret ?_
        refine xw_then_ret ?_
        refine xw_in_ret ?_
        refine xw_ret0 Try.results100 (fun w2 hS2 => .inl ⟨rfl, .inr ⟨T', R.sX _ _ _ h5 (keepB_below hS2.kept ?_ (by omega))⟩⟩)
        exact R.lowX _ _ h5
    ·
      obtain ⟨h3, T', h4, h5⟩ := hR
      have k1 : w.heap.size ≤ w'.heap.size := h3.size
      have k0 : W.heap.size ≤ w.heap.size := hS.size
      refine ⟨w', NoT, [], St.init _ _, ?_⟩
      refine xw_then_panic ?_
      refine xw_in_panic ?_
      refine xw_then_panic ?_
      refine xw_then_panic ?_
      refine xw_in_panic ?_
      refine xw_panic (fun w2 hS2 => .inr ⟨ch, rfl, T', R.sP _ _ _ _ h5 (keepB_below hS2.kept (R.lowP _ _ _ h5) (by omega))⟩)
  ·
    obtain rfl : k = (intsV (upL lo hi)).length := by simp only [intsV, List.length_map, upL_length]; omega
    refine cw_exit ?_
    refine xw_then_exit ?_
    refine xw_then_exit ?_
    refine xw_in_exit ?_
    refine xw_end0 Try.results100 (fun w2 hS2 => .inl ⟨rfl, .inl ⟨Tk, R.sJ _ _ _ _ hJk (keepB_below hS2.kept (R.low _ _ _ hJk) hB)⟩⟩)
/-- An iterator over the numbers of a span, which lies in memory. -/
def AllF (lo hi : Int) (s : Nat) (B : Nat) (w' : World) : Prop := B ≤ s ∧ w'.cell? ⟨s, 0, none⟩ = some (.int .i64 lo) ∧ w'.cell? ⟨s, 1, none⟩ = some (.int .i64 hi)
abbrev allV (s : Nat) : Value := .func (.func 100) #[] [.pointer (some ⟨s, 0, none⟩)].toArray
set_option maxRecDepth 100000 in
set_option maxHeartbeats 4000000 in
theorem allK (lo hi : Int) (w : World) : CallsF Try.prog 78 (([.agg [.int .i64 lo, .int .i64 hi].toArray] : List Value)).toArray w fun e w' =>
    ∃ s : Nat, AllF lo hi s w.heap.size w' ∧ e = .returned (allV s) ∧ Below w.heap.size w w' := by
  refine enter (n := 4) Try.func78 rfl rfl rfl (by repeat (first | exact Fill.nil | apply Fill.cons)) ?_
  refine cw_seq ?_
  refine cw_region ?_
  refine lstep rfl rfl rfl (run_boxN (.tmp rfl)) ?_
  intro b1 _
  refine lstepB rfl rfl rfl (run_assign .const) ?_
  refine lnil ?_
  refine xw_then ?_
  refine cw_seq ?_
  refine cw_region ?_
  refine lstepB rfl rfl rfl (En.run_makeFunc .nil (.cons (.tmp rfl) .nil)) ?_
  refine lstepB rfl rfl rfl (run_assign (.tmp rfl)) ?_
  refine lnil ?_
  refine xw_then ?_
  refine cw_ret ?_
  refine xw_ret1 Try.results78 rfl (fun w2 hS => ⟨b1, ⟨(hS.own (b1, _) (by repeat (first | exact List.Mem.head _ | apply List.Mem.tail))).2.resolve_right (fun h => h), hS.cell (by repeat (first | exact List.Mem.head _ | apply List.Mem.tail)) rfl, hS.cell (by repeat (first | exact List.Mem.head _ | apply List.Mem.tail)) rfl⟩, rfl, hS.kept⟩)
set_option maxRecDepth 100000 in
set_option maxHeartbeats 4000000 in
theorem innerK (a : Option Addr) (n c : Nat) (hn : n ≤ 1000) (w : World) : CallsF Try.prog 91 (([.slice a n c] : List Value)).toArray w fun e w' =>
    ∃ s : Nat, AllF 1 ((n : Int) - 2) s w.heap.size w' ∧ e = .returned (allV s) ∧ Below w.heap.size w w' := by
  refine enter (n := 8) Try.func91 rfl rfl rfl (by repeat (first | exact Fill.nil | apply Fill.cons)) ?_
  refine cw_seq ?_
  refine cw_region ?_
  refine lstepB rfl rfl rfl (run_assign .const) ?_
  refine lnil ?_
  refine xw_then ?_
  refine cw_seq ?_
  refine cw_region ?_
  refine lstepB rfl rfl rfl (run_move (.tmp rfl)) ?_
  refine lstepB rfl rfl rfl (run_len (.tmp rfl) sl69) ?_
  refine lstepB rfl rfl rfl (run_sub (.tmp rfl) .const (by first | exact IntWalk.i64_in _ (by omega) | exact rfl)) ?_
  refine lstepB rfl rfl rfl (run_call1 cb83 (.cons .const (.cons (.tmp rfl) .nil)) (fun w2 hS => betweenK _ _ w2)) ?_
  refine lcallN rfl cb78 (.cons (.tmp rfl) .nil) (F := fun (s : Nat) lo w' => AllF 1 ((n : Int) - 2) s lo w') (fun w _ => allK _ _ w) ?_
  rintro z lo w1 hA hlo hsz hsz2 h1
  refine lstepB rfl rfl rfl (run_assign (.tmp rfl)) ?_
  refine lnil ?_
  refine xw_then ?_
  refine cw_ret ?_
  refine xw_ret1 Try.results91 rfl (fun w2 hS => ⟨z, ⟨Nat.le_trans hsz hA.1, hS.old_cell (fun ⟨_, h, _⟩ => List.not_mem_nil h) hA.2.1, hS.old_cell (fun ⟨_, h, _⟩ => List.not_mem_nil h) hA.2.2⟩, rfl, (h1.join0 hS).kept⟩)
end Go.Proofs.Ytjdeplehhmhpcaa
