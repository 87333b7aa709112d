/- Package soil: along, which yields places. -/
import Derived.Test.YtfmbnobkenngaaaGE
import Derived.Test.YtfmbnobkenngaaaET
namespace Go.Proofs.Ytfmbnobkenngaaa
open Go.RowKit En

/-- The places from the first to the last one, or back. -/
def alongL (long : Int) (back : Bool) : List Value := (List.range (long + 1).toNat).map fun (i : Nat) => .int .i64 (if back then long - (i : Int) else (i : Int))
theorem alongL_length (long : Int) (back : Bool) : (alongL long back).length = (long + 1).toNat := by simp [alongL]
theorem alongL_at {long : Int} {back : Bool} {k : Nat} (h : k < (long + 1).toNat) : (alongL long back)[k]? = some (.int .i64 (if back then long - (k : Int) else (k : Int))) := by simp [alongL, h]
set_option maxRecDepth 100000 in
set_option maxHeartbeats 4000000 in
theorem along1_iter (long : Int) (back : Bool) (b1 b2 : Nat) (w : World) (hl : -1 ≤ long ∧ long ≤ 1000000) (h1 : w.cell? ⟨b1, 0, none⟩ = some (.int .i64 long)) (h2 : w.cell? ⟨b2, 0, none⟩ = some (.bool back)) :
    IterAt Try.prog 105 [.pointer (some ⟨b1, 0, none⟩), .pointer (some ⟨b2, 0, none⟩)] (alongL long back) (fun c => c = b1 ∨ c = b2) w := by
  intro l J Jx Jp T w1 hb R hcap hJ
  have l1 : b1 < w.heap.size := World.block_lt_of_cell? w _ h1
  have l2 : b2 < w.heap.size := World.block_lt_of_cell? w _ h2
  refine enter (n := 24) Try.func105 rfl rfl rfl (by repeat (first | exact Fill.nil | apply Fill.cons)) ?_
  refine cw_seq ?_
  refine cw_region ?_
  refine lstepB rfl rfl rfl (run_assign .const) ?_
  refine lnil ?_
  refine xw_then ?_
  refine cw_block ?_
  refine cw_loopW (S := Nat × World × (Nat → Prop)) (fun s => [(4, .int .i64 (s.1 : Int))]) [(0, _), (1, _), (2, _)] (fun s => s.2.1) (fun _ => NoT) (fun _ => []) (fun s => (s.1 : Int) ≤ long + 1 ∧ J s.1 s.2.2 s.2.1 ∧ w1.heap.size ≤ s.2.1.heap.size ∧ (¬ s.2.2 b1 ∧ ¬ s.2.2 b2) ∧ s.2.1.cell? ⟨b1, 0, none⟩ = some (.int .i64 long) ∧ s.2.1.cell? ⟨b2, 0, none⟩ = some (.bool back)) (fun s => (long + 1).toNat - s.1) (0, w1, T) ⟨by show ((0 : Nat) : Int) ≤ long + 1; omega, hJ, Nat.le_refl _, ⟨hcap b1 (.inl rfl), hcap b2 (.inr rfl)⟩, (cell_kept hb l1).trans h1, (cell_kept hb l2).trans h2⟩ (by repeat (first | exact Less.nil | refine Less.cons rfl ?_)) (fun _ h => h) ?_
  intro s hs
  obtain ⟨k, W, Tk⟩ := s
  obtain ⟨hk, hJk, hB, ⟨n1, n2⟩, c1, c2⟩ := hs
  dsimp only at hk hJk hB n1 n2 c1 c2 ⊢
  refine cw_seq ?_
  refine cw_seq ?_
  refine cw_region ?_
  refine lstepB rfl rfl rfl (run_move (.tmp rfl)) ?_
  refine lstepB rfl rfl rfl (run_fieldAddr (.tmp rfl) fa78_0 (by first | exact Nat.zero_add _ | exact rfl)) ?_
  refine lstepB rfl rfl rfl (run_fieldAddr (.tmp rfl) fa24_0 (by first | exact Nat.zero_add _ | exact rfl)) ?_
  refine lstepB rfl rfl rfl (run_load1_at (.tmp rfl) kd3 (fun w' hS => hS.old_cell (fun h => h) c1)) ?_
  refine lstepB rfl rfl rfl (run_leq (.tmp rfl) (.tmp rfl) rfl) ?_
  refine lnil ?_
  refine xw_then ?_
  refine cw_cond_p (.tmp rfl) (fun hl => ?_) (fun hl => ?_)
  ·
    cases back
    ·
      refine cw_skip ?_
      refine xw_then ?_
      refine cw_seq ?_
      refine cw_block ?_
      refine cw_seq ?_
      refine cw_region ?_
      refine lstepB rfl rfl rfl (run_move (.tmp rfl)) ?_
      refine lstepB rfl rfl rfl (run_assign (.tmp rfl)) ?_
      refine lnil ?_
      refine xw_then ?_
      refine cw_seq ?_
      refine cw_seq ?_
      refine cw_region ?_
      refine lstepB rfl rfl rfl (run_load1_at (.tmp rfl) kd4 (fun w' hS => hS.old_cell (fun h => h) c2)) ?_
      refine lnil ?_
      refine xw_then ?_
      refine cw_cond_false (.tmp rfl) ?_
      refine cw_skip ?_
      refine xw_then ?_
      refine cw_seq ?_
      refine cw_region ?_
      refine lstepB rfl rfl rfl (run_move (.tmp rfl)) ?_
      refine lstepB rfl rfl rfl (run_move (.tmp rfl)) ?_
      have hx : (alongL long false)[k]? = some (.int .i64 ((k : Int))) := alongL_at (by omega)
      refine lyield rfl (.tmp rfl) (.tmp rfl) (fun w hS => R.yield hx hJk hB hS) (fun u w w' hS hR => ?_) (fun ch w w' hS hR => ?_)
      ·
        obtain ⟨h3, T', h4, h5⟩ := hR
        have k1 : w.heap.size ≤ w'.heap.size := h3.size
        have k0 : W.heap.size ≤ w.heap.size := hS.size
        refine ⟨w', NoT, [], St.init _ _, ?_⟩
        rcases h5 with ⟨rfl, h5⟩ | ⟨rfl, h5⟩
        ·
          refine lstepB rfl rfl rfl (run_not (.tmp rfl) (by first | exact Bool.not_true | exact Bool.not_false | exact rfl)) ?_
          refine lnil ?_
          refine xw_then ?_
          refine cw_cond_false (.tmp rfl) ?_
          refine cw_skip ?_
          refine xw_in ?_
          refine xw_then ?_
          refine cw_region ?_
          refine lstepB rfl rfl rfl (run_move (.tmp rfl)) ?_
          refine lstepB rfl rfl rfl (run_add (.tmp rfl) .const (by first | exact IntWalk.i64_in _ (by omega) | exact rfl)) ?_
          refine lstepB rfl rfl rfl (run_assign (.tmp rfl)) ?_
          refine lnil ?_
          have z1 : b1 < W.heap.size := World.block_lt_of_cell? W _ c1
          have z2 : b2 < W.heap.size := World.block_lt_of_cell? W _ c2
          have e1 := h3.old_cell n1 (hS.old_cell (fun h => h) c1)
          have e2 := h3.old_cell n2 (hS.old_cell (fun h => h) c2)
          exact xw_roundW (k + 1, w', T') ⟨by show ((k + 1 : Nat) : Int) ≤ long + 1; omega, h5, by show w1.heap.size ≤ w'.heap.size; omega, ⟨fun h => (h4 _ h).elim n1 (fun h => by omega), fun h => (h4 _ h).elim n2 (fun h => by omega)⟩, e1, e2⟩ (by show (long + 1).toNat - (k + 1) < (long + 1).toNat - k; omega) (by repeat (first | exact Less.nil | refine Less.cons rfl ?_)) (fun _ h => h)
        ·
          refine lstepB rfl rfl rfl (run_not (.tmp rfl) (by first | exact Bool.not_true | exact Bool.not_false | exact rfl)) ?_
          refine lnil ?_
          refine xw_then ?_
          refine cw_cond_true (.tmp rfl) ?_
          refine cw_ret ?_
          refine xw_in_ret ?_
          refine xw_then_ret ?_
          refine xw_then_ret ?_
          refine xw_in_ret ?_
          refine xw_ret0 Try.results105 (fun w2 hS2 => .inl ⟨rfl, .inr ⟨T', R.sX _ _ _ h5 (keepB_below hS2.kept ?_ (by omega))⟩⟩)
          exact R.lowX _ _ h5
      ·
        obtain ⟨h3, T', h4, h5⟩ := hR
        have k1 : w.heap.size ≤ w'.heap.size := h3.size
        have k0 : W.heap.size ≤ w.heap.size := hS.size
        refine ⟨w', NoT, [], St.init _ _, ?_⟩
        refine xw_then_panic ?_
        refine xw_in_panic ?_
        refine xw_then_panic ?_
        refine xw_then_panic ?_
        refine xw_in_panic ?_
        refine xw_panic (fun w2 hS2 => .inr ⟨ch, rfl, T', R.sP _ _ _ _ h5 (keepB_below hS2.kept (R.lowP _ _ _ h5) (by omega))⟩)
    ·
      refine cw_skip ?_
      refine xw_then ?_
      refine cw_seq ?_
      refine cw_block ?_
      refine cw_seq ?_
      refine cw_region ?_
      refine lstepB rfl rfl rfl (run_move (.tmp rfl)) ?_
      refine lstepB rfl rfl rfl (run_assign (.tmp rfl)) ?_
      refine lnil ?_
      refine xw_then ?_
      refine cw_seq ?_
      refine cw_seq ?_
      refine cw_region ?_
      refine lstepB rfl rfl rfl (run_load1_at (.tmp rfl) kd4 (fun w' hS => hS.old_cell (fun h => h) c2)) ?_
      refine lnil ?_
      refine xw_then ?_
      refine cw_cond_true (.tmp rfl) ?_
      refine cw_region ?_
      refine lstepB rfl rfl rfl (run_fieldAddr (.tmp rfl) fa78_0 (by first | exact Nat.zero_add _ | exact rfl)) ?_
      refine lstepB rfl rfl rfl (run_fieldAddr (.tmp rfl) fa24_0 (by first | exact Nat.zero_add _ | exact rfl)) ?_
      refine lstepB rfl rfl rfl (run_load1_at (.tmp rfl) kd3 (fun w' hS => hS.old_cell (fun h => h) c1)) ?_
      refine lstepB rfl rfl rfl (run_move (.tmp rfl)) ?_
      refine lstepB rfl rfl rfl (run_sub (.tmp rfl) (.tmp rfl) (by first | exact IntWalk.i64_in _ (by omega) | exact rfl)) ?_
      refine lstepB rfl rfl rfl (run_assign (.tmp rfl)) ?_
      refine lnil ?_
      refine xw_then ?_
      refine cw_seq ?_
      refine cw_region ?_
      refine lstepB rfl rfl rfl (run_move (.tmp rfl)) ?_
      refine lstepB rfl rfl rfl (run_move (.tmp rfl)) ?_
      have hx : (alongL long true)[k]? = some (.int .i64 (long - (k : Int))) := alongL_at (by omega)
      refine lyield rfl (.tmp rfl) (.tmp rfl) (fun w hS => R.yield hx hJk hB hS) (fun u w w' hS hR => ?_) (fun ch w w' hS hR => ?_)
      ·
        obtain ⟨h3, T', h4, h5⟩ := hR
        have k1 : w.heap.size ≤ w'.heap.size := h3.size
        have k0 : W.heap.size ≤ w.heap.size := hS.size
        refine ⟨w', NoT, [], St.init _ _, ?_⟩
        rcases h5 with ⟨rfl, h5⟩ | ⟨rfl, h5⟩
        ·
          refine lstepB rfl rfl rfl (run_not (.tmp rfl) (by first | exact Bool.not_true | exact Bool.not_false | exact rfl)) ?_
          refine lnil ?_
          refine xw_then ?_
          refine cw_cond_false (.tmp rfl) ?_
          refine cw_skip ?_
          refine xw_in ?_
          refine xw_then ?_
          refine cw_region ?_
          refine lstepB rfl rfl rfl (run_move (.tmp rfl)) ?_
          refine lstepB rfl rfl rfl (run_add (.tmp rfl) .const (by first | exact IntWalk.i64_in _ (by omega) | exact rfl)) ?_
          refine lstepB rfl rfl rfl (run_assign (.tmp rfl)) ?_
          refine lnil ?_
          have z1 : b1 < W.heap.size := World.block_lt_of_cell? W _ c1
          have z2 : b2 < W.heap.size := World.block_lt_of_cell? W _ c2
          have e1 := h3.old_cell n1 (hS.old_cell (fun h => h) c1)
          have e2 := h3.old_cell n2 (hS.old_cell (fun h => h) c2)
          exact xw_roundW (k + 1, w', T') ⟨by show ((k + 1 : Nat) : Int) ≤ long + 1; omega, h5, by show w1.heap.size ≤ w'.heap.size; omega, ⟨fun h => (h4 _ h).elim n1 (fun h => by omega), fun h => (h4 _ h).elim n2 (fun h => by omega)⟩, e1, e2⟩ (by show (long + 1).toNat - (k + 1) < (long + 1).toNat - k; omega) (by repeat (first | exact Less.nil | refine Less.cons rfl ?_)) (fun _ h => h)
        ·
          refine lstepB rfl rfl rfl (run_not (.tmp rfl) (by first | exact Bool.not_true | exact Bool.not_false | exact rfl)) ?_
          refine lnil ?_
          refine xw_then ?_
          refine cw_cond_true (.tmp rfl) ?_
          refine cw_ret ?_
          refine xw_in_ret ?_
          refine xw_then_ret ?_
          refine xw_then_ret ?_
          refine xw_in_ret ?_
          refine xw_ret0 Try.results105 (fun w2 hS2 => .inl ⟨rfl, .inr ⟨T', R.sX _ _ _ h5 (keepB_below hS2.kept ?_ (by omega))⟩⟩)
          exact R.lowX _ _ h5
      ·
        obtain ⟨h3, T', h4, h5⟩ := hR
        have k1 : w.heap.size ≤ w'.heap.size := h3.size
        have k0 : W.heap.size ≤ w.heap.size := hS.size
        refine ⟨w', NoT, [], St.init _ _, ?_⟩
        refine xw_then_panic ?_
        refine xw_in_panic ?_
        refine xw_then_panic ?_
        refine xw_then_panic ?_
        refine xw_in_panic ?_
        refine xw_panic (fun w2 hS2 => .inr ⟨ch, rfl, T', R.sP _ _ _ _ h5 (keepB_below hS2.kept (R.lowP _ _ _ h5) (by omega))⟩)
  ·
    obtain rfl : k = (alongL long back).length := by rw [alongL_length]; omega
    refine cw_exit ?_
    refine xw_then_exit ?_
    refine xw_then_exit ?_
    refine xw_in_exit ?_
    refine xw_end0 Try.results105 (fun w2 hS2 => .inl ⟨rfl, .inl ⟨Tk, R.sJ _ _ _ _ hJk (keepB_below hS2.kept (R.low _ _ _ hJk) hB)⟩⟩)
set_option maxRecDepth 100000 in
set_option maxHeartbeats 4000000 in
theorem alongK (long : Int) (back : Bool) (c1 c2 c3 c4 c5 : Value) (w : World) : CallsF Try.prog 90 (([.agg [.int .i64 long, c1, c2, c3, c4, c5].toArray, .bool back] : List Value)).toArray w fun e w' =>
    ∃ s : Nat × Nat, (w.heap.size ≤ s.1 ∧ w.heap.size ≤ s.2 ∧ w'.cell? ⟨s.1, 0, none⟩ = some (.int .i64 long) ∧ w'.cell? ⟨s.2, 0, none⟩ = some (.bool back)) ∧ e = .returned (.func (.func 105) #[] [.pointer (some ⟨s.1, 0, none⟩), .pointer (some ⟨s.2, 0, none⟩)].toArray) ∧ Below w.heap.size w w' := by
  refine enter (n := 6) Try.func90 rfl rfl rfl (by repeat (first | exact Fill.nil | apply Fill.cons)) ?_
  refine cw_seq ?_
  refine cw_region ?_
  refine lstep rfl rfl rfl (run_boxN (.tmp rfl)) ?_
  intro b2 _
  refine lstep rfl rfl rfl (run_box1 (.tmp rfl) rfl) ?_
  intro b3 _
  refine lstepB rfl rfl rfl (run_assign .const) ?_
  refine lnil ?_
  refine xw_then ?_
  refine cw_seq ?_
  refine cw_region ?_
  refine lstepB rfl rfl rfl (En.run_makeFunc .nil (.cons (.tmp rfl) (.cons (.tmp rfl) .nil))) ?_
  refine lstepB rfl rfl rfl (run_assign (.tmp rfl)) ?_
  refine lnil ?_
  refine xw_then ?_
  refine cw_ret ?_
  refine xw_ret1 Try.results90 rfl (fun w2 hS => ⟨(b2, b3), ⟨(hS.own (b2, _) (by repeat (first | exact List.Mem.head _ | apply List.Mem.tail))).2.resolve_right (fun h => h), (hS.own (b3, _) (by repeat (first | exact List.Mem.head _ | apply List.Mem.tail))).2.resolve_right (fun h => h), hS.cell (by repeat (first | exact List.Mem.head _ | apply List.Mem.tail)) rfl, hS.cell (by repeat (first | exact List.Mem.head _ | apply List.Mem.tail)) rfl⟩, rfl, hS.kept⟩)
end Go.Proofs.Ytfmbnobkenngaaa
