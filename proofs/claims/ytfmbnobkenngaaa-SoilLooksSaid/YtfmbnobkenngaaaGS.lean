/- Package soil: Dig. -/
import Derived.Test.YtfmbnobkenngaaaGR
namespace Go.Proofs.Ytfmbnobkenngaaa
open Go.RowKit En

theorem runB_to {E : Env} {w0 : World} {T : Nat → Prop} {H : Heap} {o : Oper} {u v : Value} (h : RunB Try.prog E w0 T H o u) (e : u = v) : RunB Try.prog E w0 T H o v := e ▸ h
/-- The widest of so many spans: where it is, and how wide. -/
def widF (l : List SpanD) : Nat → Int × Int
  | 0 => (0, -1)
  | k + 1 => if (widF l k).2 < (l.getD k ⟨0, 0⟩).hi - (l.getD k ⟨0, 0⟩).lo then ((k : Int), (l.getD k ⟨0, 0⟩).hi - (l.getD k ⟨0, 0⟩).lo) else widF l k
theorem widF_succ {l : List SpanD} {k : Nat} {s : SpanD} (h : l[k]? = some s) : widF l (k + 1) = if (widF l k).2 < s.hi - s.lo then ((k : Int), s.hi - s.lo) else widF l k := by
  rw [widF, List.getD_eq_getElem?_getD, h]; rfl
set_option maxRecDepth 100000 in
set_option maxHeartbeats 4000000 in
theorem widestK (l : List SpanD) (a0 a1 a2 : Int) (pa a : Option Addr) (pl pc c : Nat) (ms : Value) (w : World) (hm : l.length ≤ 1000) (hl : ∀ s ∈ l, in1000 s) (hq : SpansAt w a l) : Gives Try.prog 67 [.agg [.int .i64 a0, .int .i64 a1, .int .i64 a2, .slice pa pl pc, .slice a l.length c, ms].toArray] w (.agg [.int .i64 (widF l l.length).1, .int .i64 (widF l l.length).2].toArray) := by
  refine .mk <| enter (n := 32) Try.func67 rfl rfl rfl (by repeat (first | exact Fill.nil | apply Fill.cons)) ?_
  refine cw_seq ?_
  refine cw_region ?_
  refine lstep rfl rfl rfl (run_boxN (.tmp rfl)) ?_
  intro b1 _
  refine lstep rfl rfl rfl (run_alloc zr104) ?_
  intro b2 _
  refine lnil ?_
  refine xw_then ?_
  refine cw_seq ?_
  refine cw_region ?_
  refine lstepB rfl rfl rfl (run_build_at (.cons .const (.cons .const .nil)) (fun w => bd104_0_1 w)) ?_
  refine lstep rfl rfl rfl (run_alloc zr104) ?_
  intro b3 _
  refine lstep0 rfl rfl (run_storeN (.tmp rfl) (.tmp rfl) rfl sz104 rfl (by repeat (first | exact Upd.here | apply Upd.there)) (by repeat (first | exact Put.done | apply Put.put | apply Put.skip))) ?_
  refine lnil ?_
  refine xw_then ?_
  refine cw_seq ?_
  refine cw_seq ?_
  refine cw_region ?_
  refine lstepB rfl rfl rfl (run_fieldAddr (.tmp rfl) fa78_1 (by first | exact Nat.zero_add _ | exact rfl)) ?_
  refine lstepB rfl rfl rfl (run_load1 (.tmp rfl) kd58 (by repeat (first | exact List.Mem.head _ | apply List.Mem.tail)) (by exact rfl)) ?_
  refine lstepB rfl rfl rfl (run_len (.tmp rfl) sl58) ?_
  refine lstepB rfl rfl rfl (run_move .const) ?_
  refine lnil ?_
  refine xw_then ?_
  refine cw_block ?_
  refine cw_loop (S := Nat) (fun k => [(10, .int .i64 (k : Int))]) [(1, _), (2, _), (3, _), (8, _), (9, _)] (fun k => [(b3, Obj.cells [.int .i64 (widF l k).1, .int .i64 (widF l k).2].toArray 104 (0, 0)), (b2, Obj.cells [.int .i64 0, .int .i64 0].toArray 104 (0, 0)), (b1, Obj.cells [.int .i64 a0, .int .i64 a1, .int .i64 a2, .slice pa pl pc, .slice a l.length c, ms].toArray 78 (0, 0))]) (fun k => k ≤ l.length) (fun k => l.length - k) 0 (Nat.zero_le _) (by repeat (first | exact Less.nil | refine Less.cons rfl ?_)) (by repeat (first | exact Pick.nil | (apply Pick.cons; focus (repeat (first | exact Del.here | apply Del.there))))) ?_
  intro k hk
  refine cw_seq ?_
  refine cw_region ?_
  refine lstepB rfl rfl rfl (run_lss (.tmp rfl) (.tmp rfl) (by first | exact decide_eq_true (by omega) | exact decide_eq_false (by omega) | exact rfl)) ?_
  refine lnil ?_
  refine xw_then ?_
  refine cw_seq ?_
  refine cw_cond_p (.tmp rfl) (fun hl2 => ?_) (fun hl2 => ?_)
  ·
    obtain ⟨s, hs⟩ : ∃ s, l[k]? = some s := ⟨_, List.getElem?_eq_getElem (by omega)⟩
    obtain ⟨b, o, rfl, hb, hc⟩ := hq.span (by omega)
    have hs1 := hl s (List.mem_of_getElem? hs)
    simp only [in1000] at hs1
    have hsum := widF_succ hs
    refine cw_skip ?_
    refine xw_then ?_
    refine cw_seq ?_
    refine cw_block ?_
    refine cw_seq ?_
    refine cw_region ?_
    refine lstepB rfl rfl rfl (run_move (.tmp rfl)) ?_
    refine lstepB rfl rfl rfl (run_indexAddr (off' := o + k * 2) (.tmp rfl) (.tmp rfl) el58 (by omega) rfl) ?_
    refine lstepB rfl rfl rfl (run_loadN_at (l := [.int .i64 s.lo, .int .i64 s.hi]) (.tmp rfl) kd28 sz28 rfl (fun w' hS j v hj => hS.old_cell (fun h => h) (hc k s hs j v hj))) ?_
    refine lstep rfl rfl rfl (run_alloc zr28) ?_
    intro b5 _
    refine lstepB rfl rfl rfl (run_assign (.tmp rfl)) ?_
    refine lstep0 rfl rfl (run_storeN (.tmp rfl) (.tmp rfl) rfl sz28 rfl (by repeat (first | exact Upd.here | apply Upd.there)) (by repeat (first | exact Put.done | apply Put.put | apply Put.skip))) ?_
    refine lnil ?_
    refine xw_then ?_
    refine cw_seq ?_
    refine cw_region ?_
    refine lstepB rfl rfl rfl (run_fieldAddr (.tmp rfl) fa28_1 (by first | exact Nat.zero_add _ | exact rfl)) ?_
    refine lstepB rfl rfl rfl (run_load1 (.tmp rfl) kd3 (by repeat (first | exact List.Mem.head _ | apply List.Mem.tail)) (by exact rfl)) ?_
    refine lstepB rfl rfl rfl (run_fieldAddr (.tmp rfl) fa28_0 (by first | exact Nat.zero_add _ | exact rfl)) ?_
    refine lstepB rfl rfl rfl (run_load1 (.tmp rfl) kd3 (by repeat (first | exact List.Mem.head _ | apply List.Mem.tail)) (by exact rfl)) ?_
    refine lstepB rfl rfl rfl (run_sub (c := s.hi - s.lo) (.tmp rfl) (.tmp rfl) (IntWalk.i64_in _ (by omega))) ?_
    refine lstepB rfl rfl rfl (run_fieldAddr (.tmp rfl) fa104_1 (by first | exact Nat.zero_add _ | exact rfl)) ?_
    refine lstepB rfl rfl rfl (run_load1 (.tmp rfl) kd3 (by repeat (first | exact List.Mem.head _ | apply List.Mem.tail)) (by exact rfl)) ?_
    refine lstepB rfl rfl rfl (run_gtr (.tmp rfl) (.tmp rfl) rfl) ?_
    refine lnil ?_
    refine xw_then ?_
    refine cw_cond_p (.tmp rfl) (fun hc2 => ?_) (fun hc2 => ?_)
    ·
      rw [if_pos hc2] at hsum
      have e1 : (widF l (k + 1)).1 = (k : Int) := by rw [hsum]
      have e2 : (widF l (k + 1)).2 = s.hi - s.lo := by rw [hsum]
      refine cw_region ?_
      refine lstepB rfl rfl rfl (runB_to (run_move (.tmp rfl)) (congrArg (Value.int .i64) e1.symm)) ?_
      refine lstepB rfl rfl rfl (run_fieldAddr (.tmp rfl) fa28_1 (by first | exact Nat.zero_add _ | exact rfl)) ?_
      refine lstepB rfl rfl rfl (run_load1 (.tmp rfl) kd3 (by repeat (first | exact List.Mem.head _ | apply List.Mem.tail)) (by exact rfl)) ?_
      refine lstepB rfl rfl rfl (run_fieldAddr (.tmp rfl) fa28_0 (by first | exact Nat.zero_add _ | exact rfl)) ?_
      refine lstepB rfl rfl rfl (run_load1 (.tmp rfl) kd3 (by repeat (first | exact List.Mem.head _ | apply List.Mem.tail)) (by exact rfl)) ?_
      refine lstepB rfl rfl rfl (run_sub (c := (widF l (k + 1)).2) (.tmp rfl) (.tmp rfl) (by rw [e2]; exact IntWalk.i64_in _ (by omega))) ?_
      refine lstepB rfl rfl rfl (run_build_at (.cons (.tmp rfl) (.cons (.tmp rfl) .nil)) (fun w => bd104_0_1 w)) ?_
      refine lstep0 rfl rfl (run_storeN (.tmp rfl) (.tmp rfl) rfl sz104 rfl (by repeat (first | exact Upd.here | apply Upd.there)) (by repeat (first | exact Put.done | apply Put.put | apply Put.skip))) ?_
      refine lnil ?_
      refine xw_in ?_
      refine xw_then ?_
      refine cw_region ?_
      refine lstepB rfl rfl rfl (run_add (.tmp rfl) .const (by first | exact IntWalk.i64_in _ (by omega) | exact rfl)) ?_
      refine lstepB rfl rfl rfl (run_move (.tmp rfl)) ?_
      refine lnil ?_
      exact xw_round (k + 1) (by show k + 1 ≤ _; omega) (by show l.length - (k + 1) < l.length - k; omega) (by repeat (first | exact Less.nil | refine Less.cons rfl ?_)) (by repeat (first | exact Pick.nil | (apply Pick.cons; focus (repeat (first | exact Del.here | apply Del.there)))))
    ·
      refine cw_skip ?_
      refine xw_in ?_
      refine xw_then ?_
      refine cw_region ?_
      refine lstepB rfl rfl rfl (run_add (.tmp rfl) .const (by first | exact IntWalk.i64_in _ (by omega) | exact rfl)) ?_
      refine lstepB rfl rfl rfl (run_move (.tmp rfl)) ?_
      refine lnil ?_
      rw [if_neg hc2] at hsum
      rw [← hsum]
      exact xw_round (k + 1) (by show k + 1 ≤ _; omega) (by show l.length - (k + 1) < l.length - k; omega) (by repeat (first | exact Less.nil | refine Less.cons rfl ?_)) (by repeat (first | exact Pick.nil | (apply Pick.cons; focus (repeat (first | exact Del.here | apply Del.there)))))
  ·
    obtain rfl : k = l.length := by omega
    refine cw_exit ?_
    refine xw_then_exit ?_
    refine xw_then_exit ?_
    refine xw_in_exit ?_
    refine xw_then ?_
    refine cw_seq ?_
    refine cw_region ?_
    refine lstepB rfl rfl rfl (run_loadN (.tmp rfl) kd104 sz104 (by repeat (first | exact List.Mem.head _ | apply List.Mem.tail)) (by repeat (first | exact Sub.done | apply Sub.take | apply Sub.skip))) ?_
    refine lstep0 rfl rfl (run_storeN (.tmp rfl) (.tmp rfl) rfl sz104 rfl (by repeat (first | exact Upd.here | apply Upd.there)) (by repeat (first | exact Put.done | apply Put.put | apply Put.skip))) ?_
    refine lnil ?_
    refine xw_then ?_
    refine cw_ret ?_
    refine xw_retC1 rfl rfl kd104 sz104 (by repeat (first | exact List.Mem.head _ | apply List.Mem.tail)) (by repeat (first | exact Sub.done | apply Sub.take | apply Sub.skip)) (fun w hS => ⟨rfl, hS.kept⟩)
theorem ints0 {w : World} : IntsAt w none [] := fun i r h => by simp at h
def digS (g : GroundD) : Int × Int := if hardE g [] = none then widF (hardL g) (hardL g).length else (0, 0)
set_option maxRecDepth 100000 in
set_option maxHeartbeats 4000000 in
theorem find66_check {n : Int} {g : GroundD} {pa : Option Addr} {pc b1 : Nat} {w : World} (hm : g.pits.length ≤ 1000000) (hp : PitsAt w pa g.pits) (hG : GroundIn w b1 g pa pc) (hc : checkE g [] = some n) : Pans Try.prog 66 [.pointer (some ⟨b1, 0, none⟩)] w [errP n] := by
  refine enter (n := 7) Try.func66 rfl rfl rfl (by repeat (first | exact Fill.nil | apply Fill.cons)) ?_
  refine cw_seq ?_
  refine cw_region ?_
  refine lstep rfl rfl rfl (run_alloc zr104) ?_
  intro b1 _
  refine lnil ?_
  refine xw_then ?_
  refine cw_seq ?_
  refine cw_region ?_
  refine lstepB rfl rfl rfl (run_loadN_at (l := [.int .i64 g.long, .int .i64 g.rise, .int .i64 g.change, .slice pa g.pits.length pc]) (.tmp rfl) kd24 sz24 rfl (fun w' hS j v hj => hS.old_cell (fun h => h) (hG j v hj))) ?_
  refine lpans rfl cb44 (.cons (.tmp rfl) (.cons .const .nil)) (fun w2 hS => pans_of (checkK g [] pa none pc 0 w2 hm (by simp) (hp.kept hS.kept) ints0) hc) ?_
  refine xw_then_panic ?_
  refine xw_panic (fun w hS => ⟨rfl, hS.kept⟩)
set_option maxRecDepth 100000 in
set_option maxHeartbeats 4000000 in
theorem find66_clash {g : GroundD} {pa : Option Addr} {pc b1 : Nat} {w : World} (hm : g.pits.length ≤ 1000000) (hp : PitsAt w pa g.pits) (hG : GroundIn w b1 g pa pc) (hc : checkE g [] = none) (ho : lookOk g = false) : Pans Try.prog 66 [.pointer (some ⟨b1, 0, none⟩)] w [errP 10] := by
  obtain ⟨hg, _⟩ := check_valid hc
  refine enter (n := 7) Try.func66 rfl rfl rfl (by repeat (first | exact Fill.nil | apply Fill.cons)) ?_
  refine cw_seq ?_
  refine cw_region ?_
  refine lstep rfl rfl rfl (run_alloc zr104) ?_
  intro b1 _
  refine lnil ?_
  refine xw_then ?_
  refine cw_seq ?_
  refine cw_region ?_
  refine lstepB rfl rfl rfl (run_loadN_at (l := [.int .i64 g.long, .int .i64 g.rise, .int .i64 g.change, .slice pa g.pits.length pc]) (.tmp rfl) kd24 sz24 rfl (fun w' hS j v hj => hS.old_cell (fun h => h) (hG j v hj))) ?_
  refine lstepB rfl rfl rfl (run_call1 cb44 (.cons (.tmp rfl) (.cons .const .nil)) (fun w2 hS => gives_of (checkK g [] pa none pc 0 w2 hm (by simp) (hp.kept hS.kept) ints0) hc)) ?_
  refine lnil ?_
  refine xw_then ?_
  refine cw_seq ?_
  refine cw_region ?_
  refine lstepB rfl rfl rfl (run_loadN_at (l := [.int .i64 g.long, .int .i64 g.rise, .int .i64 g.change, .slice pa g.pits.length pc]) (.tmp rfl) kd24 sz24 rfl (fun w' hS j v hj => hS.old_cell (fun h => h) (hG j v hj))) ?_
  have hb : ∀ w2, Below w.heap.size w w2 → Pans Try.prog 45 [.agg [.int .i64 g.long, .int .i64 g.rise, .int .i64 g.change, .slice pa g.pits.length pc].toArray] w2 [errP 10] := fun w2 hB => look_bad hg (hp.kept hB) ho
  refine lpans rfl cb45 (.cons (.tmp rfl) .nil) (fun w2 hS => hb w2 hS.kept) ?_
  refine xw_then_panic ?_
  refine xw_panic (fun w hS => ⟨rfl, hS.kept⟩)
set_option maxRecDepth 100000 in
set_option maxHeartbeats 4000000 in
theorem find66_ok {g : GroundD} {pa : Option Addr} {pc b1 : Nat} {w : World} (hm : g.pits.length ≤ 1000000) (hp : PitsAt w pa g.pits) (hG : GroundIn w b1 g pa pc) (hc : checkE g [] = none) (ho : lookOk g = true) : Gives Try.prog 66 [.pointer (some ⟨b1, 0, none⟩)] w (.agg [.int .i64 (widF (hardL g) (hardL g).length).1, .int .i64 (widF (hardL g) (hardL g).length).2].toArray) := by
  obtain ⟨hg, _⟩ := check_valid hc
  refine .mk <| enter (n := 7) Try.func66 rfl rfl rfl (by repeat (first | exact Fill.nil | apply Fill.cons)) ?_
  refine cw_seq ?_
  refine cw_region ?_
  refine lstep rfl rfl rfl (run_alloc zr104) ?_
  intro b1 _
  refine lnil ?_
  refine xw_then ?_
  refine cw_seq ?_
  refine cw_region ?_
  refine lstepB rfl rfl rfl (run_loadN_at (l := [.int .i64 g.long, .int .i64 g.rise, .int .i64 g.change, .slice pa g.pits.length pc]) (.tmp rfl) kd24 sz24 rfl (fun w' hS j v hj => hS.old_cell (fun h => h) (hG j v hj))) ?_
  refine lstepB rfl rfl rfl (run_call1 cb44 (.cons (.tmp rfl) (.cons .const .nil)) (fun w2 hS => gives_of (checkK g [] pa none pc 0 w2 hm (by simp) (hp.kept hS.kept) ints0) hc)) ?_
  refine lnil ?_
  refine xw_then ?_
  refine cw_seq ?_
  refine cw_region ?_
  refine lstepB rfl rfl rfl (run_loadN_at (l := [.int .i64 g.long, .int .i64 g.rise, .int .i64 g.change, .slice pa g.pits.length pc]) (.tmp rfl) kd24 sz24 rfl (fun w' hS j v hj => hS.old_cell (fun h => h) (hG j v hj))) ?_
  refine lstep rfl rfl rfl (LR.runs (R := []) (A := []) (lr_gives cb45 (.cons (.tmp rfl) .nil) (fun w2 hS => look_ok hg (hp.kept hS.kept) ho)) (by repeat (first | exact Pick.nil | (apply Pick.cons; focus (repeat (first | exact Del.here | apply Del.there))))) (by repeat (first | exact Dels.nil | (apply Dels.cons; focus (repeat (first | exact Del.here | apply Del.there)))))) ?_
  intro ⟨gH, cH, rH, gM⟩ hH
  refine lstepB rfl rfl rfl (run_call1 cb67 (.cons (.tmp rfl) .nil) (fun w hS => widestK (hardL g) _ _ _ _ (some ⟨gH, 0, none⟩) _ _ cH _ w (by rw [hardL_length]; have := hg.long; omega) (hardL_in1000 hg) (spansAt_row (hS.mem (by repeat (first | exact List.Mem.head _ | apply List.Mem.tail))) hH))) ?_
  refine lstep0 rfl rfl (run_storeN (.tmp rfl) (.tmp rfl) rfl sz104 rfl (by repeat (first | exact Upd.here | apply Upd.there)) (by repeat (first | exact Put.done | apply Put.put | apply Put.skip))) ?_
  refine lnil ?_
  refine xw_then ?_
  refine cw_ret ?_
  refine xw_retC1 rfl rfl kd104 sz104 (by repeat (first | exact List.Mem.head _ | apply List.Mem.tail)) (by repeat (first | exact Sub.done | apply Sub.take | apply Sub.skip)) (fun w hS => ⟨rfl, hS.kept⟩)
set_option maxRecDepth 100000 in
set_option maxHeartbeats 4000000 in
theorem digK (g : GroundD) (pa : Option Addr) (pc : Nat) (w : World) (hm : g.pits.length ≤ 1000000) (hp : PitsAt w pa g.pits) : Gives Try.prog 23 [.agg [.int .i64 g.long, .int .i64 g.rise, .int .i64 g.change, .slice pa g.pits.length pc].toArray] w (.tuple #[.int .i64 (digS g).1, .int .i64 (digS g).2, .int .i64 (errN (hardE g []))]) := by
  refine .mk <| enter (n := 16) Try.func23 rfl rfl rfl (by repeat (first | exact Fill.nil | apply Fill.cons)) ?_
  have hG : ∀ {b : Nat} {w2 : World}, w2.heap[b]? = some (Obj.cells [.int .i64 g.long, .int .i64 g.rise, .int .i64 g.change, .slice pa g.pits.length pc].toArray 24 (0, 0)) → GroundIn w2 b g pa pc := fun h j v hj => by
    rw [Nat.zero_add]
    simp only [World.cell?, h]
    simpa using hj
  rcases hardE_cases g [] with ⟨n, hc, he⟩ | ⟨hc, ho, he⟩ | ⟨hc, ho, he⟩
  ·
    refine cw_seq ?_
    refine cw_region ?_
    refine lstep rfl rfl rfl (run_boxN (.tmp rfl)) ?_
    intro b1 _
    refine lstepB rfl rfl rfl (run_assign .const) ?_
    refine lstepB rfl rfl rfl (run_assign .const) ?_
    refine lstepB rfl rfl rfl (run_assign .const) ?_
    refine lnil ?_
    refine xw_then ?_
    refine cw_seq ?_
    refine cw_region ?_
    refine lstepB rfl rfl rfl (En.run_makeFunc .nil (.cons (.tmp rfl) .nil)) ?_
    refine lstepB rfl rfl rfl (run_call1 cb65 (.cons (.tmp rfl) .nil) (fun w hS => told65_bad cb66 (fun w2 hB => find66_check hm ((hp.kept hS.kept).kept hB) (hG ((hB.block _ (hS.lt (by repeat (first | exact List.Mem.head _ | apply List.Mem.tail)))).trans (hS.mem (by repeat (first | exact List.Mem.head _ | apply List.Mem.tail))))) hc))) ?_
    refine lstepB rfl rfl rfl (run_move (.tmp rfl)) ?_
    refine lstepB rfl rfl rfl (run_extract (.tmp rfl) rfl) ?_
    refine lstepB rfl rfl rfl (run_extract (.tmp rfl) rfl) ?_
    refine lstep rfl rfl rfl (run_alloc zr104) ?_
    intro b5 _
    refine lstep0 rfl rfl (run_storeN (.tmp rfl) (.tmp rfl) rfl sz104 rfl (by repeat (first | exact Upd.here | apply Upd.there)) (by repeat (first | exact Put.done | apply Put.put | apply Put.skip))) ?_
    refine lstepB rfl rfl rfl (run_assign (.tmp rfl)) ?_
    refine lnil ?_
    refine xw_then ?_
    refine cw_seq ?_
    refine cw_chain2 (σ := [0, 1, 2, 3, 4, 5, 6, 7]) [⟨0, [], [], [], 0⟩, ⟨0, [0], [], [], 1⟩, ⟨0, [], [], [], 0⟩, ⟨0, [0], [], [], 4⟩, ⟨0, [], [], [], 0⟩, ⟨0, [], [], [], 3⟩, ⟨0, [], [], [], 47⟩, ⟨0, [], [], [], 127⟩] [(0, _), (1, _)] (by kernel_rfl) (by kernel_rfl) rfl ?_
    refine .det (B := []) rfl rfl (.inl rfl) .nil .nil rfl (RunB.lr (run_fieldAddr (.tmp rfl) fa104_0 (by first | exact Nat.zero_add _ | exact rfl))) ?_
    refine .det (B := []) rfl rfl (.inl rfl) (.cons rfl .nil) .nil rfl (RunB.lr (run_load1 (.tmp rfl) kd3 (by repeat (first | exact List.Mem.head _ | apply List.Mem.tail)) (by exact rfl))) ?_
    refine .det (B := []) rfl rfl (.inl rfl) .nil .nil rfl (RunB.lr (run_fieldAddr (.tmp rfl) fa104_1 (by first | exact Nat.zero_add _ | exact rfl))) ?_
    refine .det (B := []) rfl rfl (.inl rfl) (.cons rfl .nil) .nil rfl (RunB.lr (run_load1 (.tmp rfl) kd3 (by repeat (first | exact List.Mem.head _ | apply List.Mem.tail)) (by exact rfl))) ?_
    refine .det (B := []) rfl rfl (.inl rfl) .nil .nil rfl (RunB.lr (run_move (.tmp rfl))) ?_
    refine .det (B := []) rfl rfl (.inl rfl) .nil .nil rfl (RunB.lr (run_assign (.tmp rfl))) ?_
    refine .det (B := []) rfl rfl (.inl rfl) .nil .nil rfl (RunB.lr (run_assign (.tmp rfl))) ?_
    refine .det (B := []) rfl rfl (.inl rfl) .nil .nil rfl (RunB.lr (run_assign (.tmp rfl))) ?_
    refine chain_nil (ts := [0, 1]) (.cons rfl (.cons rfl .nil)) (by decide) ?_
    refine xw_then ?_
    refine cw_ret ?_
    refine xw_ret3 Try.results23 rfl rfl rfl (fun w hS => ⟨?_, hS.kept⟩)
    simp [digS, he, errN]
  ·
    refine cw_seq ?_
    refine cw_region ?_
    refine lstep rfl rfl rfl (run_boxN (.tmp rfl)) ?_
    intro b1 _
    refine lstepB rfl rfl rfl (run_assign .const) ?_
    refine lstepB rfl rfl rfl (run_assign .const) ?_
    refine lstepB rfl rfl rfl (run_assign .const) ?_
    refine lnil ?_
    refine xw_then ?_
    refine cw_seq ?_
    refine cw_region ?_
    refine lstepB rfl rfl rfl (En.run_makeFunc .nil (.cons (.tmp rfl) .nil)) ?_
    refine lstepB rfl rfl rfl (run_call1 cb65 (.cons (.tmp rfl) .nil) (fun w hS => told65_bad cb66 (fun w2 hB => find66_clash hm ((hp.kept hS.kept).kept hB) (hG ((hB.block _ (hS.lt (by repeat (first | exact List.Mem.head _ | apply List.Mem.tail)))).trans (hS.mem (by repeat (first | exact List.Mem.head _ | apply List.Mem.tail))))) hc ho))) ?_
    refine lstepB rfl rfl rfl (run_move (.tmp rfl)) ?_
    refine lstepB rfl rfl rfl (run_extract (.tmp rfl) rfl) ?_
    refine lstepB rfl rfl rfl (run_extract (.tmp rfl) rfl) ?_
    refine lstep rfl rfl rfl (run_alloc zr104) ?_
    intro b5 _
    refine lstep0 rfl rfl (run_storeN (.tmp rfl) (.tmp rfl) rfl sz104 rfl (by repeat (first | exact Upd.here | apply Upd.there)) (by repeat (first | exact Put.done | apply Put.put | apply Put.skip))) ?_
    refine lstepB rfl rfl rfl (run_assign (.tmp rfl)) ?_
    refine lnil ?_
    refine xw_then ?_
    refine cw_seq ?_
    refine cw_chain2 (σ := [0, 1, 2, 3, 4, 5, 6, 7]) [⟨0, [], [], [], 0⟩, ⟨0, [0], [], [], 1⟩, ⟨0, [], [], [], 0⟩, ⟨0, [0], [], [], 4⟩, ⟨0, [], [], [], 0⟩, ⟨0, [], [], [], 3⟩, ⟨0, [], [], [], 47⟩, ⟨0, [], [], [], 127⟩] [(0, _), (1, _)] (by kernel_rfl) (by kernel_rfl) rfl ?_
    refine .det (B := []) rfl rfl (.inl rfl) .nil .nil rfl (RunB.lr (run_fieldAddr (.tmp rfl) fa104_0 (by first | exact Nat.zero_add _ | exact rfl))) ?_
    refine .det (B := []) rfl rfl (.inl rfl) (.cons rfl .nil) .nil rfl (RunB.lr (run_load1 (.tmp rfl) kd3 (by repeat (first | exact List.Mem.head _ | apply List.Mem.tail)) (by exact rfl))) ?_
    refine .det (B := []) rfl rfl (.inl rfl) .nil .nil rfl (RunB.lr (run_fieldAddr (.tmp rfl) fa104_1 (by first | exact Nat.zero_add _ | exact rfl))) ?_
    refine .det (B := []) rfl rfl (.inl rfl) (.cons rfl .nil) .nil rfl (RunB.lr (run_load1 (.tmp rfl) kd3 (by repeat (first | exact List.Mem.head _ | apply List.Mem.tail)) (by exact rfl))) ?_
    refine .det (B := []) rfl rfl (.inl rfl) .nil .nil rfl (RunB.lr (run_move (.tmp rfl))) ?_
    refine .det (B := []) rfl rfl (.inl rfl) .nil .nil rfl (RunB.lr (run_assign (.tmp rfl))) ?_
    refine .det (B := []) rfl rfl (.inl rfl) .nil .nil rfl (RunB.lr (run_assign (.tmp rfl))) ?_
    refine .det (B := []) rfl rfl (.inl rfl) .nil .nil rfl (RunB.lr (run_assign (.tmp rfl))) ?_
    refine chain_nil (ts := [0, 1]) (.cons rfl (.cons rfl .nil)) (by decide) ?_
    refine xw_then ?_
    refine cw_ret ?_
    refine xw_ret3 Try.results23 rfl rfl rfl (fun w hS => ⟨?_, hS.kept⟩)
    simp [digS, he, errN]
  ·
    refine cw_seq ?_
    refine cw_region ?_
    refine lstep rfl rfl rfl (run_boxN (.tmp rfl)) ?_
    intro b1 _
    refine lstepB rfl rfl rfl (run_assign .const) ?_
    refine lstepB rfl rfl rfl (run_assign .const) ?_
    refine lstepB rfl rfl rfl (run_assign .const) ?_
    refine lnil ?_
    refine xw_then ?_
    refine cw_seq ?_
    refine cw_region ?_
    refine lstepB rfl rfl rfl (En.run_makeFunc .nil (.cons (.tmp rfl) .nil)) ?_
    refine lstepB rfl rfl rfl (run_call1 cb65 (.cons (.tmp rfl) .nil) (fun w hS => told65_ok cb66 (fun w2 hB => find66_ok hm ((hp.kept hS.kept).kept hB) (hG ((hB.block _ (hS.lt (by repeat (first | exact List.Mem.head _ | apply List.Mem.tail)))).trans (hS.mem (by repeat (first | exact List.Mem.head _ | apply List.Mem.tail))))) hc ho))) ?_
    refine lstepB rfl rfl rfl (run_move (.tmp rfl)) ?_
    refine lstepB rfl rfl rfl (run_extract (.tmp rfl) rfl) ?_
    refine lstepB rfl rfl rfl (run_extract (.tmp rfl) rfl) ?_
    refine lstep rfl rfl rfl (run_alloc zr104) ?_
    intro b5 _
    refine lstep0 rfl rfl (run_storeN (.tmp rfl) (.tmp rfl) rfl sz104 rfl (by repeat (first | exact Upd.here | apply Upd.there)) (by repeat (first | exact Put.done | apply Put.put | apply Put.skip))) ?_
    refine lstepB rfl rfl rfl (run_assign (.tmp rfl)) ?_
    refine lnil ?_
    refine xw_then ?_
    refine cw_seq ?_
    refine cw_chain2 (σ := [0, 1, 2, 3, 4, 5, 6, 7]) [⟨0, [], [], [], 0⟩, ⟨0, [0], [], [], 1⟩, ⟨0, [], [], [], 0⟩, ⟨0, [0], [], [], 4⟩, ⟨0, [], [], [], 0⟩, ⟨0, [], [], [], 3⟩, ⟨0, [], [], [], 47⟩, ⟨0, [], [], [], 127⟩] [(0, _), (1, _)] (by kernel_rfl) (by kernel_rfl) rfl ?_
    refine .det (B := []) rfl rfl (.inl rfl) .nil .nil rfl (RunB.lr (run_fieldAddr (.tmp rfl) fa104_0 (by first | exact Nat.zero_add _ | exact rfl))) ?_
    refine .det (B := []) rfl rfl (.inl rfl) (.cons rfl .nil) .nil rfl (RunB.lr (run_load1 (.tmp rfl) kd3 (by repeat (first | exact List.Mem.head _ | apply List.Mem.tail)) (by exact rfl))) ?_
    refine .det (B := []) rfl rfl (.inl rfl) .nil .nil rfl (RunB.lr (run_fieldAddr (.tmp rfl) fa104_1 (by first | exact Nat.zero_add _ | exact rfl))) ?_
    refine .det (B := []) rfl rfl (.inl rfl) (.cons rfl .nil) .nil rfl (RunB.lr (run_load1 (.tmp rfl) kd3 (by repeat (first | exact List.Mem.head _ | apply List.Mem.tail)) (by exact rfl))) ?_
    refine .det (B := []) rfl rfl (.inl rfl) .nil .nil rfl (RunB.lr (run_move (.tmp rfl))) ?_
    refine .det (B := []) rfl rfl (.inl rfl) .nil .nil rfl (RunB.lr (run_assign (.tmp rfl))) ?_
    refine .det (B := []) rfl rfl (.inl rfl) .nil .nil rfl (RunB.lr (run_assign (.tmp rfl))) ?_
    refine .det (B := []) rfl rfl (.inl rfl) .nil .nil rfl (RunB.lr (run_assign (.tmp rfl))) ?_
    refine chain_nil (ts := [0, 1]) (.cons rfl (.cons rfl .nil)) (by decide) ?_
    refine xw_then ?_
    refine cw_ret ?_
    refine xw_ret3 Try.results23 rfl rfl rfl (fun w hS => ⟨?_, hS.kept⟩)
    simp [digS, he, errN]
end Go.Proofs.Ytfmbnobkenngaaa
