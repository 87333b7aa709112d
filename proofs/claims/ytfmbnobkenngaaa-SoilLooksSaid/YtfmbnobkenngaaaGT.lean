/- Package soil: whether there is a truth. -/
import Derived.Test.YtfmbnobkenngaaaGS
namespace Go.Proofs.Ytfmbnobkenngaaa
open Go.RowKit En

set_option maxRecDepth 100000 in
set_option maxHeartbeats 4000000 in
theorem told92_ok {F : FuncId} {cs : List Value} {w : World} {g : GroundD} {pa : Option Addr} {pc : Nat} (hF : callB Try.prog F = true) (h : ∀ w2, Below w.heap.size w w2 → CallsF Try.prog F cs.toArray w2 fun e w3 => ∃ q : Nat × Nat × Nat, e = .returned (.agg [.int .i64 g.long, .int .i64 g.rise, .int .i64 g.change, .slice pa g.pits.length pc, .slice (some ⟨q.1, 0, none⟩) (hardL g).length q.2.1, .slice (some ⟨q.2.2, 0, none⟩) (placesN g) (placesN g)].toArray) ∧ Below w2.heap.size w2 w3) : CallsF Try.prog 92 (([.func (.func F) #[] cs.toArray] : List Value)).toArray w fun e w' => ∃ q : Nat × Nat × Nat, e = .returned (.tuple #[.agg [.int .i64 g.long, .int .i64 g.rise, .int .i64 g.change, .slice pa g.pits.length pc, .slice (some ⟨q.1, 0, none⟩) (hardL g).length q.2.1, .slice (some ⟨q.2.2, 0, none⟩) (placesN g) (placesN g)].toArray, .int .i64 0]) ∧ Below w.heap.size w w' := by
  refine enter (n := 7) Try.func92 rfl rfl rfl (by repeat (first | exact Fill.nil | apply Fill.cons)) ?_
  refine cw_seq ?_
  refine cw_region ?_
  refine lstep rfl rfl rfl (run_alloc zr78) ?_
  intro b2 _
  refine lstep rfl rfl rfl (run_alloc zr29) ?_
  intro b3 _
  refine lnil ?_
  refine xw_then ?_
  refine cw_seq ?_
  refine cw_region ?_
  refine lstepB rfl rfl rfl (En.run_makeFunc .nil (.cons (.tmp rfl) .nil)) ?_
  refine ldefer (.tmp rfl) ?_
  refine lnil ?_
  refine xw_then ?_
  refine cw_seq ?_
  refine cw_region ?_
  refine lstepB rfl rfl rfl (run_move (.tmp rfl)) ?_
  refine lstep rfl rfl rfl (run_callv (F := fun _ : Nat × Nat × Nat => True) (r := fun q => .agg [.int .i64 g.long, .int .i64 g.rise, .int .i64 g.change, .slice pa g.pits.length pc, .slice (some ⟨q.1, 0, none⟩) (hardL g).length q.2.1, .slice (some ⟨q.2.2, 0, none⟩) (placesN g) (placesN g)].toArray) (H' := fun _ => _) hF (.tmp rfl) .nil rfl (fun w2 hS => (h w2 hS.kept).mono fun e w3 ⟨q, h1, hb⟩ => ⟨q, trivial, h1, hS.call hb⟩)) ?_
  intro b6 _
  refine lstep0 rfl rfl (run_storeN (.tmp rfl) (.tmp rfl) rfl sz78 rfl (by repeat (first | exact Upd.here | apply Upd.there)) (by repeat (first | exact Put.done | apply Put.put | apply Put.skip))) ?_
  refine lstep0 rfl rfl (run_store1 (.tmp rfl) .const rfl sz29 (by repeat (first | exact Upd.here | apply Upd.there)) (by repeat (first | exact Put.done | apply Put.put | apply Put.skip))) ?_
  refine lnil ?_
  refine xw_then ?_
  refine cw_ret ?_
  refine xw_retT cb106 (Idles.at (fun b w => idle106 b w) b3) (fun a w hF hS => ⟨_, resCC Try.results92 rfl rfl hF (load_own hS kd78 sz78 (by repeat (first | exact List.Mem.head _ | apply List.Mem.tail)) (by repeat (first | exact Sub.done | apply Sub.take | apply Sub.skip))) (load_own1 kd29 (hS.cell (by repeat (first | exact List.Mem.head _ | apply List.Mem.tail)) rfl)), b6, rfl, hS.kept⟩)
set_option maxRecDepth 100000 in
set_option maxHeartbeats 4000000 in
theorem told92_bad {F : FuncId} {cs : List Value} {w : World} {n : Int} (hF : callB Try.prog F = true) (h : ∀ w2, Below w.heap.size w w2 → Pans Try.prog F cs w2 [errP n]) : Gives Try.prog 92 [.func (.func F) #[] cs.toArray] w (.tuple #[.agg [.int .i64 0, .int .i64 0, .int .i64 0, .slice none 0 0, .slice none 0 0, .slice none 0 0].toArray, .int .i64 n]) := by
  refine .mk <| enter (n := 7) Try.func92 rfl rfl rfl (by repeat (first | exact Fill.nil | apply Fill.cons)) ?_
  refine cw_seq ?_
  refine cw_region ?_
  refine lstep rfl rfl rfl (run_alloc zr78) ?_
  intro b2 _
  refine lstep rfl rfl rfl (run_alloc zr29) ?_
  intro b3 _
  refine lnil ?_
  refine xw_then ?_
  refine cw_seq ?_
  refine cw_region ?_
  refine lstepB rfl rfl rfl (En.run_makeFunc .nil (.cons (.tmp rfl) .nil)) ?_
  refine ldefer (.tmp rfl) ?_
  refine lnil ?_
  refine xw_then ?_
  refine cw_seq ?_
  refine cw_region ?_
  refine lstepB rfl rfl rfl (run_move (.tmp rfl)) ?_
  refine lpansv rfl hF (.tmp rfl) .nil rfl (fun w2 hS => h w2 hS.kept) ?_
  refine xw_then_panic ?_
  refine xw_panicT cb106 (CatchesP.at (fun b w hb => catch106 b 0 n w hb) (by repeat (first | exact Upd.here | apply Upd.there))) (fun a w hF hS => ⟨_, resCC Try.results92 rfl rfl hF (load_own hS kd78 sz78 (by repeat (first | exact List.Mem.head _ | apply List.Mem.tail)) (by repeat (first | exact Sub.done | apply Sub.take | apply Sub.skip))) (load_own1 kd29 (hS.cell (by repeat (first | exact List.Mem.head _ | apply List.Mem.tail)) rfl)), rfl, hS.kept⟩)
set_option maxRecDepth 100000 in
set_option maxHeartbeats 4000000 in
theorem find93_ok {g : GroundD} {pa : Option Addr} {pc b1 : Nat} {w : World} (hg : ValidG g) (hp : PitsAt w pa g.pits) (hG : GroundIn w b1 g pa pc) (ho : lookOk g = true) : CallsF Try.prog 93 (([.pointer (some ⟨b1, 0, none⟩)] : List Value)).toArray w fun e w' => ∃ q : Nat × Nat × Nat, e = .returned (.agg [.int .i64 g.long, .int .i64 g.rise, .int .i64 g.change, .slice pa g.pits.length pc, .slice (some ⟨q.1, 0, none⟩) (hardL g).length q.2.1, .slice (some ⟨q.2.2, 0, none⟩) (placesN g) (placesN g)].toArray) ∧ Below w.heap.size w w' := by
  refine enter (n := 4) Try.func93 rfl rfl rfl (by repeat (first | exact Fill.nil | apply Fill.cons)) ?_
  refine cw_seq ?_
  refine cw_region ?_
  refine lstep rfl rfl rfl (run_alloc zr78) ?_
  intro b1 _
  refine lnil ?_
  refine xw_then ?_
  refine cw_seq ?_
  refine cw_region ?_
  refine lstepB rfl rfl rfl (run_loadN_at (l := [.int .i64 g.long, .int .i64 g.rise, .int .i64 g.change, .slice pa g.pits.length pc]) (.tmp rfl) kd24 sz24 rfl (fun w' hS j v hj => hS.old_cell (fun h => h) (hG j v hj))) ?_
  refine lstep rfl rfl rfl (LR.runs (R := []) (A := []) (lr_gives cb45 (.cons (.tmp rfl) .nil) (fun w2 hS => look_ok hg (hp.kept hS.kept) ho)) (by repeat (first | exact Pick.nil | (apply Pick.cons; focus (repeat (first | exact Del.here | apply Del.there))))) (by repeat (first | exact Dels.nil | (apply Dels.cons; focus (repeat (first | exact Del.here | apply Del.there)))))) ?_
  intro ⟨gH, cH, rH, gM⟩ hH
  refine lstep0 rfl rfl (run_storeN (.tmp rfl) (.tmp rfl) rfl sz78 rfl (by repeat (first | exact Upd.here | apply Upd.there)) (by repeat (first | exact Put.done | apply Put.put | apply Put.skip))) ?_
  refine lnil ?_
  refine xw_then ?_
  refine cw_ret ?_
  refine xw_retC1 rfl rfl kd78 sz78 (by repeat (first | exact List.Mem.head _ | apply List.Mem.tail)) (by repeat (first | exact Sub.done | apply Sub.take | apply Sub.skip)) (fun w hS => ⟨(gH, cH, gM), rfl, hS.kept⟩)
set_option maxRecDepth 100000 in
set_option maxHeartbeats 4000000 in
theorem find93_clash {g : GroundD} {pa : Option Addr} {pc b1 : Nat} {w : World} (hg : ValidG g) (hp : PitsAt w pa g.pits) (hG : GroundIn w b1 g pa pc) (ho : lookOk g = false) : Pans Try.prog 93 [.pointer (some ⟨b1, 0, none⟩)] w [errP 10] := by
  refine enter (n := 4) Try.func93 rfl rfl rfl (by repeat (first | exact Fill.nil | apply Fill.cons)) ?_
  refine cw_seq ?_
  refine cw_region ?_
  refine lstep rfl rfl rfl (run_alloc zr78) ?_
  intro b1 _
  refine lnil ?_
  refine xw_then ?_
  refine cw_seq ?_
  refine cw_region ?_
  refine lstepB rfl rfl rfl (run_loadN_at (l := [.int .i64 g.long, .int .i64 g.rise, .int .i64 g.change, .slice pa g.pits.length pc]) (.tmp rfl) kd24 sz24 rfl (fun w' hS j v hj => hS.old_cell (fun h => h) (hG j v hj))) ?_
  have hb : ∀ w2, Below w.heap.size w w2 → Pans Try.prog 45 [.agg [.int .i64 g.long, .int .i64 g.rise, .int .i64 g.change, .slice pa g.pits.length pc].toArray] w2 [errP 10] := fun w2 hB => look_bad hg (hp.kept hB) ho
  refine lpans rfl cb45 (.cons (.tmp rfl) .nil) (fun w2 hS => hb w2 hS.kept) ?_
  refine xw_then_panic ?_
  refine xw_panic (fun w hS => ⟨rfl, hS.kept⟩)
set_option maxRecDepth 100000 in
set_option maxHeartbeats 4000000 in
theorem hasTruthK (g : GroundD) (pa : Option Addr) (pc : Nat) (w : World) (hg : ValidG g) (hp : PitsAt w pa g.pits) : Gives Try.prog 69 [.agg [.int .i64 g.long, .int .i64 g.rise, .int .i64 g.change, .slice pa g.pits.length pc].toArray] w (.bool (lookOk g)) := by
  refine .mk <| enter (n := 12) Try.func69 rfl rfl rfl (by repeat (first | exact Fill.nil | apply Fill.cons)) ?_
  have hG : ∀ {b : Nat} {w2 : World}, w2.heap[b]? = some (Obj.cells [.int .i64 g.long, .int .i64 g.rise, .int .i64 g.change, .slice pa g.pits.length pc].toArray 24 (0, 0)) → GroundIn w2 b g pa pc := fun h j v hj => by
    rw [Nat.zero_add]
    simp only [World.cell?, h]
    simpa using hj
  cases ho : lookOk g
  ·
    refine cw_seq ?_
    refine cw_region ?_
    refine lstep rfl rfl rfl (run_boxN (.tmp rfl)) ?_
    intro b1 _
    refine lstepB rfl rfl rfl (run_assign .const) ?_
    refine lnil ?_
    refine xw_then ?_
    refine cw_seq ?_
    refine cw_region ?_
    refine lstepB rfl rfl rfl (En.run_makeFunc .nil (.cons (.tmp rfl) .nil)) ?_
    refine lstepB rfl rfl rfl (run_call1 cb92 (.cons (.tmp rfl) .nil) (fun w hS => told92_bad cb93 (fun w2 hB => find93_clash hg ((hp.kept hS.kept).kept hB) (hG ((hB.block _ (hS.lt (by repeat (first | exact List.Mem.head _ | apply List.Mem.tail)))).trans (hS.mem (by repeat (first | exact List.Mem.head _ | apply List.Mem.tail))))) ho))) ?_
    refine lstepB rfl rfl rfl (run_move (.tmp rfl)) ?_
    refine lstepB rfl rfl rfl (run_extract (.tmp rfl) rfl) ?_
    refine lstepB rfl rfl rfl (run_extract (.tmp rfl) rfl) ?_
    refine lstep rfl rfl rfl (run_alloc zr78) ?_
    intro b3 _
    refine lstep0 rfl rfl (run_storeN (.tmp rfl) (.tmp rfl) rfl sz78 rfl (by repeat (first | exact Upd.here | apply Upd.there)) (by repeat (first | exact Put.done | apply Put.put | apply Put.skip))) ?_
    refine lstepB rfl rfl rfl (run_assign (.tmp rfl)) ?_
    refine lnil ?_
    refine xw_then ?_
    refine cw_seq ?_
    refine cw_region ?_
    refine lstepB rfl rfl rfl (run_move (.tmp rfl)) ?_
    refine lstepB rfl rfl rfl (run_eql (.tmp rfl) .const (by first | exact decide_eq_true (by omega) | exact decide_eq_false (by omega) | exact rfl)) ?_
    refine lstepB rfl rfl rfl (run_assign (.tmp rfl)) ?_
    refine lnil ?_
    refine xw_then ?_
    refine cw_ret ?_
    refine xw_ret1 Try.results69 rfl (fun w hS => ⟨rfl, hS.kept⟩)
  ·
    refine cw_seq ?_
    refine cw_region ?_
    refine lstep rfl rfl rfl (run_boxN (.tmp rfl)) ?_
    intro b1 _
    refine lstepB rfl rfl rfl (run_assign .const) ?_
    refine lnil ?_
    refine xw_then ?_
    refine cw_seq ?_
    refine cw_region ?_
    refine lstepB rfl rfl rfl (En.run_makeFunc .nil (.cons (.tmp rfl) .nil)) ?_
    refine lstep rfl rfl rfl (run_call (F := fun _ : Nat × Nat × Nat => True) (r := fun q => .tuple #[.agg [.int .i64 g.long, .int .i64 g.rise, .int .i64 g.change, .slice pa g.pits.length pc, .slice (some ⟨q.1, 0, none⟩) (hardL g).length q.2.1, .slice (some ⟨q.2.2, 0, none⟩) (placesN g) (placesN g)].toArray, .int .i64 0]) (H' := fun _ => _) cb92 (.cons (.tmp rfl) .nil) (fun w hS => (told92_ok (g := g) (pa := pa) (pc := pc) cb93 (fun w2 hB => find93_ok hg ((hp.kept hS.kept).kept hB) (hG ((hB.block _ (hS.lt (by repeat (first | exact List.Mem.head _ | apply List.Mem.tail)))).trans (hS.mem (by repeat (first | exact List.Mem.head _ | apply List.Mem.tail))))) ho)).mono fun e w3 ⟨q, h1, hb⟩ => ⟨q, trivial, h1, hS.call hb⟩)) ?_
    intro q _
    refine lstepB rfl rfl rfl (run_move (.tmp rfl)) ?_
    refine lstepB rfl rfl rfl (run_extract (.tmp rfl) rfl) ?_
    refine lstepB rfl rfl rfl (run_extract (.tmp rfl) rfl) ?_
    refine lstep rfl rfl rfl (run_alloc zr78) ?_
    intro b3 _
    refine lstep0 rfl rfl (run_storeN (.tmp rfl) (.tmp rfl) rfl sz78 rfl (by repeat (first | exact Upd.here | apply Upd.there)) (by repeat (first | exact Put.done | apply Put.put | apply Put.skip))) ?_
    refine lstepB rfl rfl rfl (run_assign (.tmp rfl)) ?_
    refine lnil ?_
    refine xw_then ?_
    refine cw_seq ?_
    refine cw_region ?_
    refine lstepB rfl rfl rfl (run_move (.tmp rfl)) ?_
    refine lstepB rfl rfl rfl (run_eql (.tmp rfl) .const (by first | exact decide_eq_true (by omega) | exact decide_eq_false (by omega) | exact rfl)) ?_
    refine lstepB rfl rfl rfl (run_assign (.tmp rfl)) ?_
    refine lnil ?_
    refine xw_then ?_
    refine cw_ret ?_
    refine xw_ret1 Try.results69 rfl (fun w hS => ⟨rfl, hS.kept⟩)
end Go.Proofs.Ytfmbnobkenngaaa
