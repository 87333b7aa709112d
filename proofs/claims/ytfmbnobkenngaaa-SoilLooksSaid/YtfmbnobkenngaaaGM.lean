/- Package soil: look. -/
import Derived.Test.YtfmbnobkenngaaaGL
namespace Go.Proofs.Ytfmbnobkenngaaa
open Go.RowKit En

def lookOk (g : GroundD) : Bool := hardOk g && soilsOk g
theorem lr_gives {E : Env} {w0 : World} {T : Nat → Prop} {R : Heap} {d : Option Tmp} {ty : TypeId} {pos : String} {af : Array Edge} {gd : Option (Nat × Bool)} {f : FuncId} {xs : List Operand} {vs : List Value} {ts : Array TypeId} {X : Type} {F : X → Prop} {r : X → Value} {B : X → Heap} (hc : callB Try.prog f = true) (ha : Evs E xs vs)
    (h : ∀ w, St w0 T R w → CallsF Try.prog f vs.toArray w fun e w' => ∃ s, F s ∧ e = .returned (r s) ∧ St w NoT (B s) w') : LR Try.prog E w0 T R [] ⟨d, .call ⟨.value (.func f), xs.toArray, ts⟩, ty, pos, af, gd⟩ F r B :=
  lr_call hc ha fun w hS _ => (h w hS).mono fun _ _ ⟨s, h1, h2, h3⟩ => ⟨s, h1, h2, tr_new h3⟩
theorem hardness_ok {g : GroundD} {pa : Option Addr} {pc : Nat} {hs ms : Value} {w : World} (hg : ValidG g) (hp : PitsAt w pa g.pits) (ho : hardOk g = true) : CallsF Try.prog 82 (([.agg [.int .i64 g.long, .int .i64 g.rise, .int .i64 g.change, .slice pa g.pits.length pc, hs, ms].toArray] : List Value)).toArray w fun e w' => ∃ q : Nat × Nat × List Value, InRow 2 (hardL g).length q.2.1 q.2.2 (spansC (hardL g)) ∧ e = .returned (.slice (some ⟨q.1, 0, none⟩) (hardL g).length q.2.1) ∧ St w NoT [(q.1, Obj.cells q.2.2.toArray 28 (0, 0))] w' :=
  (hardnessK g pa pc hs ms w hg hp).mono fun e w' h => by
    rcases h with ⟨_, q, h1, h2, h3⟩ | ⟨h, _⟩
    · exact ⟨q, h2, h1, h3⟩
    · rw [ho] at h; cases h
theorem hardness_bad {g : GroundD} {pa : Option Addr} {pc : Nat} {hs ms : Value} {w : World} (hg : ValidG g) (hp : PitsAt w pa g.pits) (ho : hardOk g = false) : Pans Try.prog 82 [.agg [.int .i64 g.long, .int .i64 g.rise, .int .i64 g.change, .slice pa g.pits.length pc, hs, ms].toArray] w [errP 10] :=
  (hardnessK g pa pc hs ms w hg hp).mono fun e w' h => by
    rcases h with ⟨h, _⟩ | ⟨_, h1, h2⟩
    · rw [ho] at h; cases h
    · exact ⟨h1, h2⟩
theorem soils_ok {g : GroundD} {pa : Option Addr} {pc : Nat} {hs ms : Value} {w : World} (hg : ValidG g) (hp : PitsAt w pa g.pits) (ho : soilsOk g = true) : CallsF Try.prog 83 (([.agg [.int .i64 g.long, .int .i64 g.rise, .int .i64 g.change, .slice pa g.pits.length pc, hs, ms].toArray] : List Value)).toArray w fun e w' => ∃ b : Nat, True ∧ e = .returned (.slice (some ⟨b, 0, none⟩) (placesN g) (placesN g)) ∧ St w NoT [(b, Obj.cells (mixesC (soilsL g)).toArray 85 (0, 0))] w' :=
  (soilsK g pa pc hs ms w hg hp).mono fun e w' h => by
    rcases h with ⟨_, q, h1, h3⟩ | ⟨h, _⟩
    · exact ⟨q, trivial, h1, h3⟩
    · rw [ho] at h; cases h
theorem soils_bad {g : GroundD} {pa : Option Addr} {pc : Nat} {hs ms : Value} {w : World} (hg : ValidG g) (hp : PitsAt w pa g.pits) (ho : soilsOk g = false) : Pans Try.prog 83 [.agg [.int .i64 g.long, .int .i64 g.rise, .int .i64 g.change, .slice pa g.pits.length pc, hs, ms].toArray] w [errP 10] :=
  (soilsK g pa pc hs ms w hg hp).mono fun e w' h => by
    rcases h with ⟨h, _⟩ | ⟨_, h1, h2⟩
    · rw [ho] at h; cases h
    · exact ⟨h1, h2⟩
set_option maxRecDepth 100000 in
set_option maxHeartbeats 4000000 in
theorem lookK (g : GroundD) (pa : Option Addr) (pc : Nat) (w : World) (hg : ValidG g) (hp : PitsAt w pa g.pits) : CallsF Try.prog 45 (([.agg [.int .i64 g.long, .int .i64 g.rise, .int .i64 g.change, .slice pa g.pits.length pc].toArray] : List Value)).toArray w fun e w' => (lookOk g = true ∧ ∃ q : Nat × Nat × List Value × Nat, e = .returned (.agg [.int .i64 g.long, .int .i64 g.rise, .int .i64 g.change, .slice pa g.pits.length pc, .slice (some ⟨q.1, 0, none⟩) (hardL g).length q.2.1, .slice (some ⟨q.2.2.2, 0, none⟩) (placesN g) (placesN g)].toArray) ∧ InRow 2 (hardL g).length q.2.1 q.2.2.1 (spansC (hardL g)) ∧ St w NoT [(q.1, Obj.cells q.2.2.1.toArray 28 (0, 0)), (q.2.2.2, Obj.cells (mixesC (soilsL g)).toArray 85 (0, 0))] w') ∨ (lookOk g = false ∧ e = .panicked [errP 10] ∧ Below w.heap.size w w') := by
  refine enter (n := 13) Try.func45 rfl rfl rfl (by repeat (first | exact Fill.nil | apply Fill.cons)) ?_
  cases ho : hardOk g
  ·
    refine cw_seq ?_
    refine cw_region ?_
    refine lstep rfl rfl rfl (run_boxN (.tmp rfl)) ?_
    intro b1 _
    refine lstep rfl rfl rfl (run_alloc zr78) ?_
    intro b2 _
    refine lnil ?_
    refine xw_then ?_
    refine cw_seq ?_
    refine cw_region ?_
    refine lstepB rfl rfl rfl (run_loadN (.tmp rfl) kd24 sz24 (by repeat (first | exact List.Mem.head _ | apply List.Mem.tail)) (by repeat (first | exact Sub.done | apply Sub.take | apply Sub.skip))) ?_
    refine lstepB rfl rfl rfl (run_build_at (.cons (.tmp rfl) .nil) (fun w => bd78_0 w)) ?_
    refine lstep rfl rfl rfl (run_alloc zr78) ?_
    intro b3 _
    refine lstep0 rfl rfl (run_storeN (.tmp rfl) (.tmp rfl) rfl sz78 rfl (by repeat (first | exact Upd.here | apply Upd.there)) (by repeat (first | exact Put.done | apply Put.put | apply Put.skip))) ?_
    refine lnil ?_
    refine xw_then ?_
    refine cw_seq ?_
    refine cw_region ?_
    refine lstepB rfl rfl rfl (run_loadN (.tmp rfl) kd78 sz78 (by repeat (first | exact List.Mem.head _ | apply List.Mem.tail)) (by repeat (first | exact Sub.done | apply Sub.take | apply Sub.skip))) ?_
    refine lpans rfl cb82 (.cons (.tmp rfl) .nil) (fun w2 hS => hardness_bad hg (hp.kept hS.kept) ho) ?_
    refine xw_then_panic ?_
    refine xw_panic (fun w hS => .inr ⟨by rw [lookOk, ho]; rfl, rfl, hS.kept⟩)
  ·
    refine cw_seq ?_
    refine cw_region ?_
    refine lstep rfl rfl rfl (run_boxN (.tmp rfl)) ?_
    intro b1 _
    refine lstep rfl rfl rfl (run_alloc zr78) ?_
    intro b2 _
    refine lnil ?_
    refine xw_then ?_
    refine cw_seq ?_
    refine cw_region ?_
    refine lstepB rfl rfl rfl (run_loadN (.tmp rfl) kd24 sz24 (by repeat (first | exact List.Mem.head _ | apply List.Mem.tail)) (by repeat (first | exact Sub.done | apply Sub.take | apply Sub.skip))) ?_
    refine lstepB rfl rfl rfl (run_build_at (.cons (.tmp rfl) .nil) (fun w => bd78_0 w)) ?_
    refine lstep rfl rfl rfl (run_alloc zr78) ?_
    intro b3 _
    refine lstep0 rfl rfl (run_storeN (.tmp rfl) (.tmp rfl) rfl sz78 rfl (by repeat (first | exact Upd.here | apply Upd.there)) (by repeat (first | exact Put.done | apply Put.put | apply Put.skip))) ?_
    refine lnil ?_
    refine xw_then ?_
    refine cw_seq ?_
    refine cw_region ?_
    refine lstepB rfl rfl rfl (run_loadN (.tmp rfl) kd78 sz78 (by repeat (first | exact List.Mem.head _ | apply List.Mem.tail)) (by repeat (first | exact Sub.done | apply Sub.take | apply Sub.skip))) ?_
    refine lstep rfl rfl rfl (LR.runs (R := []) (A := []) (lr_gives cb82 (.cons (.tmp rfl) .nil) (fun w2 hS => hardness_ok hg (hp.kept hS.kept) ho)) (by repeat (first | exact Pick.nil | (apply Pick.cons; focus (repeat (first | exact Del.here | apply Del.there))))) (by repeat (first | exact Dels.nil | (apply Dels.cons; focus (repeat (first | exact Del.here | apply Del.there)))))) ?_
    intro ⟨gH, cH, rH⟩ hH
    cases ho2 : soilsOk g
    ·
      refine lstepB rfl rfl rfl (run_fieldAddr (.tmp rfl) fa78_1 (by first | exact Nat.zero_add _ | exact rfl)) ?_
      refine lstep0 rfl rfl (run_store1 (.tmp rfl) (.tmp rfl) rfl sz58 (by repeat (first | exact Upd.here | apply Upd.there)) (by repeat (first | exact Put.done | apply Put.put | apply Put.skip))) ?_
      refine lnil ?_
      refine xw_then ?_
      refine cw_seq ?_
      refine cw_region ?_
      refine lstepB rfl rfl rfl (run_loadN (.tmp rfl) kd78 sz78 (by repeat (first | exact List.Mem.head _ | apply List.Mem.tail)) (by repeat (first | exact Sub.done | apply Sub.take | apply Sub.skip))) ?_
      refine lpans rfl cb83 (.cons (.tmp rfl) .nil) (fun w2 hS => soils_bad hg (hp.kept hS.kept) ho2) ?_
      refine xw_then_panic ?_
      refine xw_panic (fun w hS => .inr ⟨by rw [lookOk, ho2, Bool.and_false], rfl, hS.kept⟩)
    ·
      refine lstepB rfl rfl rfl (run_fieldAddr (.tmp rfl) fa78_1 (by first | exact Nat.zero_add _ | exact rfl)) ?_
      refine lstep0 rfl rfl (run_store1 (.tmp rfl) (.tmp rfl) rfl sz58 (by repeat (first | exact Upd.here | apply Upd.there)) (by repeat (first | exact Put.done | apply Put.put | apply Put.skip))) ?_
      refine lnil ?_
      refine xw_then ?_
      refine cw_seq ?_
      refine cw_region ?_
      refine lstepB rfl rfl rfl (run_loadN (.tmp rfl) kd78 sz78 (by repeat (first | exact List.Mem.head _ | apply List.Mem.tail)) (by repeat (first | exact Sub.done | apply Sub.take | apply Sub.skip))) ?_
      refine lstep rfl rfl rfl (LR.runs (R := []) (A := []) (lr_gives cb83 (.cons (.tmp rfl) .nil) (fun w2 hS => soils_ok hg (hp.kept hS.kept) ho2)) (by repeat (first | exact Pick.nil | (apply Pick.cons; focus (repeat (first | exact Del.here | apply Del.there))))) (by repeat (first | exact Dels.nil | (apply Dels.cons; focus (repeat (first | exact Del.here | apply Del.there)))))) ?_
      intro gM _
      refine lstepB rfl rfl rfl (run_fieldAddr (.tmp rfl) fa78_2 (by first | exact Nat.zero_add _ | exact rfl)) ?_
      refine lstep0 rfl rfl (run_store1 (.tmp rfl) (.tmp rfl) rfl sz76 (by repeat (first | exact Upd.here | apply Upd.there)) (by repeat (first | exact Put.done | apply Put.put | apply Put.skip))) ?_
      refine lnil ?_
      refine xw_then ?_
      refine cw_seq ?_
      refine cw_region ?_
      refine lstepB rfl rfl rfl (run_loadN (.tmp rfl) kd78 sz78 (by repeat (first | exact List.Mem.head _ | apply List.Mem.tail)) (by repeat (first | exact Sub.done | apply Sub.take | apply Sub.skip))) ?_
      refine lstep0 rfl rfl (run_storeN (.tmp rfl) (.tmp rfl) rfl sz78 rfl (by repeat (first | exact Upd.here | apply Upd.there)) (by repeat (first | exact Put.done | apply Put.put | apply Put.skip))) ?_
      refine lnil ?_
      refine xw_then ?_
      refine cw_ret ?_
      refine xw_retC1 rfl rfl kd78 sz78 (by repeat (first | exact List.Mem.head _ | apply List.Mem.tail)) (by repeat (first | exact Sub.done | apply Sub.take | apply Sub.skip)) (fun w hS => .inl ⟨by rw [lookOk, ho, ho2]; rfl, (gH, cH, rH, gM), rfl, hH, hS.pick (by repeat (first | exact Pick.nil | (apply Pick.cons; focus (repeat (first | exact Del.here | apply Del.there)))))⟩)
end Go.Proofs.Ytfmbnobkenngaaa
