/- Package soil: soils. -/
import Derived.Test.YtfmbnobkenngaaaGK
namespace Go.Proofs.Ytfmbnobkenngaaa
open Go.RowKit En

theorem tr_new {w w' : World} {B : Heap} (h : St w NoT B w') : Tr w w' [] B := ⟨h.os, h.tape, h.output, h.size, fun k hk _ => h.old k hk (fun h => h), fun x hx => (h.own x hx).1, fun x hx => .inr ((h.own x hx).2.resolve_right (fun h => h)), h.apart⟩
set_option maxRecDepth 100000 in
set_option maxHeartbeats 4000000 in
theorem soilsK (g : GroundD) (pa : Option Addr) (pc : Nat) (hs ms : Value) (w : World) (hg : ValidG g) (hp : PitsAt w pa g.pits) : CallsF Try.prog 83 (([.agg [.int .i64 g.long, .int .i64 g.rise, .int .i64 g.change, .slice pa g.pits.length pc, hs, ms].toArray] : List Value)).toArray w fun e w' => (soilsOk g = true ∧ ∃ b, e = .returned (.slice (some ⟨b, 0, none⟩) (placesN g) (placesN g)) ∧ St w NoT [(b, Obj.cells (mixesC (soilsL g)).toArray 85 (0, 0))] w') ∨ (soilsOk g = false ∧ e = .panicked [errP 10] ∧ Below w.heap.size w w') := by
  have hlen := hg.len
  have hlong := hg.long
  have hpl : placesN g ≤ 41 := by unfold placesN; omega
  refine enter (n := 47) Try.func83 rfl rfl rfl (by repeat (first | exact Fill.nil | apply Fill.cons)) ?_
  refine cw_seq ?_
  refine cw_region ?_
  refine lstep rfl rfl rfl (run_boxN (.tmp rfl)) ?_
  intro b1 _
  refine lstepB rfl rfl rfl (run_assign .const) ?_
  refine lnil ?_
  refine xw_then ?_
  refine cw_seq ?_
  refine cw_region ?_
  refine lstepB rfl rfl rfl (run_loadN (.tmp rfl) kd78 sz78 (by repeat (first | exact List.Mem.head _ | apply List.Mem.tail)) (by repeat (first | exact Sub.done | apply Sub.take | apply Sub.skip))) ?_
  refine lstep rfl rfl rfl (LR.runs (R := []) (A := []) (lr_call cb97 (.cons (.tmp rfl) .nil) (fun w2 hS _ => (dugK g pa pc hs ms w2 hg (hp.kept hS.kept)).mono fun e w' ⟨b, h1, h2⟩ => ⟨b, trivial, h1, tr_new h2⟩)) (by repeat (first | exact Pick.nil | (apply Pick.cons; focus (repeat (first | exact Del.here | apply Del.there))))) (by repeat (first | exact Dels.nil | (apply Dels.cons; focus (repeat (first | exact Del.here | apply Del.there)))))) ?_
  intro gM _
  refine lstep rfl rfl rfl (run_alloc zr76) ?_
  intro b3 _
  refine lstep0 rfl rfl (run_store1 (.tmp rfl) (.tmp rfl) rfl sz76 (by repeat (first | exact Upd.here | apply Upd.there)) (by repeat (first | exact Put.done | apply Put.put | apply Put.skip))) ?_
  refine lnil ?_
  refine xw_then ?_
  refine cw_seq ?_
  refine cw_seq ?_
  refine cw_region ?_
  refine lstepB rfl rfl rfl (run_build_at (.cons .const (.cons .const .nil)) (fun w => bd137_0_1 w)) ?_
  refine lstepB rfl rfl rfl (run_move .const) ?_
  refine lnil ?_
  refine xw_then ?_
  refine cw_block ?_
  refine cw_loopD (S := Nat × Nat × Nat) (fun s => match s.1 with | 0 => [] | 1 => [mark1 s.2.1] | _ => [mark1 s.2.2, mark1 s.2.1]) (fun s => [(11, .int .i64 (s.1 : Int))]) [(1, _), (3, _), (10, _)]
    (fun s => match s.1 with | 0 => [(gM, Obj.cells (mixesC (dugL g)).toArray 85 (0, 0)), (b3, Obj.cells [.slice (some ⟨gM, 0, none⟩) (placesN g) (placesN g)].toArray 76 (0, 0)), (b1, Obj.cells [.int .i64 g.long, .int .i64 g.rise, .int .i64 g.change, .slice pa g.pits.length pc, hs, ms].toArray 78 (0, 0))] | 1 => [(gM, Obj.cells (mixesC (wayL g false (dugL g))).toArray 85 (0, 0)), (b3, Obj.cells [.slice (some ⟨gM, 0, none⟩) (placesN g) (placesN g)].toArray 76 (0, 0)), (b1, Obj.cells [.int .i64 g.long, .int .i64 g.rise, .int .i64 g.change, .slice pa g.pits.length pc, hs, ms].toArray 78 (0, 0))] ++ [(s.2.1, dfr)] | _ => [(gM, Obj.cells (mixesC (soilsL g)).toArray 85 (0, 0)), (b3, Obj.cells [.slice (some ⟨gM, 0, none⟩) (placesN g) (placesN g)].toArray 76 (0, 0)), (b1, Obj.cells [.int .i64 g.long, .int .i64 g.rise, .int .i64 g.change, .slice pa g.pits.length pc, hs, ms].toArray 78 (0, 0))] ++ [(s.2.2, dfr), (s.2.1, dfr)])
    (fun s => s.1 ≤ 2 ∧ (1 ≤ s.1 → wayOk g false (dugL g) = true) ∧ (2 ≤ s.1 → wayOk g true (wayL g false (dugL g)) = true)) (fun s => 2 - s.1) (0, 0, 0) ⟨by show 0 ≤ 2; omega, fun h => absurd h (by show ¬ 1 ≤ 0; omega), fun h => absurd h (by show ¬ 2 ≤ 0; omega)⟩ (by repeat (first | exact Less.nil | refine Less.cons rfl ?_)) (by repeat (first | exact Pick.nil | (apply Pick.cons; focus (repeat (first | exact Del.here | apply Del.there))))) ?_
  intro s hs
  obtain ⟨k, D1, D2⟩ := s
  obtain ⟨hk2, o1, o2⟩ := hs
  dsimp only at hk2 o1 o2 ⊢
  match k, hk2, o1, o2 with
  | 0, hk2, o1, o2 =>
    have hin : ∀ m ∈ (dugL g), In20M m := dugL_in20 hg
    have hll : ((dugL g)).length = placesN g := dugF_length _ _
    refine cw_seq ?_
    refine cw_region ?_
    refine lstepB rfl rfl rfl (run_lss (.tmp rfl) .const (by first | exact decide_eq_true (by omega) | exact decide_eq_false (by omega) | exact rfl)) ?_
    refine lnil ?_
    refine xw_then ?_
    refine cw_seq ?_
    refine cw_cond_true (.tmp rfl) ?_
    refine cw_skip ?_
    refine xw_then ?_
    refine cw_seq ?_
    refine cw_block ?_
    refine cw_seq ?_
    refine cw_region ?_
    refine lstepB rfl rfl rfl (run_index1 (i := 0) (v := .bool false) (.tmp rfl) (.tmp rfl) at137 kd4 sz4 (by omega) rfl) ?_
    refine lstepB rfl rfl rfl (run_assign (.tmp rfl)) ?_
    refine lnil ?_
    refine xw_then ?_
    refine cw_seq ?_
    refine cw_region ?_
    refine lstepB rfl rfl rfl (run_call1 cb98 .nil (fun w _ => anySoilK w)) ?_
    refine lstepB rfl rfl rfl (En.run_makeFunc (.cons (.tmp rfl) .nil) .nil) ?_
    refine lstep rfl rfl rfl (run_alloc zr138) ?_
    intro b6 _
    refine lstep0 rfl rfl (run_store1 (.tmp rfl) (.tmp rfl) rfl sz138 (by repeat (first | exact Upd.here | apply Upd.there)) (by repeat (first | exact Put.done | apply Put.put | apply Put.skip))) ?_
    refine lnil ?_
    refine xw_then ?_
    refine cw_seq ?_
    refine cw_region ?_
    refine lstepB rfl rfl rfl (run_loadN (.tmp rfl) kd78 sz78 (by repeat (first | exact List.Mem.head _ | apply List.Mem.tail)) (by repeat (first | exact Sub.done | apply Sub.take | apply Sub.skip))) ?_
    refine lstepB rfl rfl rfl (run_move (.tmp rfl)) ?_
    refine lcallN rfl cb90 (.cons (.tmp rfl) (.cons (.tmp rfl) .nil)) (F := fun (s : Nat × Nat) lo w' => lo ≤ s.1 ∧ lo ≤ s.2 ∧ w'.cell? ⟨s.1, 0, none⟩ = some (.int .i64 g.long) ∧ w'.cell? ⟨s.2, 0, none⟩ = some (.bool false)) (fun w _ => alongK g.long false _ _ _ _ _ w) ?_
    rintro ⟨z1, z2⟩ lo w1 ⟨a1, a2, c1, c2⟩ hlo hsz hsz2 h1
    dsimp only at a1 a2 c1 c2 ⊢
    have l1 : z1 < w1.heap.size := World.block_lt_of_cell? w1 _ c1
    have l2 : z2 < w1.heap.size := World.block_lt_of_cell? w1 _ c2
    refine lnil ?_
    refine xw_then ?_
    refine cw_block ?_
    refine cw_range (f := 105) (xs := alongL g.long false) (Cap := fun c => c = z1 ∨ c = z2) (S := Nat) (fun s => [(gM, Obj.cells (mixesC (wayF g false (dugL g) s).1).toArray 85 (0, 0)), (b6, Obj.cells [.func (.func 99) [.agg (mixC (wayF g false (dugL g) s).2).toArray].toArray #[]].toArray 138 (0, 0)), (b3, Obj.cells [.slice (some ⟨gM, 0, none⟩) (placesN g) (placesN g)].toArray 76 (0, 0)), (b1, Obj.cells [.int .i64 g.long, .int .i64 g.rise, .int .i64 g.change, .slice pa g.pits.length pc, hs, ms].toArray 78 (0, 0))])
      (fun k s => k = s ∧ ∀ j, j < k → midM g false (dugL g) j ≠ noMix) 0
      cb105 (.tmp rfl) rfl (fun w hS => along1_iter g.long false z1 z2 w (by omega) (hS.old_cell (fun h => absurd (hlo _ h) (by omega)) c1) (hS.old_cell (fun h => absurd (hlo _ h) (by omega)) c2))
      (fun c hc => by rcases hc with rfl | rfl; exact ⟨l1, fun h => absurd (hlo _ h) (by omega)⟩; exact ⟨l2, fun h => absurd (hlo _ h) (by omega)⟩) ⟨rfl, fun j h => absurd h (Nat.not_lt_zero j)⟩ (by repeat (first | exact Pick.nil | (apply Pick.cons; focus (repeat (first | exact Del.here | apply Del.there))))) ?_ ?_
    ·
      intro L D fn tm k s x w2 hx hF h2
      have hk : k < placesN g := by have := (List.getElem?_eq_some_iff.1 hx).1; rwa [alongL_length] at this
      rw [alongL_idx hk] at hx
      cases hx
      obtain ⟨rfl, hbef⟩ := hF
      have hil := idxN_lt (back := false) hk
      have hwl : (wayF g false (dugL g) k).1.length = placesN g := (wayF_length _ _ _ _).trans hll
      have hm20 := midM_in20 (g := g) (back := false) hin k
      have hsm := wayF_sm (back := false) hin hg.change k
      have hch := hg.change
      refine cw_region ?_
      refine lstepB rfl rfl rfl (run_assign (.tmp rfl)) ?_
      refine lnil ?_
      refine xw_begin rfl ?_
      refine cw_block ?_
      refine cw_seq ?_
      refine cw_chain2 (σ := [0, 1, 2, 3, 4, 5, 6, 7, 8, 9]) [⟨0, [4], [], [], 0⟩, ⟨0, [], [], [], 0⟩, ⟨0, [3], [], [], 0⟩, ⟨0, [4], [], [], 0⟩, ⟨0, [], [], [], 0⟩, ⟨0, [], [], [], 24⟩, ⟨0, [2], [], [], 56⟩, ⟨0, [], [], [], 124⟩, ⟨0, [], [], [], 255⟩, ⟨0, [], [2], [2], 511⟩] [(0, _), (1, _), (2, _), (3, _), (4, _), (5, _)] (by kernel_rfl) (by kernel_rfl) rfl ?_
      refine .det (B := []) rfl rfl (.inl rfl) (.cons rfl .nil) .nil rfl (RunB.lr (run_load1 (.tmp rfl) kd76 (by repeat (first | exact List.Mem.head _ | apply List.Mem.tail)) (by exact rfl))) ?_
      refine .det (B := []) rfl rfl (.inl rfl) .nil .nil rfl (RunB.lr (run_move (.tmp rfl))) ?_
      refine .det (B := []) rfl rfl (.inl rfl) (.cons rfl .nil) .nil rfl (RunB.lr (run_load1 (.tmp rfl) kd138 (by repeat (first | exact List.Mem.head _ | apply List.Mem.tail)) (by exact rfl))) ?_
      refine .det (B := []) rfl rfl (.inl rfl) (.cons rfl .nil) .nil rfl (RunB.lr (run_load1 (.tmp rfl) kd76 (by repeat (first | exact List.Mem.head _ | apply List.Mem.tail)) (by exact rfl))) ?_
      refine .det (B := []) rfl rfl (.inl rfl) .nil .nil rfl (RunB.lr (run_move (.tmp rfl))) ?_
      refine .det (B := []) rfl rfl (.inl rfl) .nil .nil rfl (RunB.lr (run_indexAddr (i := (idxN g false k)) (off' := (idxN g false k) * 6) (.tmp rfl) (.tmp rfl) el76 (by omega) (Nat.zero_add _))) ?_
      refine .det (B := []) rfl rfl (.inl rfl) (.cons rfl .nil) .nil rfl (RunB.lr (run_loadN (l := mixC ((wayF g false (dugL g) k).1.getD (idxN g false k) noMix)) (.tmp rfl) kd85 sz85 (by repeat (first | exact List.Mem.head _ | apply List.Mem.tail)) (sub_getD (by omega)))) ?_
      refine .det (B := []) rfl rfl (.inl rfl) .nil .nil rfl (RunB.lr (run_callm1 cb99 (.tmp rfl) (.cons (.tmp rfl) .nil) rfl (fun w _ => bothK _ _ hsm (getD_in20 (wayF_in20 hin k) _).sm w))) ?_
      refine .det (B := []) rfl rfl (.inl rfl) .nil .nil rfl (RunB.lr (run_indexAddr (i := (idxN g false k)) (off' := (idxN g false k) * 6) (.tmp rfl) (.tmp rfl) el76 (by omega) (Nat.zero_add _))) ?_
      refine .det (B := [(2, (_, _))]) rfl rfl (.inl rfl) .nil (.cons rfl .nil) rfl (lr_storeN (l := mixC (midM g false (dugL g) k)) (cs' := mixesC ((wayF g false (dugL g) k).1.set (idxN g false k) (midM g false (dugL g) k))) (.tmp rfl) (.tmp rfl) rfl sz85 rfl (put_mix _ _ _ (by omega))) ?_
      refine chain_nil (ts := [0, 1, 2, 3, 4, 5]) (.cons rfl (.cons rfl (.cons rfl (.cons rfl (.cons rfl (.cons rfl .nil)))))) (by decide) ?_
      refine xw_then ?_
      refine cw_seq ?_
      refine cw_seq ?_
      refine cw_region ?_
      refine lstepB rfl rfl rfl (run_load1 (.tmp rfl) kd76 (by repeat (first | exact List.Mem.head _ | apply List.Mem.tail)) (by exact rfl)) ?_
      refine lstepB rfl rfl rfl (run_move (.tmp rfl)) ?_
      refine lstepB rfl rfl rfl (run_indexAddr (i := (idxN g false k)) (off' := (idxN g false k) * 6) (.tmp rfl) (.tmp rfl) el76 (by omega) (Nat.zero_add _)) ?_
      refine lstepB rfl rfl rfl (run_loadN (l := mixC (midM g false (dugL g) k)) (.tmp rfl) kd85 sz85 (by repeat (first | exact List.Mem.head _ | apply List.Mem.tail)) (sub_set (by omega))) ?_
      refine lstepB rfl rfl rfl (run_build_at .nil (fun w => bd85_ w)) ?_
      refine lstepB rfl rfl rfl (run_eql_agg (.tmp rfl) (.tmp rfl) eg85 (eql85 (eqz (midM g false (dugL g) k)))) ?_
      refine lnil ?_
      refine xw_then ?_
      refine cw_cond_p (.tmp rfl) (fun hc => ?_) (fun hc => ?_)
      ·
        refine cw_region ?_
        refine lstepB rfl rfl rfl (En.run_makeInterface .const if29) ?_
        refine lpanic (.tmp rfl) (fun w => rfl) ?_
        refine xw_then_panic ?_
        refine xw_in_panic ?_
        refine xw_rpanic (H' := []) (by repeat (first | exact Pick.nil | (apply Pick.cons; focus (repeat (first | exact Del.here | apply Del.there))))) ?_
        refine xw_in_panic ?_
        refine xw_in_panic ?_
        refine xw_then_panic ?_
        refine xw_then_panic ?_
        refine xw_in_panic ?_
        refine xw_then_panic ?_
        refine xw_panicDs (Ds := [D]) (fun w hS => .inr ⟨by rw [soilsOk, wayOk_no hk hc]; rfl, rfl, (h1.join0 hS).kept⟩)
      ·
        refine cw_skip ?_
        refine xw_then ?_
        refine cw_chain2 (σ := [0, 1, 2, 3, 4, 5, 6, 7, 8, 9]) [⟨0, [4], [], [], 0⟩, ⟨0, [], [], [], 0⟩, ⟨0, [], [], [], 3⟩, ⟨0, [2], [], [], 7⟩, ⟨0, [], [], [], 0⟩, ⟨0, [], [], [], 16⟩, ⟨0, [5], [], [], 48⟩, ⟨0, [], [], [], 127⟩, ⟨0, [], [], [], 255⟩, ⟨0, [], [3], [3], 511⟩] [(0, _), (1, _), (2, _), (3, _), (4, _), (5, _)] (by kernel_rfl) (by kernel_rfl) rfl ?_
        refine .det (B := []) rfl rfl (.inl rfl) (.cons rfl .nil) .nil rfl (RunB.lr (run_load1 (.tmp rfl) kd76 (by repeat (first | exact List.Mem.head _ | apply List.Mem.tail)) (by exact rfl))) ?_
        refine .det (B := []) rfl rfl (.inl rfl) .nil .nil rfl (RunB.lr (run_move (.tmp rfl))) ?_
        refine .det (B := []) rfl rfl (.inl rfl) .nil .nil rfl (RunB.lr (run_indexAddr (i := (idxN g false k)) (off' := (idxN g false k) * 6) (.tmp rfl) (.tmp rfl) el76 (by omega) (Nat.zero_add _))) ?_
        refine .det (B := []) rfl rfl (.inl rfl) (.cons rfl .nil) .nil rfl (RunB.lr (run_loadN (l := mixC (midM g false (dugL g) k)) (.tmp rfl) kd85 sz85 (by repeat (first | exact List.Mem.head _ | apply List.Mem.tail)) (sub_set (by omega)))) ?_
        refine .det (B := []) rfl rfl (.inl rfl) .nil .nil rfl (RunB.lr (run_fieldAddr (.tmp rfl) fa78_0 (by first | exact Nat.zero_add _ | exact rfl))) ?_
        refine .det (B := []) rfl rfl (.inl rfl) .nil .nil rfl (RunB.lr (run_fieldAddr (.tmp rfl) fa24_2 (by first | exact Nat.zero_add _ | exact rfl))) ?_
        refine .det (B := []) rfl rfl (.inl rfl) (.cons rfl .nil) .nil rfl (RunB.lr (run_load1 (.tmp rfl) kd3 (by repeat (first | exact List.Mem.head _ | apply List.Mem.tail)) (by exact rfl))) ?_
        refine .det (B := []) rfl rfl (.inl rfl) .nil .nil rfl (RunB.lr (run_call1 cb100 (.cons (.tmp rfl) (.cons (.tmp rfl) .nil)) (fun w _ => changedK (midM g false (dugL g) k) g.change hm20.sm ⟨by omega, by omega⟩ w))) ?_
        refine .det (B := []) rfl rfl (.inl rfl) .nil .nil rfl (RunB.lr (En.run_makeFunc (.cons (.tmp rfl) .nil) .nil)) ?_
        refine .det (B := [(3, (_, _))]) rfl rfl (.inl rfl) .nil (.cons rfl .nil) rfl (lr_store1 (.tmp rfl) (.tmp rfl) rfl sz138 (by repeat (first | exact Put.done | apply Put.put | apply Put.skip))) ?_
        refine chain_nil (ts := [0, 1, 2, 3, 4, 5]) (.cons rfl (.cons rfl (.cons rfl (.cons rfl (.cons rfl (.cons rfl .nil)))))) (by decide) ?_
        refine xw_in ?_
        exact xw_rnext (k + 1) ⟨rfl, fun j hj => by rcases Nat.lt_succ_iff_lt_or_eq.1 hj with h | rfl; exact hbef j h; exact hc⟩ (by repeat (first | exact Pick.nil | (apply Pick.cons; focus (repeat (first | exact Del.here | apply Del.there)))))
    ·
      intro D s hF
      obtain ⟨rfl, hbef⟩ := hF
      rw [alongL_length]
      have hok : wayOk g false (dugL g) = true := wayOk_of (fun j hj => hbef j (by rw [alongL_length]; exact hj))
      refine xw_in ?_
      refine xw_in ?_
      refine xw_then ?_
      refine cw_region ?_
      refine lstepB rfl rfl rfl (run_add (.tmp rfl) .const (by first | exact IntWalk.i64_in _ (by omega) | exact rfl)) ?_
      refine lstepB rfl rfl rfl (run_move (.tmp rfl)) ?_
      refine lnil ?_
      refine xw_back0 h1 ?_
      exact (xw_roundD (Di := fun (s : Nat × Nat × Nat) => match s.1 with | 0 => [] | 1 => [mark1 s.2.1] | _ => [mark1 s.2.2, mark1 s.2.1]) (1, D, 0) ⟨by show 1 ≤ 2; omega, fun _ => hok, fun h => absurd h (by show ¬ 2 ≤ 1; omega)⟩ (by show 2 - 1 < 2 - 0; omega) (by repeat (first | exact Less.nil | refine Less.cons rfl ?_)) (by repeat (first | exact Pick.nil | (apply Pick.cons; focus (repeat (first | exact Del.here | apply Del.there))))))
  | 1, hk2, o1, o2 =>
    have hin : ∀ m ∈ (wayL g false (dugL g)), In20M m := wayF_in20 (dugL_in20 hg) _
    have hll : ((wayL g false (dugL g))).length = placesN g := (wayL_length _ _ _).trans (dugF_length _ _)
    refine cw_seq ?_
    refine cw_region ?_
    refine lstepB rfl rfl rfl (run_lss (.tmp rfl) .const (by first | exact decide_eq_true (by omega) | exact decide_eq_false (by omega) | exact rfl)) ?_
    refine lnil ?_
    refine xw_then ?_
    refine cw_seq ?_
    refine cw_cond_true (.tmp rfl) ?_
    refine cw_skip ?_
    refine xw_then ?_
    refine cw_seq ?_
    refine cw_block ?_
    refine cw_seq ?_
    refine cw_region ?_
    refine lstepB rfl rfl rfl (run_index1 (i := 1) (v := .bool true) (.tmp rfl) (.tmp rfl) at137 kd4 sz4 (by omega) rfl) ?_
    refine lstepB rfl rfl rfl (run_assign (.tmp rfl)) ?_
    refine lnil ?_
    refine xw_then ?_
    refine cw_seq ?_
    refine cw_region ?_
    refine lstepB rfl rfl rfl (run_call1 cb98 .nil (fun w _ => anySoilK w)) ?_
    refine lstepB rfl rfl rfl (En.run_makeFunc (.cons (.tmp rfl) .nil) .nil) ?_
    refine lstep rfl rfl rfl (run_alloc zr138) ?_
    intro b6 _
    refine lstep0 rfl rfl (run_store1 (.tmp rfl) (.tmp rfl) rfl sz138 (by repeat (first | exact Upd.here | apply Upd.there)) (by repeat (first | exact Put.done | apply Put.put | apply Put.skip))) ?_
    refine lnil ?_
    refine xw_then ?_
    refine cw_seq ?_
    refine cw_region ?_
    refine lstepB rfl rfl rfl (run_loadN (.tmp rfl) kd78 sz78 (by repeat (first | exact List.Mem.head _ | apply List.Mem.tail)) (by repeat (first | exact Sub.done | apply Sub.take | apply Sub.skip))) ?_
    refine lstepB rfl rfl rfl (run_move (.tmp rfl)) ?_
    refine lcallN rfl cb90 (.cons (.tmp rfl) (.cons (.tmp rfl) .nil)) (F := fun (s : Nat × Nat) lo w' => lo ≤ s.1 ∧ lo ≤ s.2 ∧ w'.cell? ⟨s.1, 0, none⟩ = some (.int .i64 g.long) ∧ w'.cell? ⟨s.2, 0, none⟩ = some (.bool true)) (fun w _ => alongK g.long true _ _ _ _ _ w) ?_
    rintro ⟨z1, z2⟩ lo w1 ⟨a1, a2, c1, c2⟩ hlo hsz hsz2 h1
    dsimp only at a1 a2 c1 c2 ⊢
    have l1 : z1 < w1.heap.size := World.block_lt_of_cell? w1 _ c1
    have l2 : z2 < w1.heap.size := World.block_lt_of_cell? w1 _ c2
    refine lnil ?_
    refine xw_then ?_
    refine cw_block ?_
    refine cw_range (f := 105) (xs := alongL g.long true) (Cap := fun c => c = z1 ∨ c = z2) (S := Nat) (fun s => [(gM, Obj.cells (mixesC (wayF g true (wayL g false (dugL g)) s).1).toArray 85 (0, 0)), (b6, Obj.cells [.func (.func 99) [.agg (mixC (wayF g true (wayL g false (dugL g)) s).2).toArray].toArray #[]].toArray 138 (0, 0)), (b3, Obj.cells [.slice (some ⟨gM, 0, none⟩) (placesN g) (placesN g)].toArray 76 (0, 0)), (b1, Obj.cells [.int .i64 g.long, .int .i64 g.rise, .int .i64 g.change, .slice pa g.pits.length pc, hs, ms].toArray 78 (0, 0))] ++ [(D1, dfr)])
      (fun k s => k = s ∧ ∀ j, j < k → midM g true (wayL g false (dugL g)) j ≠ noMix) 0
      cb105 (.tmp rfl) rfl (fun w hS => along1_iter g.long true z1 z2 w (by omega) (hS.old_cell (fun h => absurd (hlo _ h) (by omega)) c1) (hS.old_cell (fun h => absurd (hlo _ h) (by omega)) c2))
      (fun c hc => by rcases hc with rfl | rfl; exact ⟨l1, fun h => absurd (hlo _ h) (by omega)⟩; exact ⟨l2, fun h => absurd (hlo _ h) (by omega)⟩) ⟨rfl, fun j h => absurd h (Nat.not_lt_zero j)⟩ (by repeat (first | exact Pick.nil | (apply Pick.cons; focus (repeat (first | exact Del.here | apply Del.there))))) ?_ ?_
    ·
      intro L D fn tm k s x w2 hx hF h2
      have hk : k < placesN g := by have := (List.getElem?_eq_some_iff.1 hx).1; rwa [alongL_length] at this
      rw [alongL_idx hk] at hx
      cases hx
      obtain ⟨rfl, hbef⟩ := hF
      have hil := idxN_lt (back := true) hk
      have hwl : (wayF g true (wayL g false (dugL g)) k).1.length = placesN g := (wayF_length _ _ _ _).trans hll
      have hm20 := midM_in20 (g := g) (back := true) hin k
      have hsm := wayF_sm (back := true) hin hg.change k
      have hch := hg.change
      refine cw_region ?_
      refine lstepB rfl rfl rfl (run_assign (.tmp rfl)) ?_
      refine lnil ?_
      refine xw_begin rfl ?_
      refine cw_block ?_
      refine cw_seq ?_
      refine cw_chain2 (σ := [0, 1, 2, 3, 4, 5, 6, 7, 8, 9]) [⟨0, [4], [], [], 0⟩, ⟨0, [], [], [], 0⟩, ⟨0, [3], [], [], 0⟩, ⟨0, [4], [], [], 0⟩, ⟨0, [], [], [], 0⟩, ⟨0, [], [], [], 24⟩, ⟨0, [2], [], [], 56⟩, ⟨0, [], [], [], 124⟩, ⟨0, [], [], [], 255⟩, ⟨0, [], [2], [2], 511⟩] [(0, _), (1, _), (2, _), (3, _), (4, _), (5, _), (6, _)] (by kernel_rfl) (by kernel_rfl) rfl ?_
      refine .det (B := []) rfl rfl (.inl rfl) (.cons rfl .nil) .nil rfl (RunB.lr (run_load1 (.tmp rfl) kd76 (by repeat (first | exact List.Mem.head _ | apply List.Mem.tail)) (by exact rfl))) ?_
      refine .det (B := []) rfl rfl (.inl rfl) .nil .nil rfl (RunB.lr (run_move (.tmp rfl))) ?_
      refine .det (B := []) rfl rfl (.inl rfl) (.cons rfl .nil) .nil rfl (RunB.lr (run_load1 (.tmp rfl) kd138 (by repeat (first | exact List.Mem.head _ | apply List.Mem.tail)) (by exact rfl))) ?_
      refine .det (B := []) rfl rfl (.inl rfl) (.cons rfl .nil) .nil rfl (RunB.lr (run_load1 (.tmp rfl) kd76 (by repeat (first | exact List.Mem.head _ | apply List.Mem.tail)) (by exact rfl))) ?_
      refine .det (B := []) rfl rfl (.inl rfl) .nil .nil rfl (RunB.lr (run_move (.tmp rfl))) ?_
      refine .det (B := []) rfl rfl (.inl rfl) .nil .nil rfl (RunB.lr (run_indexAddr (i := (idxN g true k)) (off' := (idxN g true k) * 6) (.tmp rfl) (.tmp rfl) el76 (by omega) (Nat.zero_add _))) ?_
      refine .det (B := []) rfl rfl (.inl rfl) (.cons rfl .nil) .nil rfl (RunB.lr (run_loadN (l := mixC ((wayF g true (wayL g false (dugL g)) k).1.getD (idxN g true k) noMix)) (.tmp rfl) kd85 sz85 (by repeat (first | exact List.Mem.head _ | apply List.Mem.tail)) (sub_getD (by omega)))) ?_
      refine .det (B := []) rfl rfl (.inl rfl) .nil .nil rfl (RunB.lr (run_callm1 cb99 (.tmp rfl) (.cons (.tmp rfl) .nil) rfl (fun w _ => bothK _ _ hsm (getD_in20 (wayF_in20 hin k) _).sm w))) ?_
      refine .det (B := []) rfl rfl (.inl rfl) .nil .nil rfl (RunB.lr (run_indexAddr (i := (idxN g true k)) (off' := (idxN g true k) * 6) (.tmp rfl) (.tmp rfl) el76 (by omega) (Nat.zero_add _))) ?_
      refine .det (B := [(2, (_, _))]) rfl rfl (.inl rfl) .nil (.cons rfl .nil) rfl (lr_storeN (l := mixC (midM g true (wayL g false (dugL g)) k)) (cs' := mixesC ((wayF g true (wayL g false (dugL g)) k).1.set (idxN g true k) (midM g true (wayL g false (dugL g)) k))) (.tmp rfl) (.tmp rfl) rfl sz85 rfl (put_mix _ _ _ (by omega))) ?_
      refine chain_nil (ts := [0, 1, 2, 3, 4, 5, 6]) (.cons rfl (.cons rfl (.cons rfl (.cons rfl (.cons rfl (.cons rfl (.cons rfl .nil))))))) (by decide) ?_
      refine xw_then ?_
      refine cw_seq ?_
      refine cw_seq ?_
      refine cw_region ?_
      refine lstepB rfl rfl rfl (run_load1 (.tmp rfl) kd76 (by repeat (first | exact List.Mem.head _ | apply List.Mem.tail)) (by exact rfl)) ?_
      refine lstepB rfl rfl rfl (run_move (.tmp rfl)) ?_
      refine lstepB rfl rfl rfl (run_indexAddr (i := (idxN g true k)) (off' := (idxN g true k) * 6) (.tmp rfl) (.tmp rfl) el76 (by omega) (Nat.zero_add _)) ?_
      refine lstepB rfl rfl rfl (run_loadN (l := mixC (midM g true (wayL g false (dugL g)) k)) (.tmp rfl) kd85 sz85 (by repeat (first | exact List.Mem.head _ | apply List.Mem.tail)) (sub_set (by omega))) ?_
      refine lstepB rfl rfl rfl (run_build_at .nil (fun w => bd85_ w)) ?_
      refine lstepB rfl rfl rfl (run_eql_agg (.tmp rfl) (.tmp rfl) eg85 (eql85 (eqz (midM g true (wayL g false (dugL g)) k)))) ?_
      refine lnil ?_
      refine xw_then ?_
      refine cw_cond_p (.tmp rfl) (fun hc => ?_) (fun hc => ?_)
      ·
        refine cw_region ?_
        refine lstepB rfl rfl rfl (En.run_makeInterface .const if29) ?_
        refine lpanic (.tmp rfl) (fun w => rfl) ?_
        refine xw_then_panic ?_
        refine xw_in_panic ?_
        refine xw_rpanic (H' := [(D1, dfr)]) (by repeat (first | exact Pick.nil | (apply Pick.cons; focus (repeat (first | exact Del.here | apply Del.there))))) ?_
        refine xw_in_panic ?_
        refine xw_in_panic ?_
        refine xw_then_panic ?_
        refine xw_then_panic ?_
        refine xw_in_panic ?_
        refine xw_then_panic ?_
        refine xw_panicDs (Ds := [D, D1]) (fun w hS => .inr ⟨by rw [soilsOk, wayOk_no hk hc, Bool.and_false], rfl, (h1.join0 hS).kept⟩)
      ·
        refine cw_skip ?_
        refine xw_then ?_
        refine cw_chain2 (σ := [0, 1, 2, 3, 4, 5, 6, 7, 8, 9]) [⟨0, [4], [], [], 0⟩, ⟨0, [], [], [], 0⟩, ⟨0, [], [], [], 3⟩, ⟨0, [2], [], [], 7⟩, ⟨0, [], [], [], 0⟩, ⟨0, [], [], [], 16⟩, ⟨0, [5], [], [], 48⟩, ⟨0, [], [], [], 127⟩, ⟨0, [], [], [], 255⟩, ⟨0, [], [3], [3], 511⟩] [(0, _), (1, _), (2, _), (3, _), (4, _), (5, _), (6, _)] (by kernel_rfl) (by kernel_rfl) rfl ?_
        refine .det (B := []) rfl rfl (.inl rfl) (.cons rfl .nil) .nil rfl (RunB.lr (run_load1 (.tmp rfl) kd76 (by repeat (first | exact List.Mem.head _ | apply List.Mem.tail)) (by exact rfl))) ?_
        refine .det (B := []) rfl rfl (.inl rfl) .nil .nil rfl (RunB.lr (run_move (.tmp rfl))) ?_
        refine .det (B := []) rfl rfl (.inl rfl) .nil .nil rfl (RunB.lr (run_indexAddr (i := (idxN g true k)) (off' := (idxN g true k) * 6) (.tmp rfl) (.tmp rfl) el76 (by omega) (Nat.zero_add _))) ?_
        refine .det (B := []) rfl rfl (.inl rfl) (.cons rfl .nil) .nil rfl (RunB.lr (run_loadN (l := mixC (midM g true (wayL g false (dugL g)) k)) (.tmp rfl) kd85 sz85 (by repeat (first | exact List.Mem.head _ | apply List.Mem.tail)) (sub_set (by omega)))) ?_
        refine .det (B := []) rfl rfl (.inl rfl) .nil .nil rfl (RunB.lr (run_fieldAddr (.tmp rfl) fa78_0 (by first | exact Nat.zero_add _ | exact rfl))) ?_
        refine .det (B := []) rfl rfl (.inl rfl) .nil .nil rfl (RunB.lr (run_fieldAddr (.tmp rfl) fa24_2 (by first | exact Nat.zero_add _ | exact rfl))) ?_
        refine .det (B := []) rfl rfl (.inl rfl) (.cons rfl .nil) .nil rfl (RunB.lr (run_load1 (.tmp rfl) kd3 (by repeat (first | exact List.Mem.head _ | apply List.Mem.tail)) (by exact rfl))) ?_
        refine .det (B := []) rfl rfl (.inl rfl) .nil .nil rfl (RunB.lr (run_call1 cb100 (.cons (.tmp rfl) (.cons (.tmp rfl) .nil)) (fun w _ => changedK (midM g true (wayL g false (dugL g)) k) g.change hm20.sm ⟨by omega, by omega⟩ w))) ?_
        refine .det (B := []) rfl rfl (.inl rfl) .nil .nil rfl (RunB.lr (En.run_makeFunc (.cons (.tmp rfl) .nil) .nil)) ?_
        refine .det (B := [(3, (_, _))]) rfl rfl (.inl rfl) .nil (.cons rfl .nil) rfl (lr_store1 (.tmp rfl) (.tmp rfl) rfl sz138 (by repeat (first | exact Put.done | apply Put.put | apply Put.skip))) ?_
        refine chain_nil (ts := [0, 1, 2, 3, 4, 5, 6]) (.cons rfl (.cons rfl (.cons rfl (.cons rfl (.cons rfl (.cons rfl (.cons rfl .nil))))))) (by decide) ?_
        refine xw_in ?_
        exact xw_rnext (k + 1) ⟨rfl, fun j hj => by rcases Nat.lt_succ_iff_lt_or_eq.1 hj with h | rfl; exact hbef j h; exact hc⟩ (by repeat (first | exact Pick.nil | (apply Pick.cons; focus (repeat (first | exact Del.here | apply Del.there)))))
    ·
      intro D s hF
      obtain ⟨rfl, hbef⟩ := hF
      rw [alongL_length]
      have hok : wayOk g true (wayL g false (dugL g)) = true := wayOk_of (fun j hj => hbef j (by rw [alongL_length]; exact hj))
      refine xw_in ?_
      refine xw_in ?_
      refine xw_then ?_
      refine cw_region ?_
      refine lstepB rfl rfl rfl (run_add (.tmp rfl) .const (by first | exact IntWalk.i64_in _ (by omega) | exact rfl)) ?_
      refine lstepB rfl rfl rfl (run_move (.tmp rfl)) ?_
      refine lnil ?_
      refine xw_back0 h1 ?_
      exact (xw_roundD (Di := fun (s : Nat × Nat × Nat) => match s.1 with | 0 => [] | 1 => [mark1 s.2.1] | _ => [mark1 s.2.2, mark1 s.2.1]) (2, D1, D) ⟨by show 2 ≤ 2; omega, fun _ => o1 (by omega), fun _ => hok⟩ (by show 2 - 2 < 2 - 1; omega) (by repeat (first | exact Less.nil | refine Less.cons rfl ?_)) (by repeat (first | exact Pick.nil | (apply Pick.cons; focus (repeat (first | exact Del.here | apply Del.there))))))
  | 2, hk2, o1, o2 =>
    refine cw_seq ?_
    refine cw_region ?_
    refine lstepB rfl rfl rfl (run_lss (.tmp rfl) .const (by first | exact decide_eq_true (by omega) | exact decide_eq_false (by omega) | exact rfl)) ?_
    refine lnil ?_
    refine xw_then ?_
    refine cw_seq ?_
    refine cw_cond_false (.tmp rfl) ?_
    refine cw_exit ?_
    refine xw_then_exit ?_
    refine xw_then_exit ?_
    refine xw_in_exit ?_
    refine xw_then ?_
    refine cw_seq ?_
    refine cw_region ?_
    refine lstepB rfl rfl rfl (run_load1 (.tmp rfl) kd76 (by repeat (first | exact List.Mem.head _ | apply List.Mem.tail)) (by exact rfl)) ?_
    refine lstepB rfl rfl rfl (run_assign (.tmp rfl)) ?_
    refine lnil ?_
    refine xw_then ?_
    refine cw_ret ?_
    refine xw_pick (H' := [(D2, dfr), (D1, dfr), (gM, _)]) (by repeat (first | exact Pick.nil | (apply Pick.cons; focus (repeat (first | exact Del.here | apply Del.there))))) ?_
    exact xw_retDs1 (Ds := [D2, D1]) Try.results83 rfl (fun w hS => .inl ⟨by rw [soilsOk, o1 (by omega), o2 (by omega)]; rfl, gM, rfl, hS⟩)
end Go.Proofs.Ytfmbnobkenngaaa
