/- Soil: the law's helper awake. -/
import Derived.Test.YtfmbnobkenngaaaHE
import Derived.Test.YtfmbnobkenngaaaGX
namespace Go.Proofs.Ytfmbnobkenngaaa
open Go.RowKit En

def oddG : GroundD := ⟨10, 50, 2, [sampleP1, ⟨5, ⟨900, 900⟩, ⟨0, 20⟩, ⟨0, 20⟩, ⟨0, 20⟩⟩, sampleP2]⟩
theorem ex_hard : hardS sampleG 5 = ⟨350, 470⟩ := by decide +kernel
theorem ex_hardE : hardE sampleG [5] = none := by decide +kernel
theorem ex_parts : partsM sampleG 5 = ⟨⟨4, 12⟩, ⟨0, 11⟩, ⟨3, 11⟩⟩ := by decide +kernel
theorem ex_class : classV sampleG 3 = 3 := by decide +kernel
theorem ex_classE : hardE sampleG [3] = none := by decide +kernel
theorem ex_stretch : stretchS sampleG 3 = (8, 8) := by decide +kernel
theorem ex_stretchE : stretchE sampleG 3 = none := by decide +kernel
theorem ex_work : workS sampleG 4 6 = ⟨1050, 1410⟩ := by decide +kernel
theorem ex_workE : workE sampleG 4 6 = none := by decide +kernel
theorem ex_dig : digS sampleG = (0, 220) := by decide +kernel
theorem ex_digE : hardE sampleG [] = none := by decide +kernel
theorem ex_odd : oddV oddG = 2 := by decide +kernel
theorem ex_oddE : oddE oddG = none := by decide +kernel
section
variable {w : World} {b : Nat} {te : TypeId} {fr : Nat × Nat} (h : w.heap[b]? = some (.cells (pitsC sampleG.pits).toArray te fr))
include h
theorem awHard : Gives Try.prog 13 [.agg [.int .i64 10, .int .i64 50, .int .i64 2, .slice (some ⟨b, 0, none⟩) 2 2].toArray, .int .i64 5] w (.tuple #[.agg [.int .i64 350, .int .i64 470].toArray, .int .i64 0]) := by
  have := hardK sampleG 5 (some ⟨b, 0, none⟩) 2 w (by decide) (pitsAt_cells h); rw [ex_hard, ex_hardE] at this; exact this
theorem awParts : Gives Try.prog 15 [.agg [.int .i64 10, .int .i64 50, .int .i64 2, .slice (some ⟨b, 0, none⟩) 2 2].toArray, .int .i64 5] w (.tuple #[.agg [.int .i64 4, .int .i64 12].toArray, .agg [.int .i64 0, .int .i64 11].toArray, .agg [.int .i64 3, .int .i64 11].toArray, .int .i64 0]) := by
  have := partsK sampleG 5 (some ⟨b, 0, none⟩) 2 w (by decide) (pitsAt_cells h); rw [ex_parts, ex_hardE] at this; exact this
theorem awClass : Gives Try.prog 17 [.agg [.int .i64 10, .int .i64 50, .int .i64 2, .slice (some ⟨b, 0, none⟩) 2 2].toArray, .int .i64 3] w (.tuple #[.int .i64 3, .int .i64 0]) := by
  have := classK sampleG 3 (some ⟨b, 0, none⟩) 2 w (by decide) (pitsAt_cells h); rw [ex_class, ex_classE] at this; exact this
theorem awStretch : Gives Try.prog 21 [.agg [.int .i64 10, .int .i64 50, .int .i64 2, .slice (some ⟨b, 0, none⟩) 2 2].toArray, .int .i64 3] w (.tuple #[.int .i64 8, .int .i64 8, .int .i64 0]) := by
  have := stretchK sampleG 3 (some ⟨b, 0, none⟩) 2 w (by decide) (pitsAt_cells h); rw [ex_stretch, ex_stretchE] at this; exact this
theorem awWork : Gives Try.prog 19 [.agg [.int .i64 10, .int .i64 50, .int .i64 2, .slice (some ⟨b, 0, none⟩) 2 2].toArray, .int .i64 4, .int .i64 6] w (.tuple #[.agg [.int .i64 1050, .int .i64 1410].toArray, .int .i64 0]) := by
  have := workK sampleG 4 6 (some ⟨b, 0, none⟩) 2 w (by decide) (pitsAt_cells h); rw [ex_work, ex_workE] at this; exact this
theorem awDig : Gives Try.prog 23 [.agg [.int .i64 10, .int .i64 50, .int .i64 2, .slice (some ⟨b, 0, none⟩) 2 2].toArray] w (.tuple #[.int .i64 0, .int .i64 220, .int .i64 0]) := by
  have := digK sampleG (some ⟨b, 0, none⟩) 2 w (by decide) (pitsAt_cells h); rw [ex_dig, ex_digE] at this; exact this
theorem aw_cell (i : Nat) (p : PitD) (hp : sampleG.pits[i]? = some p) : ∀ j v, (pitC p)[j]? = some v → w.cell? ⟨b, i * 9 + j, none⟩ = some v := fun j v hj => by
  have := pitsC_at sampleG.pits i p hp j v hj
  simp only [World.cell?, h]
  simpa using this
end
theorem awOdd {w : World} {b : Nat} {te : TypeId} {fr : Nat × Nat} (h : w.heap[b]? = some (.cells (pitsC oddG.pits).toArray te fr)) : Gives Try.prog 25 [.agg [.int .i64 10, .int .i64 50, .int .i64 2, .slice (some ⟨b, 0, none⟩) 3 3].toArray] w (.tuple #[.int .i64 2, .int .i64 0]) := by
  have := oddK oddG (some ⟨b, 0, none⟩) 3 w (by decide) (by decide) (pitsAt_cells h); rw [ex_odd, ex_oddE] at this; exact this
set_option maxRecDepth 100000 in
set_option maxHeartbeats 4000000 in
theorem awakeK (w : World) : Gives Try.prog 12 [] w (.bool true) := by
  refine .mk <| enter (n := 144) Try.func12 rfl rfl rfl (by repeat (first | exact Fill.nil | apply Fill.cons)) ?_
  refine cw_seq ?_
  refine cw_region ?_
  refine lstepB rfl rfl rfl (run_assign .const) ?_
  refine lnil ?_
  refine xw_then ?_
  refine cw_seq ?_
  refine cw_region ?_
  refine lstep rfl rfl rfl (LR.runs (R := []) (A := []) (lr_gives (F := fun _ : Nat => True) cb41 .nil (fun w2 hS => (sampleK w2).mono fun e w3 ⟨b, h1, h2⟩ => ⟨b, trivial, h1, h2⟩)) (by repeat (first | exact Pick.nil | (apply Pick.cons; focus (repeat (first | exact Del.here | apply Del.there))))) (by repeat (first | exact Dels.nil | (apply Dels.cons; focus (repeat (first | exact Del.here | apply Del.there)))))) ?_
  intro s0 _
  refine lstepB rfl rfl rfl (run_call1 cb13 (.cons (.tmp rfl) (.cons .const .nil)) (fun w hS => awHard (hS.mem (by repeat (first | exact List.Mem.head _ | apply List.Mem.tail))))) ?_
  refine lstepB rfl rfl rfl (run_move (.tmp rfl)) ?_
  refine lstepB rfl rfl rfl (run_extract (.tmp rfl) rfl) ?_
  refine lstepB rfl rfl rfl (run_extract (.tmp rfl) rfl) ?_
  refine lstep rfl rfl rfl (run_alloc zr28) ?_
  intro b1 _
  refine lstep0 rfl rfl (run_storeN (.tmp rfl) (.tmp rfl) rfl sz28 rfl (by repeat (first | exact Upd.here | apply Upd.there)) (by repeat (first | exact Put.done | apply Put.put | apply Put.skip))) ?_
  refine lstepB rfl rfl rfl (run_assign (.tmp rfl)) ?_
  refine lnil ?_
  refine xw_then ?_
  refine cw_seq ?_
  refine cw_region ?_
  refine lstep rfl rfl rfl (LR.runs (R := []) (A := []) (lr_gives (F := fun _ : Nat => True) cb41 .nil (fun w2 hS => (sampleK w2).mono fun e w3 ⟨b, h1, h2⟩ => ⟨b, trivial, h1, h2⟩)) (by repeat (first | exact Pick.nil | (apply Pick.cons; focus (repeat (first | exact Del.here | apply Del.there))))) (by repeat (first | exact Dels.nil | (apply Dels.cons; focus (repeat (first | exact Del.here | apply Del.there)))))) ?_
  intro s1 _
  refine lstepB rfl rfl rfl (run_call1 cb15 (.cons (.tmp rfl) (.cons .const .nil)) (fun w hS => awParts (hS.mem (by repeat (first | exact List.Mem.head _ | apply List.Mem.tail))))) ?_
  refine lstepB rfl rfl rfl (run_move (.tmp rfl)) ?_
  refine lstepB rfl rfl rfl (run_extract (.tmp rfl) rfl) ?_
  refine lstepB rfl rfl rfl (run_extract (.tmp rfl) rfl) ?_
  refine lstepB rfl rfl rfl (run_extract (.tmp rfl) rfl) ?_
  refine lstepB rfl rfl rfl (run_extract (.tmp rfl) rfl) ?_
  refine lstep rfl rfl rfl (run_alloc zr28) ?_
  intro b3 _
  refine lstep rfl rfl rfl (run_alloc zr28) ?_
  intro b4 _
  refine lstep rfl rfl rfl (run_alloc zr28) ?_
  intro b5 _
  refine lstep0 rfl rfl (run_storeN (.tmp rfl) (.tmp rfl) rfl sz28 rfl (by repeat (first | exact Upd.here | apply Upd.there)) (by repeat (first | exact Put.done | apply Put.put | apply Put.skip))) ?_
  refine lstep0 rfl rfl (run_storeN (.tmp rfl) (.tmp rfl) rfl sz28 rfl (by repeat (first | exact Upd.here | apply Upd.there)) (by repeat (first | exact Put.done | apply Put.put | apply Put.skip))) ?_
  refine lstep0 rfl rfl (run_storeN (.tmp rfl) (.tmp rfl) rfl sz28 rfl (by repeat (first | exact Upd.here | apply Upd.there)) (by repeat (first | exact Put.done | apply Put.put | apply Put.skip))) ?_
  refine lstepB rfl rfl rfl (run_assign (.tmp rfl)) ?_
  refine lnil ?_
  refine xw_then ?_
  refine cw_seq ?_
  refine cw_region ?_
  refine lstep rfl rfl rfl (LR.runs (R := []) (A := []) (lr_gives (F := fun _ : Nat => True) cb41 .nil (fun w2 hS => (sampleK w2).mono fun e w3 ⟨b, h1, h2⟩ => ⟨b, trivial, h1, h2⟩)) (by repeat (first | exact Pick.nil | (apply Pick.cons; focus (repeat (first | exact Del.here | apply Del.there))))) (by repeat (first | exact Dels.nil | (apply Dels.cons; focus (repeat (first | exact Del.here | apply Del.there)))))) ?_
  intro s2 _
  refine lstepB rfl rfl rfl (run_call1 cb17 (.cons (.tmp rfl) (.cons .const .nil)) (fun w hS => awClass (hS.mem (by repeat (first | exact List.Mem.head _ | apply List.Mem.tail))))) ?_
  refine lstepB rfl rfl rfl (run_move (.tmp rfl)) ?_
  refine lstepB rfl rfl rfl (run_extract (.tmp rfl) rfl) ?_
  refine lstepB rfl rfl rfl (run_extract (.tmp rfl) rfl) ?_
  refine lstepB rfl rfl rfl (run_assign (.tmp rfl)) ?_
  refine lstepB rfl rfl rfl (run_assign (.tmp rfl)) ?_
  refine lnil ?_
  refine xw_then ?_
  refine cw_seq ?_
  refine cw_region ?_
  refine lstep rfl rfl rfl (LR.runs (R := []) (A := []) (lr_gives (F := fun _ : Nat => True) cb41 .nil (fun w2 hS => (sampleK w2).mono fun e w3 ⟨b, h1, h2⟩ => ⟨b, trivial, h1, h2⟩)) (by repeat (first | exact Pick.nil | (apply Pick.cons; focus (repeat (first | exact Del.here | apply Del.there))))) (by repeat (first | exact Dels.nil | (apply Dels.cons; focus (repeat (first | exact Del.here | apply Del.there)))))) ?_
  intro s3 _
  refine lstepB rfl rfl rfl (run_call1 cb21 (.cons (.tmp rfl) (.cons .const .nil)) (fun w hS => awStretch (hS.mem (by repeat (first | exact List.Mem.head _ | apply List.Mem.tail))))) ?_
  refine lstepB rfl rfl rfl (run_move (.tmp rfl)) ?_
  refine lstepB rfl rfl rfl (run_extract (.tmp rfl) rfl) ?_
  refine lstepB rfl rfl rfl (run_extract (.tmp rfl) rfl) ?_
  refine lstepB rfl rfl rfl (run_extract (.tmp rfl) rfl) ?_
  refine lstepB rfl rfl rfl (run_assign (.tmp rfl)) ?_
  refine lstepB rfl rfl rfl (run_assign (.tmp rfl)) ?_
  refine lstepB rfl rfl rfl (run_assign (.tmp rfl)) ?_
  refine lnil ?_
  refine xw_then ?_
  refine cw_seq ?_
  refine cw_region ?_
  refine lstep rfl rfl rfl (LR.runs (R := []) (A := []) (lr_gives (F := fun _ : Nat => True) cb41 .nil (fun w2 hS => (sampleK w2).mono fun e w3 ⟨b, h1, h2⟩ => ⟨b, trivial, h1, h2⟩)) (by repeat (first | exact Pick.nil | (apply Pick.cons; focus (repeat (first | exact Del.here | apply Del.there))))) (by repeat (first | exact Dels.nil | (apply Dels.cons; focus (repeat (first | exact Del.here | apply Del.there)))))) ?_
  intro s4 _
  refine lstepB rfl rfl rfl (run_call1 cb19 (.cons (.tmp rfl) (.cons .const (.cons .const .nil))) (fun w hS => awWork (hS.mem (by repeat (first | exact List.Mem.head _ | apply List.Mem.tail))))) ?_
  refine lstepB rfl rfl rfl (run_move (.tmp rfl)) ?_
  refine lstepB rfl rfl rfl (run_extract (.tmp rfl) rfl) ?_
  refine lstepB rfl rfl rfl (run_extract (.tmp rfl) rfl) ?_
  refine lstep rfl rfl rfl (run_alloc zr28) ?_
  intro b12 _
  refine lstep0 rfl rfl (run_storeN (.tmp rfl) (.tmp rfl) rfl sz28 rfl (by repeat (first | exact Upd.here | apply Upd.there)) (by repeat (first | exact Put.done | apply Put.put | apply Put.skip))) ?_
  refine lstepB rfl rfl rfl (run_assign (.tmp rfl)) ?_
  refine lnil ?_
  refine xw_then ?_
  refine cw_seq ?_
  refine cw_region ?_
  refine lstep rfl rfl rfl (LR.runs (R := []) (A := []) (lr_gives (F := fun _ : Nat => True) cb41 .nil (fun w2 hS => (sampleK w2).mono fun e w3 ⟨b, h1, h2⟩ => ⟨b, trivial, h1, h2⟩)) (by repeat (first | exact Pick.nil | (apply Pick.cons; focus (repeat (first | exact Del.here | apply Del.there))))) (by repeat (first | exact Dels.nil | (apply Dels.cons; focus (repeat (first | exact Del.here | apply Del.there)))))) ?_
  intro s5 _
  refine lstepB rfl rfl rfl (run_call1 cb23 (.cons (.tmp rfl) .nil) (fun w hS => awDig (hS.mem (by repeat (first | exact List.Mem.head _ | apply List.Mem.tail))))) ?_
  refine lstepB rfl rfl rfl (run_move (.tmp rfl)) ?_
  refine lstepB rfl rfl rfl (run_extract (.tmp rfl) rfl) ?_
  refine lstepB rfl rfl rfl (run_extract (.tmp rfl) rfl) ?_
  refine lstepB rfl rfl rfl (run_extract (.tmp rfl) rfl) ?_
  refine lstepB rfl rfl rfl (run_assign (.tmp rfl)) ?_
  refine lstepB rfl rfl rfl (run_assign (.tmp rfl)) ?_
  refine lstepB rfl rfl rfl (run_assign (.tmp rfl)) ?_
  refine lnil ?_
  refine xw_then ?_
  refine cw_seq ?_
  refine cw_region ?_
  refine lstep rfl rfl rfl (LR.runs (R := []) (A := []) (lr_gives (F := fun _ : Nat => True) cb41 .nil (fun w2 hS => (sampleK w2).mono fun e w3 ⟨b, h1, h2⟩ => ⟨b, trivial, h1, h2⟩)) (by repeat (first | exact Pick.nil | (apply Pick.cons; focus (repeat (first | exact Del.here | apply Del.there))))) (by repeat (first | exact Dels.nil | (apply Dels.cons; focus (repeat (first | exact Del.here | apply Del.there)))))) ?_
  intro s7 _
  refine lstep rfl rfl rfl (run_alloc zr24) ?_
  intro b17 _
  refine lstep0 rfl rfl (run_storeN (.tmp rfl) (.tmp rfl) rfl sz24 rfl (by repeat (first | exact Upd.here | apply Upd.there)) (by repeat (first | exact Put.done | apply Put.put | apply Put.skip))) ?_
  refine lnil ?_
  refine xw_then ?_
  refine cw_seq ?_
  refine cw_chain2 (σ := [0, 1, 2, 3, 4, 5, 6, 7, 8, 9, 10, 11]) [⟨0, [], [], [], 0⟩, ⟨0, [0], [], [], 1⟩, ⟨0, [], [], [], 3⟩, ⟨0, [1], [], [], 7⟩, ⟨0, [], [], [], 0⟩, ⟨0, [], [], [], 0⟩, ⟨0, [0], [], [], 32⟩, ⟨0, [], [], [], 96⟩, ⟨0, [1], [], [], 224⟩, ⟨2, [], [], [13], 511⟩, ⟨0, [], [], [], 1023⟩, ⟨0, [], [0], [0], 2047⟩] [(0, _), (1, _), (2, _), (3, _), (4, _), (5, _), (6, _), (7, _), (8, _), (9, _), (10, _), (11, _), (12, _)] (by kernel_rfl) (by kernel_rfl) rfl ?_
  refine .det (B := []) rfl rfl (.inl rfl) .nil .nil rfl (RunB.lr (run_fieldAddr (.tmp rfl) fa24_3 (by first | exact Nat.zero_add _ | exact rfl))) ?_
  refine .det (B := []) rfl rfl (.inl rfl) (.cons rfl .nil) .nil rfl (RunB.lr (run_load1 (.tmp rfl) kd22 (by repeat (first | exact List.Mem.head _ | apply List.Mem.tail)) (by exact rfl))) ?_
  refine .det (B := []) rfl rfl (.inl rfl) .nil .nil rfl (RunB.lr (run_indexAddr (i := 0) (off' := 0 * 9) (.tmp rfl) .const el22 (by omega) rfl)) ?_
  refine .det (B := []) rfl rfl (.inl rfl) (.cons rfl .nil) .nil rfl (RunB.lr (run_loadN_at (l := pitC sampleP1) (.tmp rfl) kd55 sz55 rfl (fun w' hS j v hj => aw_cell (hS.mem (by repeat (first | exact List.Mem.head _ | apply List.Mem.tail))) 0 sampleP1 rfl j v hj))) ?_
  refine .det (B := []) rfl rfl (.inl rfl) .nil .nil rfl (RunB.lr (run_call1 cb36 (.cons .const (.cons .const (.cons .const (.cons .const (.cons .const (.cons .const (.cons .const (.cons .const (.cons .const .nil))))))))) (fun w _ => pitLK _ _ _ _ _ _ _ _ _ w))) ?_
  refine .det (B := []) rfl rfl (.inl rfl) .nil .nil rfl (RunB.lr (run_fieldAddr (.tmp rfl) fa24_3 (by first | exact Nat.zero_add _ | exact rfl))) ?_
  refine .det (B := []) rfl rfl (.inl rfl) (.cons rfl .nil) .nil rfl (RunB.lr (run_load1 (.tmp rfl) kd22 (by repeat (first | exact List.Mem.head _ | apply List.Mem.tail)) (by exact rfl))) ?_
  refine .det (B := []) rfl rfl (.inl rfl) .nil .nil rfl (RunB.lr (run_indexAddr (i := 1) (off' := 1 * 9) (.tmp rfl) .const el22 (by omega) rfl)) ?_
  refine .det (B := []) rfl rfl (.inl rfl) (.cons rfl .nil) .nil rfl (RunB.lr (run_loadN_at (l := pitC sampleP2) (.tmp rfl) kd55 sz55 rfl (fun w' hS j v hj => aw_cell (hS.mem (by repeat (first | exact List.Mem.head _ | apply List.Mem.tail))) 1 sampleP2 rfl j v hj))) ?_
  refine .flo rfl rfl rfl (.lit rfl (.cons (.tmp rfl) (.cons (.tmp rfl) (.cons (.tmp rfl) .nil))) (fun w => bs22_3_0_1_2 w)) trivial rfl rfl rfl ?_
  intro b64
  refine .det (B := []) rfl rfl (.inl rfl) .nil .nil rfl (RunB.lr (run_fieldAddr (.tmp rfl) fa24_3 (by first | exact Nat.zero_add _ | exact rfl))) ?_
  refine .det (B := [(0, (_, _))]) rfl rfl (.inl rfl) .nil (.cons rfl .nil) rfl (lr_store1 (.tmp rfl) (.tmp rfl) rfl sz22 (by repeat (first | exact Put.done | apply Put.put | apply Put.skip))) ?_
  refine chain_nil (ts := [13, 0, 1, 2, 3, 4, 5, 6, 7, 8, 9, 10, 11, 12]) (.cons rfl (.cons rfl (.cons rfl (.cons rfl (.cons rfl (.cons rfl (.cons rfl (.cons rfl (.cons rfl (.cons rfl (.cons rfl (.cons rfl (.cons rfl (.cons rfl .nil)))))))))))))) (by decide) ?_
  refine xw_then ?_
  refine cw_seq ?_
  refine cw_region ?_
  refine lstepB rfl rfl rfl (run_loadN (.tmp rfl) kd24 sz24 (by repeat (first | exact List.Mem.head _ | apply List.Mem.tail)) (by repeat (first | exact Sub.done | apply Sub.take | apply Sub.skip))) ?_
  refine lstepB rfl rfl rfl (run_call1 cb25 (.cons (.tmp rfl) .nil) (fun w hS => awOdd (hS.mem (by repeat (first | exact List.Mem.head _ | apply List.Mem.tail))))) ?_
  refine lstepB rfl rfl rfl (run_move (.tmp rfl)) ?_
  refine lstepB rfl rfl rfl (run_extract (.tmp rfl) rfl) ?_
  refine lstepB rfl rfl rfl (run_extract (.tmp rfl) rfl) ?_
  refine lstepB rfl rfl rfl (run_assign (.tmp rfl)) ?_
  refine lstepB rfl rfl rfl (run_assign (.tmp rfl)) ?_
  refine lnil ?_
  refine xw_then ?_
  refine cw_seq ?_
  refine cw_seq ?_
  refine cw_chain2 (σ := [0, 1, 2, 3, 4, 5, 6, 7, 8, 9, 10, 11, 12, 13, 14, 15, 16, 17, 18, 19, 20, 21, 22, 23, 24, 25, 26, 27, 28, 29, 30, 31, 32, 33, 34, 35, 36, 37, 38, 39, 40, 41, 42, 43, 44, 45]) [⟨0, [12], [], [], 0⟩, ⟨0, [], [], [], 0⟩, ⟨0, [], [], [], 3⟩, ⟨0, [], [], [], 7⟩, ⟨0, [], [], [], 15⟩, ⟨0, [], [], [], 31⟩, ⟨0, [], [], [], 63⟩, ⟨0, [], [], [], 127⟩, ⟨0, [10], [], [], 255⟩, ⟨0, [], [], [], 255⟩, ⟨0, [], [], [], 1023⟩, ⟨0, [], [], [], 2047⟩, ⟨0, [], [], [], 4095⟩, ⟨0, [9], [], [], 8191⟩, ⟨0, [], [], [], 8191⟩, ⟨0, [], [], [], 32767⟩, ⟨0, [], [], [], 65535⟩, ⟨0, [], [], [], 131071⟩, ⟨0, [8], [], [], 262143⟩, ⟨0, [], [], [], 262143⟩, ⟨0, [], [], [], 1048575⟩, ⟨0, [], [], [], 2097151⟩, ⟨0, [], [], [], 4194303⟩, ⟨0, [], [], [], 8388607⟩, ⟨0, [], [], [], 16777215⟩, ⟨0, [], [], [], 33554431⟩, ⟨0, [], [], [], 67108863⟩, ⟨0, [], [], [], 134217727⟩, ⟨0, [], [], [], 268435455⟩, ⟨0, [], [], [], 536870911⟩, ⟨0, [], [], [], 1073741823⟩, ⟨0, [], [], [], 2147483647⟩, ⟨0, [], [], [], 4294967295⟩, ⟨0, [], [], [], 8589934591⟩, ⟨0, [], [], [], 17179869183⟩, ⟨0, [], [], [], 34359738367⟩, ⟨0, [], [], [], 68719476735⟩, ⟨0, [], [], [], 137438953471⟩, ⟨0, [], [], [], 274877906943⟩, ⟨0, [], [], [], 549755813887⟩, ⟨0, [], [], [], 1099511627775⟩, ⟨0, [], [], [], 2199023255551⟩, ⟨0, [], [], [], 4398046511103⟩, ⟨0, [], [], [], 8796093022207⟩, ⟨0, [], [], [], 17592186044415⟩, ⟨0, [], [], [], 35184372088831⟩] [(0, _), (1, _), (2, _), (3, _), (4, _), (5, _), (6, _), (7, _), (8, _), (9, _), (10, _), (11, _), (12, _), (13, _)] (by kernel_rfl) (by kernel_rfl) rfl ?_
  refine .det (B := []) rfl rfl (.inl rfl) (.cons rfl .nil) .nil rfl (RunB.lr (run_loadN (.tmp rfl) kd28 sz28 (by repeat (first | exact List.Mem.head _ | apply List.Mem.tail)) (by repeat (first | exact Sub.done | apply Sub.take | apply Sub.skip)))) ?_
  refine .det (B := []) rfl rfl (.inl rfl) .nil .nil rfl (RunB.lr (run_call1 cb31 (.cons .const (.cons .const .nil)) (fun w _ => spanLK _ _ w))) ?_
  refine .det (B := []) rfl rfl (.inl rfl) .nil .nil rfl (RunB.lr (run_eql_agg (.tmp rfl) (.tmp rfl) eg28 (neq28 (by first | exact (show _ = true from by simp only [Bool.and_eq_true, decide_eq_true_eq]; omega) | exact (show _ = false from by simp only [Bool.and_eq_false_iff, decide_eq_false_iff_not]; omega) | exact rfl)))) ?_
  refine .det (B := []) rfl rfl (.inl rfl) .nil .nil rfl (RunB.lr (run_move (.tmp rfl))) ?_
  refine .det (B := []) rfl rfl (.inr ⟨_, _, _, rfl, rfl, rfl⟩) .nil .nil rfl (RunB.lr (run_move (.tmp rfl))) ?_
  refine .det (B := []) rfl rfl (.inr ⟨_, _, _, rfl, rfl, rfl⟩) .nil .nil rfl (RunB.lr (run_neq (.tmp rfl) .const (by first | exact decide_eq_true (by omega) | exact decide_eq_false (by omega) | exact rfl))) ?_
  refine .det (B := []) rfl rfl (.inl rfl) .nil .nil rfl (RunB.lr (by first | exact run_pick_true (.tmp rfl) .const | exact run_pick_false (.tmp rfl) (.tmp rfl))) ?_
  refine .det (B := []) rfl rfl (.inl rfl) .nil .nil rfl (RunB.lr (run_move (.tmp rfl))) ?_
  refine .det (B := []) rfl rfl (.inr ⟨_, _, _, rfl, rfl, rfl⟩) (.cons rfl .nil) .nil rfl (RunB.lr (run_loadN (.tmp rfl) kd28 sz28 (by repeat (first | exact List.Mem.head _ | apply List.Mem.tail)) (by repeat (first | exact Sub.done | apply Sub.take | apply Sub.skip)))) ?_
  refine .det (B := []) rfl rfl (.inr ⟨_, _, _, rfl, rfl, rfl⟩) .nil .nil rfl (RunB.lr (run_call1 cb31 (.cons .const (.cons .const .nil)) (fun w _ => spanLK _ _ w))) ?_
  refine .det (B := []) rfl rfl (.inr ⟨_, _, _, rfl, rfl, rfl⟩) .nil .nil rfl (RunB.lr (run_eql_agg (.tmp rfl) (.tmp rfl) eg28 (neq28 (by first | exact (show _ = true from by simp only [Bool.and_eq_true, decide_eq_true_eq]; omega) | exact (show _ = false from by simp only [Bool.and_eq_false_iff, decide_eq_false_iff_not]; omega) | exact rfl)))) ?_
  refine .det (B := []) rfl rfl (.inl rfl) .nil .nil rfl (RunB.lr (by first | exact run_pick_true (.tmp rfl) .const | exact run_pick_false (.tmp rfl) (.tmp rfl))) ?_
  refine .det (B := []) rfl rfl (.inl rfl) .nil .nil rfl (RunB.lr (run_move (.tmp rfl))) ?_
  refine .det (B := []) rfl rfl (.inr ⟨_, _, _, rfl, rfl, rfl⟩) (.cons rfl .nil) .nil rfl (RunB.lr (run_loadN (.tmp rfl) kd28 sz28 (by repeat (first | exact List.Mem.head _ | apply List.Mem.tail)) (by repeat (first | exact Sub.done | apply Sub.take | apply Sub.skip)))) ?_
  refine .det (B := []) rfl rfl (.inr ⟨_, _, _, rfl, rfl, rfl⟩) .nil .nil rfl (RunB.lr (run_call1 cb31 (.cons .const (.cons .const .nil)) (fun w _ => spanLK _ _ w))) ?_
  refine .det (B := []) rfl rfl (.inr ⟨_, _, _, rfl, rfl, rfl⟩) .nil .nil rfl (RunB.lr (run_eql_agg (.tmp rfl) (.tmp rfl) eg28 (neq28 (by first | exact (show _ = true from by simp only [Bool.and_eq_true, decide_eq_true_eq]; omega) | exact (show _ = false from by simp only [Bool.and_eq_false_iff, decide_eq_false_iff_not]; omega) | exact rfl)))) ?_
  refine .det (B := []) rfl rfl (.inl rfl) .nil .nil rfl (RunB.lr (by first | exact run_pick_true (.tmp rfl) .const | exact run_pick_false (.tmp rfl) (.tmp rfl))) ?_
  refine .det (B := []) rfl rfl (.inl rfl) .nil .nil rfl (RunB.lr (run_move (.tmp rfl))) ?_
  refine .det (B := []) rfl rfl (.inr ⟨_, _, _, rfl, rfl, rfl⟩) (.cons rfl .nil) .nil rfl (RunB.lr (run_loadN (.tmp rfl) kd28 sz28 (by repeat (first | exact List.Mem.head _ | apply List.Mem.tail)) (by repeat (first | exact Sub.done | apply Sub.take | apply Sub.skip)))) ?_
  refine .det (B := []) rfl rfl (.inr ⟨_, _, _, rfl, rfl, rfl⟩) .nil .nil rfl (RunB.lr (run_call1 cb31 (.cons .const (.cons .const .nil)) (fun w _ => spanLK _ _ w))) ?_
  refine .det (B := []) rfl rfl (.inr ⟨_, _, _, rfl, rfl, rfl⟩) .nil .nil rfl (RunB.lr (run_eql_agg (.tmp rfl) (.tmp rfl) eg28 (neq28 (by first | exact (show _ = true from by simp only [Bool.and_eq_true, decide_eq_true_eq]; omega) | exact (show _ = false from by simp only [Bool.and_eq_false_iff, decide_eq_false_iff_not]; omega) | exact rfl)))) ?_
  refine .det (B := []) rfl rfl (.inl rfl) .nil .nil rfl (RunB.lr (by first | exact run_pick_true (.tmp rfl) .const | exact run_pick_false (.tmp rfl) (.tmp rfl))) ?_
  refine .det (B := []) rfl rfl (.inl rfl) .nil .nil rfl (RunB.lr (run_move (.tmp rfl))) ?_
  refine .det (B := []) rfl rfl (.inr ⟨_, _, _, rfl, rfl, rfl⟩) .nil .nil rfl (RunB.lr (run_move (.tmp rfl))) ?_
  refine .det (B := []) rfl rfl (.inr ⟨_, _, _, rfl, rfl, rfl⟩) .nil .nil rfl (RunB.lr (run_neq (.tmp rfl) .const (by first | exact decide_eq_true (by omega) | exact decide_eq_false (by omega) | exact rfl))) ?_
  refine .det (B := []) rfl rfl (.inl rfl) .nil .nil rfl (RunB.lr (by first | exact run_pick_true (.tmp rfl) .const | exact run_pick_false (.tmp rfl) (.tmp rfl))) ?_
  refine .det (B := []) rfl rfl (.inl rfl) .nil .nil rfl (RunB.lr (run_move (.tmp rfl))) ?_
  refine .det (B := []) rfl rfl (.inr ⟨_, _, _, rfl, rfl, rfl⟩) .nil .nil rfl (RunB.lr (run_move (.tmp rfl))) ?_
  refine .det (B := []) rfl rfl (.inr ⟨_, _, _, rfl, rfl, rfl⟩) .nil .nil rfl (RunB.lr (run_neq (.tmp rfl) .const (by first | exact decide_eq_true (by omega) | exact decide_eq_false (by omega) | exact rfl))) ?_
  refine .det (B := []) rfl rfl (.inl rfl) .nil .nil rfl (RunB.lr (by first | exact run_pick_true (.tmp rfl) .const | exact run_pick_false (.tmp rfl) (.tmp rfl))) ?_
  refine .det (B := []) rfl rfl (.inl rfl) .nil .nil rfl (RunB.lr (run_move (.tmp rfl))) ?_
  refine .det (B := []) rfl rfl (.inr ⟨_, _, _, rfl, rfl, rfl⟩) .nil .nil rfl (RunB.lr (run_move (.tmp rfl))) ?_
  refine .det (B := []) rfl rfl (.inr ⟨_, _, _, rfl, rfl, rfl⟩) .nil .nil rfl (RunB.lr (run_neq (.tmp rfl) .const (by first | exact decide_eq_true (by omega) | exact decide_eq_false (by omega) | exact rfl))) ?_
  refine .det (B := []) rfl rfl (.inl rfl) .nil .nil rfl (RunB.lr (by first | exact run_pick_true (.tmp rfl) .const | exact run_pick_false (.tmp rfl) (.tmp rfl))) ?_
  refine .det (B := []) rfl rfl (.inl rfl) .nil .nil rfl (RunB.lr (run_move (.tmp rfl))) ?_
  refine .det (B := []) rfl rfl (.inr ⟨_, _, _, rfl, rfl, rfl⟩) .nil .nil rfl (RunB.lr (run_move (.tmp rfl))) ?_
  refine .det (B := []) rfl rfl (.inr ⟨_, _, _, rfl, rfl, rfl⟩) .nil .nil rfl (RunB.lr (run_neq (.tmp rfl) .const (by first | exact decide_eq_true (by omega) | exact decide_eq_false (by omega) | exact rfl))) ?_
  refine .det (B := []) rfl rfl (.inl rfl) .nil .nil rfl (RunB.lr (by first | exact run_pick_true (.tmp rfl) .const | exact run_pick_false (.tmp rfl) (.tmp rfl))) ?_
  refine .det (B := []) rfl rfl (.inl rfl) .nil .nil rfl (RunB.lr (run_move (.tmp rfl))) ?_
  refine .det (B := []) rfl rfl (.inr ⟨_, _, _, rfl, rfl, rfl⟩) .nil .nil rfl (RunB.lr (run_move (.tmp rfl))) ?_
  refine .det (B := []) rfl rfl (.inr ⟨_, _, _, rfl, rfl, rfl⟩) .nil .nil rfl (RunB.lr (run_neq (.tmp rfl) .const (by first | exact decide_eq_true (by omega) | exact decide_eq_false (by omega) | exact rfl))) ?_
  refine .det (B := []) rfl rfl (.inl rfl) .nil .nil rfl (RunB.lr (by first | exact run_pick_true (.tmp rfl) .const | exact run_pick_false (.tmp rfl) (.tmp rfl))) ?_
  refine .det (B := []) rfl rfl (.inl rfl) .nil .nil rfl (RunB.lr (run_move (.tmp rfl))) ?_
  refine .det (B := []) rfl rfl (.inr ⟨_, _, _, rfl, rfl, rfl⟩) .nil .nil rfl (RunB.lr (run_move (.tmp rfl))) ?_
  refine .det (B := []) rfl rfl (.inr ⟨_, _, _, rfl, rfl, rfl⟩) .nil .nil rfl (RunB.lr (run_neq (.tmp rfl) .const (by first | exact decide_eq_true (by omega) | exact decide_eq_false (by omega) | exact rfl))) ?_
  refine .det (B := []) rfl rfl (.inl rfl) .nil .nil rfl (RunB.lr (by first | exact run_pick_true (.tmp rfl) .const | exact run_pick_false (.tmp rfl) (.tmp rfl))) ?_
  refine chain_nil (ts := [0, 1, 2, 3, 4, 5, 6, 7, 8, 9, 10, 11, 12, 13]) (.cons rfl (.cons rfl (.cons rfl (.cons rfl (.cons rfl (.cons rfl (.cons rfl (.cons rfl (.cons rfl (.cons rfl (.cons rfl (.cons rfl (.cons rfl (.cons rfl .nil)))))))))))))) (by decide) ?_
  refine xw_then ?_
  refine cw_cond_false (.tmp rfl) ?_
  refine cw_skip ?_
  refine xw_then ?_
  refine cw_seq ?_
  refine cw_chain2 (σ := [0, 1, 2, 3, 4, 5, 6, 7, 8, 9, 10, 11, 12, 13, 14, 15, 16, 17, 18, 19, 20, 21, 22, 23, 24, 25, 26, 27]) [⟨0, [4], [], [], 0⟩, ⟨0, [], [], [], 0⟩, ⟨0, [], [], [], 3⟩, ⟨0, [], [], [], 7⟩, ⟨0, [], [], [], 15⟩, ⟨0, [], [], [], 31⟩, ⟨0, [], [], [], 63⟩, ⟨0, [], [], [], 127⟩, ⟨0, [], [], [], 255⟩, ⟨0, [], [], [], 511⟩, ⟨0, [], [], [], 1023⟩, ⟨0, [], [], [], 2047⟩, ⟨0, [], [], [], 4095⟩, ⟨0, [], [], [], 8191⟩, ⟨0, [], [], [], 16383⟩, ⟨0, [], [], [], 32767⟩, ⟨0, [], [], [], 65535⟩, ⟨0, [], [], [], 131071⟩, ⟨0, [], [], [], 262143⟩, ⟨0, [], [], [], 524287⟩, ⟨0, [], [], [], 1048575⟩, ⟨0, [], [], [], 2097151⟩, ⟨0, [], [], [], 4194303⟩, ⟨0, [], [], [], 8388607⟩, ⟨0, [], [], [], 16777215⟩, ⟨0, [], [], [], 33554431⟩, ⟨0, [], [], [], 67108863⟩, ⟨0, [], [], [], 134217727⟩] [(0, _), (1, _), (2, _), (3, _), (4, _), (5, _), (6, _), (7, _), (8, _), (9, _), (10, _), (11, _), (12, _), (13, _)] (by kernel_rfl) (by kernel_rfl) rfl ?_
  refine .det (B := []) rfl rfl (.inl rfl) (.cons rfl .nil) .nil rfl (RunB.lr (run_loadN (.tmp rfl) kd28 sz28 (by repeat (first | exact List.Mem.head _ | apply List.Mem.tail)) (by repeat (first | exact Sub.done | apply Sub.take | apply Sub.skip)))) ?_
  refine .det (B := []) rfl rfl (.inl rfl) .nil .nil rfl (RunB.lr (run_call1 cb31 (.cons .const (.cons .const .nil)) (fun w _ => spanLK _ _ w))) ?_
  refine .det (B := []) rfl rfl (.inl rfl) .nil .nil rfl (RunB.lr (run_eql_agg (.tmp rfl) (.tmp rfl) eg28 (eql28 (by first | exact (show _ = true from by simp only [Bool.and_eq_true, decide_eq_true_eq]; omega) | exact (show _ = false from by simp only [Bool.and_eq_false_iff, decide_eq_false_iff_not]; omega) | exact rfl)))) ?_
  refine .det (B := []) rfl rfl (.inl rfl) .nil .nil rfl (RunB.lr (run_move (.tmp rfl))) ?_
  refine .det (B := []) rfl rfl (.inr ⟨_, _, _, rfl, rfl, rfl⟩) .nil .nil rfl (RunB.lr (run_move (.tmp rfl))) ?_
  refine .det (B := []) rfl rfl (.inr ⟨_, _, _, rfl, rfl, rfl⟩) .nil .nil rfl (RunB.lr (run_eql (.tmp rfl) .const (by first | exact decide_eq_true (by omega) | exact decide_eq_false (by omega) | exact rfl))) ?_
  refine .det (B := []) rfl rfl (.inl rfl) .nil .nil rfl (RunB.lr (by first | exact run_pick_true (.tmp rfl) (.tmp rfl) | exact run_pick_false (.tmp rfl) .const)) ?_
  refine .det (B := []) rfl rfl (.inl rfl) .nil .nil rfl (RunB.lr (run_move (.tmp rfl))) ?_
  refine .det (B := []) rfl rfl (.inr ⟨_, _, _, rfl, rfl, rfl⟩) .nil .nil rfl (RunB.lr (run_move (.tmp rfl))) ?_
  refine .det (B := []) rfl rfl (.inr ⟨_, _, _, rfl, rfl, rfl⟩) .nil .nil rfl (RunB.lr (run_eql (.tmp rfl) .const (by first | exact decide_eq_true (by omega) | exact decide_eq_false (by omega) | exact rfl))) ?_
  refine .det (B := []) rfl rfl (.inl rfl) .nil .nil rfl (RunB.lr (by first | exact run_pick_true (.tmp rfl) (.tmp rfl) | exact run_pick_false (.tmp rfl) .const)) ?_
  refine .det (B := []) rfl rfl (.inl rfl) .nil .nil rfl (RunB.lr (run_move (.tmp rfl))) ?_
  refine .det (B := []) rfl rfl (.inr ⟨_, _, _, rfl, rfl, rfl⟩) .nil .nil rfl (RunB.lr (run_move (.tmp rfl))) ?_
  refine .det (B := []) rfl rfl (.inr ⟨_, _, _, rfl, rfl, rfl⟩) .nil .nil rfl (RunB.lr (run_eql (.tmp rfl) .const (by first | exact decide_eq_true (by omega) | exact decide_eq_false (by omega) | exact rfl))) ?_
  refine .det (B := []) rfl rfl (.inl rfl) .nil .nil rfl (RunB.lr (by first | exact run_pick_true (.tmp rfl) (.tmp rfl) | exact run_pick_false (.tmp rfl) .const)) ?_
  refine .det (B := []) rfl rfl (.inl rfl) .nil .nil rfl (RunB.lr (run_move (.tmp rfl))) ?_
  refine .det (B := []) rfl rfl (.inr ⟨_, _, _, rfl, rfl, rfl⟩) .nil .nil rfl (RunB.lr (run_move (.tmp rfl))) ?_
  refine .det (B := []) rfl rfl (.inr ⟨_, _, _, rfl, rfl, rfl⟩) .nil .nil rfl (RunB.lr (run_eql (.tmp rfl) .const (by first | exact decide_eq_true (by omega) | exact decide_eq_false (by omega) | exact rfl))) ?_
  refine .det (B := []) rfl rfl (.inl rfl) .nil .nil rfl (RunB.lr (by first | exact run_pick_true (.tmp rfl) (.tmp rfl) | exact run_pick_false (.tmp rfl) .const)) ?_
  refine .det (B := []) rfl rfl (.inl rfl) .nil .nil rfl (RunB.lr (run_move (.tmp rfl))) ?_
  refine .det (B := []) rfl rfl (.inr ⟨_, _, _, rfl, rfl, rfl⟩) .nil .nil rfl (RunB.lr (run_move (.tmp rfl))) ?_
  refine .det (B := []) rfl rfl (.inr ⟨_, _, _, rfl, rfl, rfl⟩) .nil .nil rfl (RunB.lr (run_eql (.tmp rfl) .const (by first | exact decide_eq_true (by omega) | exact decide_eq_false (by omega) | exact rfl))) ?_
  refine .det (B := []) rfl rfl (.inl rfl) .nil .nil rfl (RunB.lr (by first | exact run_pick_true (.tmp rfl) (.tmp rfl) | exact run_pick_false (.tmp rfl) .const)) ?_
  refine .det (B := []) rfl rfl (.inl rfl) .nil .nil rfl (RunB.lr (run_move (.tmp rfl))) ?_
  refine .det (B := []) rfl rfl (.inr ⟨_, _, _, rfl, rfl, rfl⟩) .nil .nil rfl (RunB.lr (run_move (.tmp rfl))) ?_
  refine .det (B := []) rfl rfl (.inr ⟨_, _, _, rfl, rfl, rfl⟩) .nil .nil rfl (RunB.lr (run_eql (.tmp rfl) .const (by first | exact decide_eq_true (by omega) | exact decide_eq_false (by omega) | exact rfl))) ?_
  refine .det (B := []) rfl rfl (.inl rfl) .nil .nil rfl (RunB.lr (by first | exact run_pick_true (.tmp rfl) (.tmp rfl) | exact run_pick_false (.tmp rfl) .const)) ?_
  refine .det (B := []) rfl rfl (.inl rfl) .nil .nil rfl (RunB.lr (run_assign (.tmp rfl))) ?_
  refine chain_nil (ts := [0, 1, 2, 3, 4, 5, 6, 7, 8, 9, 10, 11, 12, 13]) (.cons rfl (.cons rfl (.cons rfl (.cons rfl (.cons rfl (.cons rfl (.cons rfl (.cons rfl (.cons rfl (.cons rfl (.cons rfl (.cons rfl (.cons rfl (.cons rfl .nil)))))))))))))) (by decide) ?_
  refine xw_then ?_
  refine cw_ret ?_
  refine xw_ret1 Try.results12 rfl (fun w hS => ⟨rfl, hS.kept⟩)
end Go.Proofs.Ytfmbnobkenngaaa
