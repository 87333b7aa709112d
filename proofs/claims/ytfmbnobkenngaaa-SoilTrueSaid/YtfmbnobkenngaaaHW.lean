/- Soil: a ground is made. -/
import Derived.Test.YtfmbnobkenngaaaHV
namespace Go.Proofs.Ytfmbnobkenngaaa
open Go.RowKit En

set_option maxRecDepth 100000 in
set_option maxHeartbeats 4000000 in
theorem madeK (bx dC pb po cap : Nat) (l : List Int) (w : World) (hC : w.heap[dC]? = some (cntO 0)) (hD : DrawOk w bx dC pb po cap l) : CallsF Try.prog 27 (([drawV dC bx] : List Value)).toArray w fun e w' => ∃ m : MOut, (Truly m.g m.L ∧ InRow 4 m.L.length m.r.2.1 m.r.2.2 (plsC m.L) ∧ match m.o with | none => m.g.pits = [] | some u => 0 < m.g.pits.length ∧ InRow 9 m.g.pits.length u.2.1 u.2.2 (pitsC m.g.pits)) ∧ e = .returned (.tuple #[.agg [.int .i64 m.g.long, .int .i64 m.g.rise, .int .i64 m.g.change, (match m.o with | none => .slice none 0 0 | some u => .slice (some ⟨u.1, 0, none⟩) m.g.pits.length u.2.1)].toArray, .slice (some ⟨m.r.1, 0, none⟩) m.L.length m.r.2.1]) ∧ Tr w w' [(dC, cntO 0)] ((dC, cntO m.k) :: (m.r.1, Obj.cells m.r.2.2.toArray 50 (0, 0)) :: match m.o with | none => [] | some u => [(u.1, Obj.cells u.2.2.toArray 55 (0, 0))]) := by
  refine enterT (n := 140) (b := dC) (o := cntO 0) Try.func27 rfl rfl rfl (by repeat (first | exact Fill.nil | apply Fill.cons)) hC ?_
  refine cw_seq ?_
  refine cw_region ?_
  refine lstep rfl rfl rfl (run_box1 (.tmp rfl) rfl) ?_
  intro b1 _
  refine lstep rfl rfl rfl (run_alloc zr24) ?_
  intro b2 _
  refine lstepB rfl rfl rfl (run_assign .const) ?_
  refine lnil ?_
  refine xw_then ?_
  refine cw_seq ?_
  refine cw_chain2 (σ := [0, 2, 4, 1, 6, 3, 5, 7, 8, 9, 10, 11]) [⟨0, [1], [], [], 0⟩, ⟨1, [], [2], [2], 1⟩, ⟨0, [1], [], [], 0⟩, ⟨1, [], [2], [2], 7⟩, ⟨0, [1], [], [], 0⟩, ⟨1, [], [2], [2], 31⟩, ⟨0, [], [], [], 3⟩, ⟨0, [], [0], [0], 127⟩, ⟨0, [], [], [], 255⟩, ⟨0, [], [0], [0], 511⟩, ⟨0, [], [], [], 1023⟩, ⟨0, [], [0], [0], 2047⟩] [(0, _), (1, _), (2, _)] (by kernel_rfl) (by kernel_rfl) rfl ?_
  refine .det (B := []) rfl rfl (.inl rfl) (.cons rfl .nil) .nil rfl (RunB.lr (run_load1 (.tmp rfl) kd47 (by repeat (first | exact List.Mem.head _ | apply List.Mem.tail)) (by exact rfl))) ?_
  refine .det (B := []) rfl rfl (.inl rfl) (.cons rfl .nil) .nil rfl (RunB.lr (run_load1 (.tmp rfl) kd47 (by repeat (first | exact List.Mem.head _ | apply List.Mem.tail)) (by exact rfl))) ?_
  refine .det (B := []) rfl rfl (.inl rfl) (.cons rfl .nil) .nil rfl (RunB.lr (run_load1 (.tmp rfl) kd47 (by repeat (first | exact List.Mem.head _ | apply List.Mem.tail)) (by exact rfl))) ?_
  refine .ext (B := fun _ => [(2, (dC, cntO (0 + 1)))]) rfl rfl (.inl rfl) .nil (.cons rfl .nil) (fun _ => rfl) ⟨0, by omega, by omega⟩ (lr_callv (F := fun r : Int => 0 ≤ r ∧ r < 13) (r := fun r => .int .i64 r) (A := [(dC, cntO (0))]) (B := fun _ => [(dC, cntO (0 + 1))]) cb74 (.tmp rfl) (.cons .const .nil) rfl (fun w2 hS hA => drawK 13 (0) bx dC pb po cap l w2 (by omega) (by omega) (hA (dC, cntO (0)) (by simp)) (hD.kept hS))) ?_
  rintro r ⟨r0, r1⟩
  refine .det (B := []) rfl rfl (.inl rfl) .nil .nil rfl (RunB.lr (run_fieldAddr (.tmp rfl) fa24_0 (by first | exact Nat.zero_add _ | exact rfl))) ?_
  refine .ext (B := fun _ => [(2, (dC, cntO ((0 + 1) + 1)))]) rfl rfl (.inl rfl) .nil (.cons rfl .nil) (fun _ => rfl) ⟨0, by omega, by omega⟩ (lr_callv (F := fun r : Int => 0 ≤ r ∧ r < 60) (r := fun r => .int .i64 r) (A := [(dC, cntO ((0 + 1)))]) (B := fun _ => [(dC, cntO ((0 + 1) + 1))]) cb74 (.tmp rfl) (.cons .const .nil) rfl (fun w2 hS hA => drawK 60 ((0 + 1)) bx dC pb po cap l w2 (by omega) (by omega) (hA (dC, cntO ((0 + 1))) (by simp)) (hD.kept hS))) ?_
  rintro z ⟨z0, z1⟩
  refine .ext (B := fun _ => [(2, (dC, cntO (((0 + 1) + 1) + 1)))]) rfl rfl (.inl rfl) .nil (.cons rfl .nil) (fun _ => rfl) ⟨0, by omega, by omega⟩ (lr_callv (F := fun r : Int => 0 ≤ r ∧ r < 4) (r := fun r => .int .i64 r) (A := [(dC, cntO (((0 + 1) + 1)))]) (B := fun _ => [(dC, cntO (((0 + 1) + 1) + 1))]) cb74 (.tmp rfl) (.cons .const .nil) rfl (fun w2 hS hA => drawK 4 (((0 + 1) + 1)) bx dC pb po cap l w2 (by omega) (by omega) (hA (dC, cntO (((0 + 1) + 1))) (by simp)) (hD.kept hS))) ?_
  rintro y ⟨y0, y1⟩
  refine .det (B := [(0, (_, _))]) rfl rfl (.inl rfl) .nil (.cons rfl .nil) rfl (lr_store1 (.tmp rfl) (.tmp rfl) rfl sz3 (by repeat (first | exact Put.done | apply Put.put | apply Put.skip))) ?_
  refine .det (B := []) rfl rfl (.inl rfl) .nil .nil rfl (RunB.lr (run_fieldAddr (.tmp rfl) fa24_1 (by first | exact Nat.zero_add _ | exact rfl))) ?_
  refine .det (B := [(0, (_, _))]) rfl rfl (.inl rfl) .nil (.cons rfl .nil) rfl (lr_store1 (.tmp rfl) (.tmp rfl) rfl sz3 (by repeat (first | exact Put.done | apply Put.put | apply Put.skip))) ?_
  refine .det (B := []) rfl rfl (.inl rfl) .nil .nil rfl (RunB.lr (run_fieldAddr (.tmp rfl) fa24_2 (by first | exact Nat.zero_add _ | exact rfl))) ?_
  refine .det (B := [(0, (_, _))]) rfl rfl (.inl rfl) .nil (.cons rfl .nil) rfl (lr_store1 (.tmp rfl) (.tmp rfl) rfl sz3 (by repeat (first | exact Put.done | apply Put.put | apply Put.skip))) ?_
  refine chain_nil (ts := [0, 1, 2]) (.cons rfl (.cons rfl (.cons rfl .nil))) (by decide) ?_
  refine xw_then ?_
  refine cw_seq ?_
  refine cw_chain2 (σ := [0, 3, 1, 2, 4, 5, 6, 7]) [⟨0, [1], [], [], 0⟩, ⟨1, [], [2], [2], 1⟩, ⟨0, [], [], [], 3⟩, ⟨0, [1], [], [], 0⟩, ⟨1, [], [2], [2], 11⟩, ⟨0, [], [], [], 31⟩, ⟨2, [], [], [3], 0⟩, ⟨0, [], [3], [3], 127⟩] [(0, _), (1, _), (2, _)] (by kernel_rfl) (by kernel_rfl) rfl ?_
  refine .det (B := []) rfl rfl (.inl rfl) (.cons rfl .nil) .nil rfl (RunB.lr (run_load1 (.tmp rfl) kd47 (by repeat (first | exact List.Mem.head _ | apply List.Mem.tail)) (by exact rfl))) ?_
  refine .det (B := []) rfl rfl (.inl rfl) (.cons rfl .nil) .nil rfl (RunB.lr (run_load1 (.tmp rfl) kd47 (by repeat (first | exact List.Mem.head _ | apply List.Mem.tail)) (by exact rfl))) ?_
  refine .ext (B := fun _ => [(2, (dC, cntO ((((0 + 1) + 1) + 1) + 1)))]) rfl rfl (.inl rfl) .nil (.cons rfl .nil) (fun _ => rfl) ⟨0, by omega, by omega⟩ (lr_callv (F := fun r : Int => 0 ≤ r ∧ r < 600) (r := fun r => .int .i64 r) (A := [(dC, cntO ((((0 + 1) + 1) + 1)))]) (B := fun _ => [(dC, cntO ((((0 + 1) + 1) + 1) + 1))]) cb74 (.tmp rfl) (.cons .const .nil) rfl (fun w2 hS hA => drawK 600 ((((0 + 1) + 1) + 1)) bx dC pb po cap l w2 (by omega) (by omega) (hA (dC, cntO ((((0 + 1) + 1) + 1))) (by simp)) (hD.kept hS))) ?_
  rintro e ⟨e0, e1⟩
  refine .det (B := []) rfl rfl (.inl rfl) .nil .nil rfl (RunB.lr (run_add .const (.tmp rfl) (by first | exact IntWalk.i64_in _ (by omega) | exact rfl))) ?_
  refine .ext (B := fun _ => [(2, (dC, cntO (((((0 + 1) + 1) + 1) + 1) + 1)))]) rfl rfl (.inl rfl) .nil (.cons rfl .nil) (fun _ => rfl) ⟨0, by omega, by omega⟩ (lr_callv (F := fun r : Int => 0 ≤ r ∧ r < 21) (r := fun r => .int .i64 r) (A := [(dC, cntO (((((0 + 1) + 1) + 1) + 1)))]) (B := fun _ => [(dC, cntO (((((0 + 1) + 1) + 1) + 1) + 1))]) cb74 (.tmp rfl) (.cons .const .nil) rfl (fun w2 hS hA => drawK 21 (((((0 + 1) + 1) + 1) + 1)) bx dC pb po cap l w2 (by omega) (by omega) (hA (dC, cntO (((((0 + 1) + 1) + 1) + 1))) (by simp)) (hD.kept hS))) ?_
  rintro f ⟨f0, f1⟩
  refine .det (B := []) rfl rfl (.inl rfl) .nil .nil rfl (RunB.lr (run_build_at (.cons (.tmp rfl) (.cons (.tmp rfl) .nil)) (fun w => bd50_0_1 w))) ?_
  refine .flo rfl rfl rfl (.alloc rfl zr50) trivial rfl rfl rfl ?_
  intro b4
  refine .det (B := [(3, (_, _))]) rfl rfl (.inl rfl) .nil (.cons rfl .nil) rfl (lr_storeN (.tmp rfl) (.tmp rfl) rfl sz50 rfl (by repeat (first | exact Put.done | apply Put.put | apply Put.skip))) ?_
  refine chain_nil (ts := [3, 0, 1, 2]) (.cons rfl (.cons rfl (.cons rfl (.cons rfl .nil)))) (by decide) ?_
  refine xw_then ?_
  refine cw_seq ?_
  refine cw_region ?_
  refine lstepB rfl rfl rfl (run_load1 (.tmp rfl) kd47 (by repeat (first | exact List.Mem.head _ | apply List.Mem.tail)) (by exact rfl)) ?_
  refine lstepB rfl rfl rfl (run_fieldAddr (.tmp rfl) fa50_1 (by first | exact Nat.zero_add _ | exact rfl)) ?_
  refine lstepB rfl rfl rfl (run_load1 (.tmp rfl) kd3 (by repeat (first | exact List.Mem.head _ | apply List.Mem.tail)) (by exact rfl)) ?_
  refine lstepB rfl rfl rfl (run_sub .const (.tmp rfl) (by first | exact IntWalk.i64_in _ (by omega) | exact rfl)) ?_
  refine lstep rfl rfl rfl (LR.runs (R := []) (A := [(dC, _)]) (lr_callv (F := fun r : Int => 0 ≤ r ∧ r < (21 - f)) (r := fun r => .int .i64 r) (A := [(dC, cntO ((((((0 + 1) + 1) + 1) + 1) + 1)))]) (B := fun _ => [(dC, cntO ((((((0 + 1) + 1) + 1) + 1) + 1) + 1))]) cb74 (.tmp rfl) (.cons (.tmp rfl) .nil) rfl (fun w2 hS hA => drawK (21 - f) ((((((0 + 1) + 1) + 1) + 1) + 1)) bx dC pb po cap l w2 (by omega) (by omega) (hA (dC, cntO ((((((0 + 1) + 1) + 1) + 1) + 1))) (by simp)) (hD.kept hS))) (by repeat (first | exact Pick.nil | (apply Pick.cons; focus (repeat (first | exact Del.here | apply Del.there))))) (by repeat (first | exact Dels.nil | (apply Dels.cons; focus (repeat (first | exact Del.here | apply Del.there)))))) ?_
  intro i ⟨i0, i1⟩
  refine lstepB rfl rfl rfl (run_fieldAddr (.tmp rfl) fa50_2 (by first | exact Nat.zero_add _ | exact rfl)) ?_
  refine lstep0 rfl rfl (run_store1 (.tmp rfl) (.tmp rfl) rfl sz3 (by repeat (first | exact Upd.here | apply Upd.there)) (by repeat (first | exact Put.done | apply Put.put | apply Put.skip))) ?_
  refine lnil ?_
  refine xw_then ?_
  refine cw_seq ?_
  refine cw_region ?_
  refine lstepB rfl rfl rfl (run_fieldAddr (.tmp rfl) fa50_1 (by first | exact Nat.zero_add _ | exact rfl)) ?_
  refine lstepB rfl rfl rfl (run_load1 (.tmp rfl) kd3 (by repeat (first | exact List.Mem.head _ | apply List.Mem.tail)) (by exact rfl)) ?_
  refine lstepB rfl rfl rfl (run_sub .const (.tmp rfl) (by first | exact IntWalk.i64_in _ (by omega) | exact rfl)) ?_
  refine lstepB rfl rfl rfl (run_fieldAddr (.tmp rfl) fa50_2 (by first | exact Nat.zero_add _ | exact rfl)) ?_
  refine lstepB rfl rfl rfl (run_load1 (.tmp rfl) kd3 (by repeat (first | exact List.Mem.head _ | apply List.Mem.tail)) (by exact rfl)) ?_
  refine lstepB rfl rfl rfl (run_sub (.tmp rfl) (.tmp rfl) (by first | exact IntWalk.i64_in _ (by omega) | exact rfl)) ?_
  refine lstepB rfl rfl rfl (run_fieldAddr (.tmp rfl) fa50_3 (by first | exact Nat.zero_add _ | exact rfl)) ?_
  refine lstep0 rfl rfl (run_store1 (.tmp rfl) (.tmp rfl) rfl sz3 (by repeat (first | exact Upd.here | apply Upd.there)) (by repeat (first | exact Put.done | apply Put.put | apply Put.skip))) ?_
  refine lnil ?_
  refine xw_then ?_
  refine cw_seq ?_
  refine cw_region ?_
  refine lstepB rfl rfl rfl (En.run_makeFunc .nil (.cons (.tmp rfl) .nil)) ?_
  refine lstepB rfl rfl rfl (run_assign (.tmp rfl)) ?_
  refine lnil ?_
  refine xw_then ?_
  refine cw_seq ?_
  refine cw_seq ?_
  refine cw_region ?_
  refine lstepB rfl rfl rfl (run_fieldAddr (.tmp rfl) fa24_0 (by first | exact Nat.zero_add _ | exact rfl)) ?_
  refine lstepB rfl rfl rfl (run_load1 (.tmp rfl) kd3 (by repeat (first | exact List.Mem.head _ | apply List.Mem.tail)) (by exact rfl)) ?_
  refine lstepB rfl rfl rfl (run_add (.tmp rfl) .const (by first | exact IntWalk.i64_in _ (by omega) | exact rfl)) ?_
  refine lstepB rfl rfl rfl (run_move .const) ?_
  refine lnil ?_
  refine xw_then ?_
  refine cw_block ?_
  have hok0 : okP ⟨200 + e, f, i, 20 - f - i⟩ := by simp only [okP]; omega
  refine cw_loop (S := MadeS) (fun s => [(43, .int .i64 ((s.n : Nat) : Int)), (3, match s.rows with | .zero => .slice none 0 0 | .one r1 => .slice (some ⟨r1.1, 0, none⟩) s.n r1.2.1 | .two r1 _ => .slice (some ⟨r1.1, 0, none⟩) s.n r1.2.1)]) [(1, _), (2, _), (4, _), (5, _), (42, _)] (fun s => (match s.rows with | .zero => [(b2, Obj.cells [.int .i64 r, .int .i64 z, .int .i64 y, .slice none 0 0].toArray 24 (0, 0))] | .one r1 => [(r1.1, Obj.cells r1.2.2.toArray 50 (0, 0)), (b2, Obj.cells [.int .i64 r, .int .i64 z, .int .i64 y, .slice none 0 0].toArray 24 (0, 0))] | .two r1 u => [(r1.1, Obj.cells r1.2.2.toArray 50 (0, 0)), (u.1, Obj.cells u.2.2.toArray 55 (0, 0)), (b2, Obj.cells [.int .i64 r, .int .i64 z, .int .i64 y, (.slice (some ⟨u.1, 0, none⟩) s.m u.2.1)].toArray 24 (0, 0))]) ++ [(b4, Obj.cells [.int .i64 s.h, .int .i64 s.a, .int .i64 s.b, .int .i64 s.c].toArray 50 (0, 0)), (dC, cntO s.k), (b1, Obj.cells [drawV dC bx].toArray 47 (0, 0))]) (fun s => (0 ≤ s.k ∧ s.k ≤ 10 + 20 * (s.n : Int) ∧ (s.n : Int) ≤ r + 1) ∧ okP ⟨s.h, s.a, s.b, s.c⟩ ∧ Made z y s.n s.L s.ps ∧ (0 < s.n → s.L[s.n - 1]? = some ⟨s.h, s.a, s.b, s.c⟩) ∧ match s.rows with | .zero => s.n = 0 ∧ s.L = [] ∧ s.ps = [] ∧ s.m = 0 | .one r1 => 0 < s.n ∧ s.ps = [] ∧ s.m = 0 ∧ InRow 4 s.n r1.2.1 r1.2.2 (plsC s.L) | .two r1 u => 0 < s.n ∧ s.ps.length = s.m ∧ 0 < s.m ∧ InRow 4 s.n r1.2.1 r1.2.2 (plsC s.L) ∧ InRow 9 s.m u.2.1 u.2.2 (pitsC s.ps)) (fun s => (r + 1).toNat - s.n) ⟨0, ((((((0 + 1) + 1) + 1) + 1) + 1) + 1), 200 + e, f, i, 20 - f - i, [], 0, [], .zero⟩ ⟨⟨by simp only; omega, by simp only; omega, by simp only; omega⟩, hok0, .nil, fun h => absurd h (by simp only; omega), rfl, rfl, rfl, rfl⟩ (by repeat (first | exact Less.nil | refine Less.cons rfl ?_)) (by repeat (first | exact Pick.nil | (apply Pick.cons; focus (repeat (first | exact Del.here | apply Del.there))))) ?_
  intro s hs
  obtain ⟨n, k, h, a, b, c, L, m, ps, rows⟩ := s
  obtain ⟨⟨k0, k1, n1⟩, hok, hmd, hlast, hrows⟩ := hs
  dsimp only at k0 k1 n1 hok hmd hlast hrows ⊢
  cases rows
  case zero =>
    dsimp only at hrows ⊢
    obtain ⟨rfl, rfl, rfl, rfl⟩ := hrows
    have hlen := hmd.len
    have hfew := hmd.few
    simp only [okP] at hok
    refine cw_seq ?_
    refine cw_region ?_
    refine lstepB rfl rfl rfl (run_lss (.tmp rfl) (.tmp rfl) rfl) ?_
    refine lnil ?_
    refine xw_then ?_
    refine cw_seq ?_
    refine cw_cond_p (.tmp rfl) (fun hl => ?_) (fun hl => ?_)
    ·
      have hnear : ∀ p, 0 < 0 → ([] : List PlaceD)[0 - 1]? = some p → nearP z y p ⟨h, a, b, c⟩ := fun p h => absurd h (by omega)
      refine cw_skip ?_
      refine xw_then ?_
      refine cw_seq ?_
      refine cw_block ?_
      refine cw_seq ?_
      refine cw_region ?_
      refine lstepB rfl rfl rfl (run_move (.tmp rfl)) ?_
      refine lstepB rfl rfl rfl (run_assign (.tmp rfl)) ?_
      refine lnil ?_
      refine xw_then ?_
      refine cw_seq ?_
      refine cw_seq ?_
      refine cw_region ?_
      refine lstepB rfl rfl rfl (run_move (.tmp rfl)) ?_
      refine lstepB rfl rfl rfl (run_gtr (.tmp rfl) .const (by first | exact decide_eq_true (by omega) | exact decide_eq_false (by omega) | exact rfl)) ?_
      refine lnil ?_
      refine xw_then ?_
      refine cw_cond_false (.tmp rfl) ?_
      refine cw_skip ?_
      refine xw_then ?_
      refine cw_seq ?_
      refine cw_region ?_
      refine lstepB rfl rfl rfl (run_move (.tmp rfl)) ?_
      refine lstepB rfl rfl rfl (run_loadN (.tmp rfl) kd50 sz50 (by repeat (first | exact List.Mem.head _ | apply List.Mem.tail)) (by repeat (first | exact Sub.done | apply Sub.take | apply Sub.skip))) ?_
      refine lstep rfl rfl rfl (LR.runs (lr_buildSlice_at (.cons (.tmp rfl) .nil) (fun w => bs44_1_0 w)) (by repeat (first | exact Pick.nil | (apply Pick.cons; focus (repeat (first | exact Del.here | apply Del.there))))) (by repeat (first | exact Dels.nil | (apply Dels.cons; focus (repeat (first | exact Del.here | apply Del.there)))))) ?_
      intro b103 _
      refine lstep rfl rfl rfl (LR.runs (R := [(b103, _)]) (A := []) (lr_append_nil ap44 (.tmp rfl) (.tmp rfl) (news := plC ⟨h, a, b, c⟩) rfl (by omega) (by omega) (by decide) (news_own (by repeat (first | exact List.Mem.head _ | apply List.Mem.tail)))) (by repeat (first | exact Pick.nil | (apply Pick.cons; focus (repeat (first | exact Del.here | apply Del.there))))) (by repeat (first | exact Dels.nil | (apply Dels.cons; focus (repeat (first | exact Del.here | apply Del.there)))))) ?_
      intro ⟨gY, cgY, rgY⟩ hgY
      dsimp only at hgY ⊢
      have hgrow := hmd.grow (q := ⟨h, a, b, c⟩) (by simp only [okP]; omega) hnear
      have hlast2 := hmd.last (q := ⟨h, a, b, c⟩)
      have hY : InRow 4 (0 + 1) cgY rgY (plsC (([] : List PlaceD) ++ [⟨h, a, b, c⟩])) := by rw [plsC_append]; exact hgY
      refine lstepB rfl rfl rfl (run_assign (.tmp rfl)) ?_
      refine lnil ?_
      refine xw_then ?_
      refine cw_seq ?_
      refine cw_region ?_
      refine lstepB rfl rfl rfl (run_load1 (.tmp rfl) kd47 (by repeat (first | exact List.Mem.head _ | apply List.Mem.tail)) (by exact rfl)) ?_
      refine lstep rfl rfl rfl (LR.runs (R := []) (A := [(dC, _)]) (lr_callv (F := fun r : Int => 0 ≤ r ∧ r < 3) (r := fun r => .int .i64 r) (A := [(dC, cntO (k))]) (B := fun _ => [(dC, cntO (k + 1))]) cb74 (.tmp rfl) (.cons .const .nil) rfl (fun w2 hS hA => drawK 3 (k) bx dC pb po cap l w2 (by omega) (by omega) (hA (dC, cntO (k)) (by simp)) (hD.kept hS))) (by repeat (first | exact Pick.nil | (apply Pick.cons; focus (repeat (first | exact Del.here | apply Del.there))))) (by repeat (first | exact Dels.nil | (apply Dels.cons; focus (repeat (first | exact Del.here | apply Del.there)))))) ?_
      intro g ⟨g0, g1⟩
      by_cases hg : g = 0
      ·
        by_cases h8 : 0 < 8
        ·
          refine lstepB rfl rfl rfl (run_eql (.tmp rfl) .const (by first | exact decide_eq_true (by omega) | exact decide_eq_false (by omega) | exact rfl)) ?_
          refine lstepB rfl rfl rfl (run_move (.tmp rfl)) ?_
          refine lyes rfl rfl rfl rfl ?_
          refine gstepB rfl rfl (run_fieldAddr (.tmp rfl) fa24_3 (by first | exact Nat.zero_add _ | exact rfl)) ?_
          refine lyes rfl rfl rfl rfl ?_
          refine gstepB rfl rfl (run_load1 (.tmp rfl) kd22 (by repeat (first | exact List.Mem.head _ | apply List.Mem.tail)) (by exact rfl)) ?_
          refine lyes rfl rfl rfl rfl ?_
          refine gstepB rfl rfl (run_len (.tmp rfl) sl22) ?_
          refine lyes rfl rfl rfl rfl ?_
          refine gstepB rfl rfl (run_lss (.tmp rfl) .const (by first | exact decide_eq_true (by omega) | exact decide_eq_false (by omega) | exact rfl)) ?_
          refine lstepB rfl rfl rfl (by first | exact run_pick_true (.tmp rfl) (.tmp rfl) | exact run_pick_false (.tmp rfl) .const) ?_
          refine lnil ?_
          refine xw_then ?_
          refine cw_cond_true (.tmp rfl) ?_
          refine cw_chain2 (σ := [0, 1, 2, 3, 4, 5, 7, 8, 9, 11, 12, 13, 15, 16, 17, 6, 10, 14, 18, 19, 20, 21, 22, 23]) [⟨0, [], [], [], 0⟩, ⟨0, [3], [], [], 1⟩, ⟨0, [], [], [], 0⟩, ⟨0, [], [], [], 0⟩, ⟨0, [], [], [], 0⟩, ⟨0, [4], [], [], 16⟩, ⟨1, [5], [0], [0], 56⟩, ⟨0, [], [], [], 0⟩, ⟨0, [], [], [], 0⟩, ⟨0, [4], [], [], 256⟩, ⟨1, [5], [0], [0], 1016⟩, ⟨0, [], [], [], 0⟩, ⟨0, [], [], [], 0⟩, ⟨0, [4], [], [], 4096⟩, ⟨1, [5], [0], [0], 16376⟩, ⟨0, [], [], [], 0⟩, ⟨0, [], [], [], 0⟩, ⟨0, [4], [], [], 65536⟩, ⟨1, [5], [0], [0], 262136⟩, ⟨0, [], [], [], 524284⟩, ⟨2, [], [], [6], 1048572⟩, ⟨1, [6], [], [7], 2097151⟩, ⟨0, [], [], [], 4194303⟩, ⟨0, [], [3], [3], 8388607⟩] [(0, _), (1, _), (2, _), (3, _), (4, _), (5, _)] (by kernel_rfl) (by kernel_rfl) rfl ?_
          refine .det (B := []) rfl rfl (.inl rfl) .nil .nil rfl (RunB.lr (run_fieldAddr (.tmp rfl) fa24_3 (by first | exact Nat.zero_add _ | exact rfl))) ?_
          refine .det (B := []) rfl rfl (.inl rfl) (.cons rfl .nil) .nil rfl (RunB.lr (run_load1 (.tmp rfl) kd22 (by repeat (first | exact List.Mem.head _ | apply List.Mem.tail)) (by exact rfl))) ?_
          refine .det (B := []) rfl rfl (.inl rfl) .nil .nil rfl (RunB.lr (run_move (.tmp rfl))) ?_
          refine .det (B := []) rfl rfl (.inl rfl) .nil .nil rfl (RunB.lr (run_move (.tmp rfl))) ?_
          refine .det (B := []) rfl rfl (.inl rfl) .nil .nil rfl (RunB.lr (run_fieldAddr (.tmp rfl) fa50_0 (by first | exact Nat.zero_add _ | exact rfl))) ?_
          refine .det (B := []) rfl rfl (.inl rfl) (.cons rfl .nil) .nil rfl (RunB.lr (run_load1 (.tmp rfl) kd3 (by repeat (first | exact List.Mem.head _ | apply List.Mem.tail)) (by exact rfl))) ?_
          refine .det (B := []) rfl rfl (.inl rfl) .nil .nil rfl (RunB.lr (run_move (.tmp rfl))) ?_
          refine .det (B := []) rfl rfl (.inl rfl) .nil .nil rfl (RunB.lr (run_fieldAddr (.tmp rfl) fa50_1 (by first | exact Nat.zero_add _ | exact rfl))) ?_
          refine .det (B := []) rfl rfl (.inl rfl) (.cons rfl .nil) .nil rfl (RunB.lr (run_load1 (.tmp rfl) kd3 (by repeat (first | exact List.Mem.head _ | apply List.Mem.tail)) (by exact rfl))) ?_
          refine .det (B := []) rfl rfl (.inl rfl) .nil .nil rfl (RunB.lr (run_move (.tmp rfl))) ?_
          refine .det (B := []) rfl rfl (.inl rfl) .nil .nil rfl (RunB.lr (run_fieldAddr (.tmp rfl) fa50_2 (by first | exact Nat.zero_add _ | exact rfl))) ?_
          refine .det (B := []) rfl rfl (.inl rfl) (.cons rfl .nil) .nil rfl (RunB.lr (run_load1 (.tmp rfl) kd3 (by repeat (first | exact List.Mem.head _ | apply List.Mem.tail)) (by exact rfl))) ?_
          refine .det (B := []) rfl rfl (.inl rfl) .nil .nil rfl (RunB.lr (run_move (.tmp rfl))) ?_
          refine .det (B := []) rfl rfl (.inl rfl) .nil .nil rfl (RunB.lr (run_fieldAddr (.tmp rfl) fa50_3 (by first | exact Nat.zero_add _ | exact rfl))) ?_
          refine .det (B := []) rfl rfl (.inl rfl) (.cons rfl .nil) .nil rfl (RunB.lr (run_load1 (.tmp rfl) kd3 (by repeat (first | exact List.Mem.head _ | apply List.Mem.tail)) (by exact rfl))) ?_
          refine .ext (B := fun _ => [(0, (dC, cntO ((k + 1) + 1 + 1)))]) rfl rfl (.inl rfl) (.cons rfl .nil) (.cons rfl .nil) (fun _ => rfl) ⟨⟨h, h⟩, by simp only; omega⟩ (lr_callv (F := fun s : SpanD => 0 ≤ s.lo ∧ s.lo ≤ h ∧ h ≤ s.hi ∧ s.hi ≤ 1000) (r := fun s => .agg [.int .i64 s.lo, .int .i64 s.hi].toArray) (A := [(dC, cntO ((k + 1)))]) (B := fun _ => [(dC, cntO ((k + 1) + 1 + 1))]) cb73 (.tmp rfl) (.cons (.tmp rfl) (.cons .const (.cons .const .nil))) rfl (fun w2 hS hA => aroundK h 30 1000 ((k + 1)) b1 bx dC pb po cap l w2 (by omega) (by omega) (by omega) (by omega) (hA (dC, cntO ((k + 1))) (by simp)) (hD.kept hS) (box_ne (hS.mem (by repeat (first | exact List.Mem.head _ | apply List.Mem.tail))) (hA (dC, cntO ((k + 1))) (by simp))) (own_cell1 (hS.mem (by repeat (first | exact List.Mem.head _ | apply List.Mem.tail)))))) ?_
          rintro s ⟨s0, s1, s2, s3⟩
          refine .ext (B := fun _ => [(0, (dC, cntO (((k + 1) + 1 + 1) + 1 + 1)))]) rfl rfl (.inl rfl) (.cons rfl .nil) (.cons rfl .nil) (fun _ => rfl) ⟨⟨a, a⟩, by simp only; omega⟩ (lr_callv (F := fun s : SpanD => 0 ≤ s.lo ∧ s.lo ≤ a ∧ a ≤ s.hi ∧ s.hi ≤ 20) (r := fun s => .agg [.int .i64 s.lo, .int .i64 s.hi].toArray) (A := [(dC, cntO (((k + 1) + 1 + 1)))]) (B := fun _ => [(dC, cntO (((k + 1) + 1 + 1) + 1 + 1))]) cb73 (.tmp rfl) (.cons (.tmp rfl) (.cons .const (.cons .const .nil))) rfl (fun w2 hS hA => aroundK a 3 20 (((k + 1) + 1 + 1)) b1 bx dC pb po cap l w2 (by omega) (by omega) (by omega) (by omega) (hA (dC, cntO (((k + 1) + 1 + 1))) (by simp)) (hD.kept hS) (box_ne (hS.mem (by repeat (first | exact List.Mem.head _ | apply List.Mem.tail))) (hA (dC, cntO (((k + 1) + 1 + 1))) (by simp))) (own_cell1 (hS.mem (by repeat (first | exact List.Mem.head _ | apply List.Mem.tail)))))) ?_
          rintro s2 ⟨s20, s21, s22, s23⟩
          refine .ext (B := fun _ => [(0, (dC, cntO (((k + 1) + 1 + 1 + 1 + 1) + 1 + 1)))]) rfl rfl (.inl rfl) (.cons rfl .nil) (.cons rfl .nil) (fun _ => rfl) ⟨⟨b, b⟩, by simp only; omega⟩ (lr_callv (F := fun s : SpanD => 0 ≤ s.lo ∧ s.lo ≤ b ∧ b ≤ s.hi ∧ s.hi ≤ 20) (r := fun s => .agg [.int .i64 s.lo, .int .i64 s.hi].toArray) (A := [(dC, cntO (((k + 1) + 1 + 1 + 1 + 1)))]) (B := fun _ => [(dC, cntO (((k + 1) + 1 + 1 + 1 + 1) + 1 + 1))]) cb73 (.tmp rfl) (.cons (.tmp rfl) (.cons .const (.cons .const .nil))) rfl (fun w2 hS hA => aroundK b 3 20 (((k + 1) + 1 + 1 + 1 + 1)) b1 bx dC pb po cap l w2 (by omega) (by omega) (by omega) (by omega) (hA (dC, cntO (((k + 1) + 1 + 1 + 1 + 1))) (by simp)) (hD.kept hS) (box_ne (hS.mem (by repeat (first | exact List.Mem.head _ | apply List.Mem.tail))) (hA (dC, cntO (((k + 1) + 1 + 1 + 1 + 1))) (by simp))) (own_cell1 (hS.mem (by repeat (first | exact List.Mem.head _ | apply List.Mem.tail)))))) ?_
          rintro s3 ⟨s30, s31, s32, s33⟩
          refine .ext (B := fun _ => [(0, (dC, cntO (((k + 1) + 1 + 1 + 1 + 1 + 1 + 1) + 1 + 1)))]) rfl rfl (.inl rfl) (.cons rfl .nil) (.cons rfl .nil) (fun _ => rfl) ⟨⟨c, c⟩, by simp only; omega⟩ (lr_callv (F := fun s : SpanD => 0 ≤ s.lo ∧ s.lo ≤ c ∧ c ≤ s.hi ∧ s.hi ≤ 20) (r := fun s => .agg [.int .i64 s.lo, .int .i64 s.hi].toArray) (A := [(dC, cntO (((k + 1) + 1 + 1 + 1 + 1 + 1 + 1)))]) (B := fun _ => [(dC, cntO (((k + 1) + 1 + 1 + 1 + 1 + 1 + 1) + 1 + 1))]) cb73 (.tmp rfl) (.cons (.tmp rfl) (.cons .const (.cons .const .nil))) rfl (fun w2 hS hA => aroundK c 3 20 (((k + 1) + 1 + 1 + 1 + 1 + 1 + 1)) b1 bx dC pb po cap l w2 (by omega) (by omega) (by omega) (by omega) (hA (dC, cntO (((k + 1) + 1 + 1 + 1 + 1 + 1 + 1))) (by simp)) (hD.kept hS) (box_ne (hS.mem (by repeat (first | exact List.Mem.head _ | apply List.Mem.tail))) (hA (dC, cntO (((k + 1) + 1 + 1 + 1 + 1 + 1 + 1))) (by simp))) (own_cell1 (hS.mem (by repeat (first | exact List.Mem.head _ | apply List.Mem.tail)))))) ?_
          rintro s4 ⟨s40, s41, s42, s43⟩
          refine .det (B := []) rfl rfl (.inl rfl) .nil .nil rfl (RunB.lr (run_build_at (.cons (.tmp rfl) (.cons (.tmp rfl) (.cons (.tmp rfl) (.cons (.tmp rfl) (.cons (.tmp rfl) .nil))))) (fun w => bd55_0_1_2_3_4 w))) ?_
          refine .flo rfl rfl rfl (.lit rfl (.cons (.tmp rfl) .nil) (fun w => bs22_1_0 w)) trivial rfl rfl rfl ?_
          intro b134
          refine .ext (B := fun q => [(7, (q.1, _))]) rfl rfl (.inl rfl) (.cons rfl .nil) .nil (fun _ => rfl) (inrow_some (xs := pitC _) rfl (by decide)) (lr_append_nil ap22 (.tmp rfl) (.tmp rfl) (news := pitC (⟨(0 : Nat), s, s2, s3, s4⟩ : PitD)) rfl (by omega) (by omega) (by decide) (news_own (by repeat (first | exact List.Mem.head _ | apply List.Mem.tail)))) ?_
          rintro ⟨gW, cW, rW⟩ hW
          refine .det (B := []) rfl rfl (.inl rfl) .nil .nil rfl (RunB.lr (run_fieldAddr (.tmp rfl) fa24_3 (by first | exact Nat.zero_add _ | exact rfl))) ?_
          refine .det (B := [(3, (_, _))]) rfl rfl (.inl rfl) .nil (.cons rfl .nil) rfl (lr_store1 (.tmp rfl) (.tmp rfl) rfl sz22 (by repeat (first | exact Put.done | apply Put.put | apply Put.skip))) ?_
          refine chain_nil (ts := [7, 0, 1, 2, 3, 4, 5]) (.cons rfl (.cons rfl (.cons rfl (.cons rfl (.cons rfl (.cons rfl (.cons rfl .nil))))))) (by decide) ?_
          dsimp only at hW ⊢
          have hdig := hmd.dig (p := (⟨(0 : Nat), s, s2, s3, s4⟩ : PitD)) hgrow rfl (by simp only [fitP, spanH]; omega) (by first | omega | (simp only [List.length_nil]; omega))
          have hW2 : InRow 9 (0 + 1) cW rW (pitsC (([] : List PitD) ++ [(⟨(0 : Nat), s, s2, s3, s4⟩ : PitD)])) := by rw [pitsC_append]; exact hW
          have hlw : (([] : List PitD) ++ [(⟨(0 : Nat), s, s2, s3, s4⟩ : PitD)]).length = 0 + 1 := rfl
          refine xw_in ?_
          refine xw_then ?_
          refine cw_region ?_
          refine lstepB rfl rfl rfl (run_add (.tmp rfl) .const (by first | exact IntWalk.i64_in _ (by omega) | exact rfl)) ?_
          refine lstepB rfl rfl rfl (run_move (.tmp rfl)) ?_
          refine lnil ?_
          exact xw_round ⟨0 + 1, ((k + 1) + 1 + 1 + 1 + 1 + 1 + 1 + 1 + 1), h, a, b, c, ([] : List PlaceD) ++ [⟨h, a, b, c⟩], 0 + 1, ([] : List PitD) ++ [(⟨(0 : Nat), s, s2, s3, s4⟩ : PitD)], (.two (gY, cgY, rgY) (gW, cW, rW))⟩ ⟨⟨by simp only; omega, by simp only; omega, by simp only; omega⟩, by simp only [okP]; omega, hdig, fun _ => hlast2, ⟨by simp only; omega, hlw, by simp only; omega, hY, hW2⟩⟩ (by simp only; omega) (by repeat (first | exact Less.nil | refine Less.cons rfl ?_)) (by repeat (first | exact Pick.nil | (apply Pick.cons; focus (repeat (first | exact Del.here | apply Del.there)))))
        ·
          exfalso; omega
      ·
        refine lstepB rfl rfl rfl (run_eql (.tmp rfl) .const (by first | exact decide_eq_true (by omega) | exact decide_eq_false (by omega) | exact rfl)) ?_
        refine lstepB rfl rfl rfl (run_move (.tmp rfl)) ?_
        refine lskip rfl rfl rfl rfl rfl rfl rfl ?_
        refine lskip rfl rfl rfl rfl rfl rfl rfl ?_
        refine lskip rfl rfl rfl rfl rfl rfl rfl ?_
        refine lskip rfl rfl rfl rfl rfl rfl rfl ?_
        refine lstepB rfl rfl rfl (by first | exact run_pick_true (.tmp rfl) (.tmp rfl) | exact run_pick_false (.tmp rfl) .const) ?_
        refine lnil ?_
        refine xw_then ?_
        refine cw_cond_false (.tmp rfl) ?_
        refine cw_skip ?_
        refine xw_in ?_
        refine xw_then ?_
        refine cw_region ?_
        refine lstepB rfl rfl rfl (run_add (.tmp rfl) .const (by first | exact IntWalk.i64_in _ (by omega) | exact rfl)) ?_
        refine lstepB rfl rfl rfl (run_move (.tmp rfl)) ?_
        refine lnil ?_
        exact xw_round ⟨0 + 1, (k + 1), h, a, b, c, ([] : List PlaceD) ++ [⟨h, a, b, c⟩], 0, ([] : List PitD), (.one (gY, cgY, rgY))⟩ ⟨⟨by simp only; omega, by simp only; omega, by simp only; omega⟩, by simp only [okP]; omega, hgrow, fun _ => hlast2, ⟨by simp only; omega, rfl, rfl, hY⟩⟩ (by simp only; omega) (by repeat (first | exact Less.nil | refine Less.cons rfl ?_)) (by repeat (first | exact Pick.nil | (apply Pick.cons; focus (repeat (first | exact Del.here | apply Del.there)))))
    ·
      exfalso; omega
  case one r1 =>
    obtain ⟨gX, cX, rX⟩ := r1
    dsimp only at hrows ⊢
    obtain ⟨npos, rfl, rfl, hX⟩ := hrows
    have hlen := hmd.len
    have hfew := hmd.few
    simp only [okP] at hok
    refine cw_seq ?_
    refine cw_region ?_
    refine lstepB rfl rfl rfl (run_lss (.tmp rfl) (.tmp rfl) rfl) ?_
    refine lnil ?_
    refine xw_then ?_
    refine cw_seq ?_
    refine cw_cond_p (.tmp rfl) (fun hl => ?_) (fun hl => ?_)
    ·
      refine cw_skip ?_
      refine xw_then ?_
      refine cw_seq ?_
      refine cw_block ?_
      refine cw_seq ?_
      refine cw_region ?_
      refine lstepB rfl rfl rfl (run_move (.tmp rfl)) ?_
      refine lstepB rfl rfl rfl (run_assign (.tmp rfl)) ?_
      refine lnil ?_
      refine xw_then ?_
      refine cw_meet (S := MeetS) (fun t => []) [(1, _), (2, _), (3, _), (4, _), (5, _), (6, _), (42, _), (43, _)] (fun t => [(b4, Obj.cells [.int .i64 t.h, .int .i64 t.a, .int .i64 t.b, .int .i64 t.c].toArray 50 (0, 0)), (dC, cntO t.k), (gX, Obj.cells rX.toArray 50 (0, 0)), (b2, Obj.cells [.int .i64 r, .int .i64 z, .int .i64 y, .slice none 0 0].toArray 24 (0, 0)), (b1, Obj.cells [drawV dC bx].toArray 47 (0, 0))]) (fun t => (k ≤ t.k ∧ t.k ≤ k + 4) ∧ okP ⟨t.h, t.a, t.b, t.c⟩ ∧ nearP z y ⟨h, a, b, c⟩ ⟨t.h, t.a, t.b, t.c⟩) (by repeat (first | exact Less.nil | refine Less.cons rfl ?_)) ?_ ?_
      ·
        refine cw_seq ?_
        refine cw_region ?_
        refine lstepB rfl rfl rfl (run_move (.tmp rfl)) ?_
        refine lstepB rfl rfl rfl (run_gtr (.tmp rfl) .const (by first | exact decide_eq_true (by omega) | exact decide_eq_false (by omega) | exact rfl)) ?_
        refine lnil ?_
        refine xw_then ?_
        refine cw_cond_true (.tmp rfl) ?_
        refine cw_seq ?_
        refine cw_chain2 (σ := [0, 1, 2, 3, 4, 5, 6, 9, 10, 7, 8, 11, 12, 13, 14, 15]) [⟨0, [], [], [], 0⟩, ⟨0, [2], [], [], 1⟩, ⟨0, [4], [], [], 0⟩, ⟨0, [], [], [], 0⟩, ⟨0, [1], [], [], 8⟩, ⟨0, [], [], [], 24⟩, ⟨0, [], [], [], 56⟩, ⟨1, [], [3], [3], 124⟩, ⟨0, [], [], [], 255⟩, ⟨0, [], [], [], 0⟩, ⟨0, [1], [], [], 512⟩, ⟨0, [], [], [], 2047⟩, ⟨0, [], [], [], 4095⟩, ⟨0, [], [], [], 8191⟩, ⟨0, [], [], [], 16383⟩, ⟨0, [], [2], [2], 32767⟩] [(0, _), (1, _), (2, _), (3, _), (4, _)] (by kernel_rfl) (by kernel_rfl) rfl ?_
        refine .det (B := []) rfl rfl (.inl rfl) .nil .nil rfl (RunB.lr (run_fieldAddr (.tmp rfl) fa50_0 (by first | exact Nat.zero_add _ | exact rfl))) ?_
        refine .det (B := []) rfl rfl (.inl rfl) (.cons rfl .nil) .nil rfl (RunB.lr (run_load1 (.tmp rfl) kd3 (by repeat (first | exact List.Mem.head _ | apply List.Mem.tail)) (by exact rfl))) ?_
        refine .det (B := []) rfl rfl (.inl rfl) (.cons rfl .nil) .nil rfl (RunB.lr (run_load1 (.tmp rfl) kd47 (by repeat (first | exact List.Mem.head _ | apply List.Mem.tail)) (by exact rfl))) ?_
        refine .det (B := []) rfl rfl (.inl rfl) .nil .nil rfl (RunB.lr (run_fieldAddr (.tmp rfl) fa24_1 (by first | exact Nat.zero_add _ | exact rfl))) ?_
        refine .det (B := []) rfl rfl (.inl rfl) (.cons rfl .nil) .nil rfl (RunB.lr (run_load1 (.tmp rfl) kd3 (by repeat (first | exact List.Mem.head _ | apply List.Mem.tail)) (by exact rfl))) ?_
        refine .det (B := []) rfl rfl (.inl rfl) .nil .nil rfl (RunB.lr (run_mul .const (.tmp rfl) (by first | exact IntWalk.i64_in _ (by omega) | exact rfl))) ?_
        refine .det (B := []) rfl rfl (.inl rfl) .nil .nil rfl (RunB.lr (run_add (.tmp rfl) .const (by first | exact IntWalk.i64_in _ (by omega) | exact rfl))) ?_
        refine .det (B := []) rfl rfl (.inl rfl) .nil .nil rfl (RunB.lr (run_fieldAddr (.tmp rfl) fa24_1 (by first | exact Nat.zero_add _ | exact rfl))) ?_
        refine .det (B := []) rfl rfl (.inl rfl) (.cons rfl .nil) .nil rfl (RunB.lr (run_load1 (.tmp rfl) kd3 (by repeat (first | exact List.Mem.head _ | apply List.Mem.tail)) (by exact rfl))) ?_
        refine .ext (B := fun _ => [(3, (dC, cntO (k + 1)))]) rfl rfl (.inl rfl) .nil (.cons rfl .nil) (fun _ => rfl) ⟨0, by omega, by omega⟩ (lr_callv (F := fun r : Int => 0 ≤ r ∧ r < (2 * z + 1)) (r := fun r => .int .i64 r) (A := [(dC, cntO (k))]) (B := fun _ => [(dC, cntO (k + 1))]) cb74 (.tmp rfl) (.cons (.tmp rfl) .nil) rfl (fun w2 hS hA => drawK (2 * z + 1) (k) bx dC pb po cap l w2 (by omega) (by omega) (hA (dC, cntO (k)) (by simp)) (hD.kept hS))) ?_
        rintro v ⟨v0, v1⟩
        refine .det (B := []) rfl rfl (.inl rfl) .nil .nil rfl (RunB.lr (run_add (.tmp rfl) (.tmp rfl) (by first | exact IntWalk.i64_in _ (by omega) | exact rfl))) ?_
        refine .det (B := []) rfl rfl (.inl rfl) .nil .nil rfl (RunB.lr (run_sub (.tmp rfl) (.tmp rfl) (by first | exact IntWalk.i64_in _ (by omega) | exact rfl))) ?_
        refine .det (B := []) rfl rfl (.inl rfl) .nil .nil rfl (RunB.lr (run_max2 .const (.tmp rfl))) ?_
        refine .det (B := []) rfl rfl (.inl rfl) .nil .nil rfl (RunB.lr (run_min2 .const (.tmp rfl))) ?_
        refine .det (B := []) rfl rfl (.inl rfl) .nil .nil rfl (RunB.lr (run_fieldAddr (.tmp rfl) fa50_0 (by first | exact Nat.zero_add _ | exact rfl))) ?_
        refine .det (B := [(2, (_, _))]) rfl rfl (.inl rfl) .nil (.cons rfl .nil) rfl (lr_store1 (.tmp rfl) (.tmp rfl) rfl sz3 (by repeat (first | exact Put.done | apply Put.put | apply Put.skip))) ?_
        refine chain_nil (ts := [0, 1, 2, 3, 4]) (.cons rfl (.cons rfl (.cons rfl (.cons rfl (.cons rfl .nil))))) (by decide) ?_
        obtain ⟨h2, hh2⟩ : ∃ h2, min 1000 (max 0 (h + v - z)) = h2 := ⟨_, rfl⟩
        rw [hh2]
        refine xw_then ?_
        refine cw_seq ?_
        refine cw_region ?_
        refine lstepB rfl rfl rfl (run_fieldAddr (.tmp rfl) fa50_1 (by first | exact Nat.zero_add _ | exact rfl)) ?_
        refine lstepB rfl rfl rfl (run_fieldAddr (.tmp rfl) fa50_2 (by first | exact Nat.zero_add _ | exact rfl)) ?_
        refine lstepB rfl rfl rfl (run_fieldAddr (.tmp rfl) fa50_3 (by first | exact Nat.zero_add _ | exact rfl)) ?_
        refine lstepB rfl rfl rfl (run_build_at (.cons (.tmp rfl) (.cons (.tmp rfl) (.cons (.tmp rfl) .nil))) (fun w => bd112_0_1_2 w)) ?_
        refine lstep rfl rfl rfl (run_alloc zr112) ?_
        intro b7 _
        refine lstep0 rfl rfl (run_storeN (.tmp rfl) (.tmp rfl) rfl sz112 rfl (by repeat (first | exact Upd.here | apply Upd.there)) (by repeat (first | exact Put.done | apply Put.put | apply Put.skip))) ?_
        refine lnil ?_
        refine xw_then ?_
        refine cw_seq ?_
        refine cw_chain2 (σ := [0, 4, 1, 2, 3, 5, 6, 7, 8, 9]) [⟨0, [5], [], [], 0⟩, ⟨1, [], [4], [4], 1⟩, ⟨0, [], [], [], 3⟩, ⟨0, [0], [], [], 7⟩, ⟨0, [5], [], [], 0⟩, ⟨1, [], [4], [4], 19⟩, ⟨0, [], [], [], 51⟩, ⟨0, [0], [], [], 115⟩, ⟨0, [], [], [], 63⟩, ⟨0, [], [], [], 511⟩] [(0, _), (1, _), (2, _), (3, _), (4, _), (5, _)] (by kernel_rfl) (by kernel_rfl) rfl ?_
        refine .det (B := []) rfl rfl (.inl rfl) (.cons rfl .nil) .nil rfl (RunB.lr (run_load1 (.tmp rfl) kd47 (by repeat (first | exact List.Mem.head _ | apply List.Mem.tail)) (by exact rfl))) ?_
        refine .det (B := []) rfl rfl (.inl rfl) (.cons rfl .nil) .nil rfl (RunB.lr (run_load1 (.tmp rfl) kd47 (by repeat (first | exact List.Mem.head _ | apply List.Mem.tail)) (by exact rfl))) ?_
        refine .ext (B := fun _ => [(4, (dC, cntO ((k + 1) + 1)))]) rfl rfl (.inl rfl) .nil (.cons rfl .nil) (fun _ => rfl) ⟨0, by omega⟩ (lr_callv (F := fun i : Nat => (i : Int) < 3) (r := fun i => .int .i64 (i : Int)) (A := [(dC, cntO ((k + 1)))]) (B := fun _ => [(dC, cntO ((k + 1) + 1))]) cb74 (.tmp rfl) (.cons .const .nil) rfl (fun w2 hS hA => drawN 3 ((k + 1)) bx dC pb po cap l w2 (by omega) (by omega) (hA (dC, cntO ((k + 1))) (by simp)) (hD.kept hS))) ?_
        intro i i1
        refine .det (B := []) rfl rfl (.inl rfl) .nil .nil rfl (RunB.lr (run_indexAddr_arr (i := i) (.tmp rfl) (.tmp rfl) ar112 (by omega) rfl)) ?_
        refine .det (B := []) rfl rfl (.inl rfl) (.cons rfl .nil) .nil rfl (RunB.lr (run_load1 (.tmp rfl) kd111 (by repeat (first | exact List.Mem.head _ | apply List.Mem.tail)) (ptr3 (by omega)))) ?_
        refine .ext (B := fun _ => [(4, (dC, cntO ((k + 1 + 1) + 1)))]) rfl rfl (.inl rfl) .nil (.cons rfl .nil) (fun _ => rfl) ⟨0, by omega⟩ (lr_callv (F := fun i : Nat => (i : Int) < 3) (r := fun i => .int .i64 (i : Int)) (A := [(dC, cntO ((k + 1 + 1)))]) (B := fun _ => [(dC, cntO ((k + 1 + 1) + 1))]) cb74 (.tmp rfl) (.cons .const .nil) rfl (fun w2 hS hA => drawN 3 ((k + 1 + 1)) bx dC pb po cap l w2 (by omega) (by omega) (hA (dC, cntO ((k + 1 + 1))) (by simp)) (hD.kept hS))) ?_
        intro j j1
        refine .det (B := []) rfl rfl (.inl rfl) .nil .nil rfl (RunB.lr (run_indexAddr_arr (i := j) (.tmp rfl) (.tmp rfl) ar112 (by omega) rfl)) ?_
        refine .det (B := []) rfl rfl (.inl rfl) (.cons rfl .nil) .nil rfl (RunB.lr (run_load1 (.tmp rfl) kd111 (by repeat (first | exact List.Mem.head _ | apply List.Mem.tail)) (ptr3 (by omega)))) ?_
        refine .det (B := []) rfl rfl (.inl rfl) .nil .nil rfl (RunB.lr (run_assign (.tmp rfl))) ?_
        refine .det (B := []) rfl rfl (.inl rfl) .nil .nil rfl (RunB.lr (run_assign (.tmp rfl))) ?_
        refine chain_nil (ts := [0, 1, 2, 3, 4, 5]) (.cons rfl (.cons rfl (.cons rfl (.cons rfl (.cons rfl (.cons rfl .nil)))))) (by decide) ?_
        by_cases hij : i = j
        ·
          subst hij
          refine xw_then ?_
          refine cw_seq ?_
          refine cw_region ?_
          refine lstepB rfl rfl rfl (run_move (.tmp rfl)) ?_
          refine lstepB rfl rfl rfl (run_move (.tmp rfl)) ?_
          refine lstepB rfl rfl rfl (run_eq_at (.tmp rfl) (.tmp rfl) (fun w => neq111 (r := false) (by simp) w)) ?_
          refine lnil ?_
          refine xw_then ?_
          refine cw_cond_false (.tmp rfl) ?_
          refine cw_skip ?_
          refine xw_meet ⟨_, _, _, _, _⟩ ?_ (by repeat (first | exact Less.nil | refine Less.cons rfl ?_)) (by repeat (first | exact Pick.nil | (apply Pick.cons; focus (repeat (first | exact Del.here | apply Del.there)))))
          simp only [okP, nearP]
          omega
        ·
          obtain rfl | rfl | rfl : i = 0 ∨ i = 1 ∨ i = 2 := by omega
          all_goals obtain rfl | rfl | rfl : j = 0 ∨ j = 1 ∨ j = 2 := by omega
          all_goals try (exfalso; exact hij rfl)
          all_goals
            refine xw_then ?_
            refine cw_seq ?_
            refine cw_region ?_
            refine lstepB rfl rfl rfl (run_move (.tmp rfl)) ?_
            refine lstepB rfl rfl rfl (run_move (.tmp rfl)) ?_
            refine lstepB rfl rfl rfl (run_eq_at (.tmp rfl) (.tmp rfl) (fun w => neq111 (r := true) (by simp) w)) ?_
            refine lnil ?_
            refine xw_then ?_
            refine cw_cond_true (.tmp rfl) ?_
            refine cw_seq ?_
            refine cw_chain2 (σ := [0, 1, 2, 3, 4, 5, 6, 7, 8, 9]) [⟨0, [], [], [], 0⟩, ⟨0, [], [], [], 1⟩, ⟨0, [3], [], [], 3⟩, ⟨0, [5], [], [], 0⟩, ⟨0, [], [], [], 0⟩, ⟨0, [2], [], [], 16⟩, ⟨0, [], [], [], 48⟩, ⟨1, [], [4], [4], 120⟩, ⟨0, [], [], [], 255⟩, ⟨0, [], [], [], 511⟩] [(0, _), (1, _), (2, _), (3, _), (4, _), (5, _)] (by kernel_rfl) (by kernel_rfl) rfl ?_
            refine .det (B := []) rfl rfl (.inl rfl) .nil .nil rfl (RunB.lr (run_move (.tmp rfl))) ?_
            refine .det (B := []) rfl rfl (.inl rfl) .nil .nil rfl (RunB.lr (run_nilAt (.tmp rfl))) ?_
            refine .det (B := []) rfl rfl (.inl rfl) (.cons rfl .nil) .nil rfl (RunB.lr (run_load1 (.tmp rfl) kd3 (by repeat (first | exact List.Mem.head _ | apply List.Mem.tail)) (by exact rfl))) ?_
            refine .det (B := []) rfl rfl (.inl rfl) (.cons rfl .nil) .nil rfl (RunB.lr (run_load1 (.tmp rfl) kd47 (by repeat (first | exact List.Mem.head _ | apply List.Mem.tail)) (by exact rfl))) ?_
            refine .det (B := []) rfl rfl (.inl rfl) .nil .nil rfl (RunB.lr (run_fieldAddr (.tmp rfl) fa24_2 (by first | exact Nat.zero_add _ | exact rfl))) ?_
            refine .det (B := []) rfl rfl (.inl rfl) (.cons rfl .nil) .nil rfl (RunB.lr (run_load1 (.tmp rfl) kd3 (by repeat (first | exact List.Mem.head _ | apply List.Mem.tail)) (by exact rfl))) ?_
            refine .det (B := []) rfl rfl (.inl rfl) .nil .nil rfl (RunB.lr (run_add (.tmp rfl) .const (by first | exact IntWalk.i64_in _ (by omega) | exact rfl))) ?_
            refine .ext (B := fun _ => [(4, (dC, cntO ((k + 1 + 1 + 1) + 1)))]) rfl rfl (.inl rfl) .nil (.cons rfl .nil) (fun _ => rfl) ⟨0, by omega, by omega⟩ (lr_callv (F := fun r : Int => 0 ≤ r ∧ r < (y + 1)) (r := fun r => .int .i64 r) (A := [(dC, cntO ((k + 1 + 1 + 1)))]) (B := fun _ => [(dC, cntO ((k + 1 + 1 + 1) + 1))]) cb74 (.tmp rfl) (.cons (.tmp rfl) .nil) rfl (fun w2 hS hA => drawK (y + 1) ((k + 1 + 1 + 1)) bx dC pb po cap l w2 (by omega) (by omega) (hA (dC, cntO ((k + 1 + 1 + 1))) (by simp)) (hD.kept hS))) ?_
            rintro x ⟨x0, x1⟩
            refine .det (B := []) rfl rfl (.inl rfl) .nil .nil rfl (RunB.lr (run_min2 (.tmp rfl) (.tmp rfl))) ?_
            refine .det (B := []) rfl rfl (.inl rfl) .nil .nil rfl (RunB.lr (run_assign (.tmp rfl))) ?_
            refine chain_nil (ts := [0, 1, 2, 3, 4, 5]) (.cons rfl (.cons rfl (.cons rfl (.cons rfl (.cons rfl (.cons rfl .nil)))))) (by decide) ?_
            refine xw_then ?_
            refine cw_chain2 (σ := [0, 1, 2, 3, 4, 5, 6, 7, 8, 9, 10, 11, 12, 13, 14, 15]) [⟨0, [], [], [], 0⟩, ⟨0, [], [], [], 0⟩, ⟨0, [], [], [], 0⟩, ⟨0, [], [], [], 4⟩, ⟨0, [3], [], [], 12⟩, ⟨0, [], [], [], 0⟩, ⟨0, [], [], [], 60⟩, ⟨0, [], [], [], 0⟩, ⟨0, [], [], [], 128⟩, ⟨0, [3], [], [], 384⟩, ⟨0, [], [], [], 0⟩, ⟨0, [], [], [], 1920⟩, ⟨0, [], [], [], 1021⟩, ⟨0, [], [3], [3], 5117⟩, ⟨0, [], [], [], 16383⟩, ⟨0, [], [3], [3], 32767⟩] [(0, _), (1, _), (2, _), (3, _), (4, _), (5, _)] (by kernel_rfl) (by kernel_rfl) rfl ?_
            refine .det (B := []) rfl rfl (.inl rfl) .nil .nil rfl (RunB.lr (run_move (.tmp rfl))) ?_
            refine .det (B := []) rfl rfl (.inl rfl) .nil .nil rfl (RunB.lr (run_move (.tmp rfl))) ?_
            refine .det (B := []) rfl rfl (.inl rfl) .nil .nil rfl (RunB.lr (run_move (.tmp rfl))) ?_
            refine .det (B := []) rfl rfl (.inl rfl) .nil .nil rfl (RunB.lr (run_nilAt (.tmp rfl))) ?_
            refine .det (B := []) rfl rfl (.inl rfl) (.cons rfl .nil) .nil rfl (RunB.lr (run_load1 (.tmp rfl) kd3 (by repeat (first | exact List.Mem.head _ | apply List.Mem.tail)) (by exact rfl))) ?_
            refine .det (B := []) rfl rfl (.inl rfl) .nil .nil rfl (RunB.lr (run_move (.tmp rfl))) ?_
            refine .det (B := []) rfl rfl (.inl rfl) .nil .nil rfl (RunB.lr (run_sub (.tmp rfl) (.tmp rfl) (by first | exact IntWalk.i64_in _ (by omega) | exact rfl))) ?_
            refine .det (B := []) rfl rfl (.inl rfl) .nil .nil rfl (RunB.lr (run_move (.tmp rfl))) ?_
            refine .det (B := []) rfl rfl (.inl rfl) .nil .nil rfl (RunB.lr (run_nilAt (.tmp rfl))) ?_
            refine .det (B := []) rfl rfl (.inl rfl) (.cons rfl .nil) .nil rfl (RunB.lr (run_load1 (.tmp rfl) kd3 (by repeat (first | exact List.Mem.head _ | apply List.Mem.tail)) (by exact rfl))) ?_
            refine .det (B := []) rfl rfl (.inl rfl) .nil .nil rfl (RunB.lr (run_move (.tmp rfl))) ?_
            refine .det (B := []) rfl rfl (.inl rfl) .nil .nil rfl (RunB.lr (run_add (.tmp rfl) (.tmp rfl) (by first | exact IntWalk.i64_in _ (by omega) | exact rfl))) ?_
            refine .det (B := []) rfl rfl (.inl rfl) .nil .nil rfl (RunB.lr (run_nilAt (.tmp rfl))) ?_
            refine .det (B := [(3, (_, _))]) rfl rfl (.inl rfl) .nil (.cons rfl .nil) rfl (lr_store1 (.tmp rfl) (.tmp rfl) rfl sz3 (by repeat (first | exact Put.done | apply Put.put | apply Put.skip))) ?_
            refine .det (B := []) rfl rfl (.inl rfl) .nil .nil rfl (RunB.lr (run_nilAt (.tmp rfl))) ?_
            refine .det (B := [(3, (_, _))]) rfl rfl (.inl rfl) .nil (.cons rfl .nil) rfl (lr_store1 (.tmp rfl) (.tmp rfl) rfl sz3 (by repeat (first | exact Put.done | apply Put.put | apply Put.skip))) ?_
            refine chain_nil (ts := [0, 1, 2, 3, 4, 5]) (.cons rfl (.cons rfl (.cons rfl (.cons rfl (.cons rfl (.cons rfl .nil)))))) (by decide) ?_
            refine xw_meet ⟨_, _, _, _, _⟩ ?_ (by repeat (first | exact Less.nil | refine Less.cons rfl ?_)) (by repeat (first | exact Pick.nil | (apply Pick.cons; focus (repeat (first | exact Del.here | apply Del.there)))))
            simp only [okP, nearP]
            omega
      ·
        intro t ht
        obtain ⟨k2, h2, a2, b2_, c2⟩ := t
        obtain ⟨⟨kk0, kk1⟩, hok2, hn2⟩ := ht
        dsimp only at kk0 kk1 hok2 hn2 ⊢
        have hnear : ∀ p, 0 < n → L[n - 1]? = some p → nearP z y p ⟨h2, a2, b2_, c2⟩ := fun p h1 h3 => by rw [hlast h1] at h3; cases h3; exact hn2
        simp only [okP] at hok2
        refine cw_seq ?_
        refine cw_region ?_
        refine lstepB rfl rfl rfl (run_move (.tmp rfl)) ?_
        refine lstepB rfl rfl rfl (run_loadN (.tmp rfl) kd50 sz50 (by repeat (first | exact List.Mem.head _ | apply List.Mem.tail)) (by repeat (first | exact Sub.done | apply Sub.take | apply Sub.skip))) ?_
        refine lstep rfl rfl rfl (LR.runs (lr_buildSlice_at (.cons (.tmp rfl) .nil) (fun w => bs44_1_0 w)) (by repeat (first | exact Pick.nil | (apply Pick.cons; focus (repeat (first | exact Del.here | apply Del.there))))) (by repeat (first | exact Dels.nil | (apply Dels.cons; focus (repeat (first | exact Del.here | apply Del.there)))))) ?_
        intro b103 _
        refine lstep rfl rfl rfl (LR.runs (R := [(b103, _)]) (A := [(gX, _)]) (lr_append_row ap44 (.tmp rfl) hX (.tmp rfl) (news := plC ⟨h2, a2, b2_, c2⟩) rfl rfl (by omega) (by unfold maxLen; omega) (news_own (by repeat (first | exact List.Mem.head _ | apply List.Mem.tail)))) (by repeat (first | exact Pick.nil | (apply Pick.cons; focus (repeat (first | exact Del.here | apply Del.there))))) (by repeat (first | exact Dels.nil | (apply Dels.cons; focus (repeat (first | exact Del.here | apply Del.there)))))) ?_
        intro ⟨gY, cgY, rgY⟩ hgY
        dsimp only at hgY ⊢
        have hgrow := hmd.grow (q := ⟨h2, a2, b2_, c2⟩) (by simp only [okP]; omega) hnear
        have hlast2 := hmd.last (q := ⟨h2, a2, b2_, c2⟩)
        have hY : InRow 4 (n + 1) cgY rgY (plsC (L ++ [⟨h2, a2, b2_, c2⟩])) := by rw [plsC_append]; exact hgY
        refine lstepB rfl rfl rfl (run_assign (.tmp rfl)) ?_
        refine lnil ?_
        refine xw_then ?_
        refine cw_seq ?_
        refine cw_region ?_
        refine lstepB rfl rfl rfl (run_load1 (.tmp rfl) kd47 (by repeat (first | exact List.Mem.head _ | apply List.Mem.tail)) (by exact rfl)) ?_
        refine lstep rfl rfl rfl (LR.runs (R := []) (A := [(dC, _)]) (lr_callv (F := fun r : Int => 0 ≤ r ∧ r < 3) (r := fun r => .int .i64 r) (A := [(dC, cntO (k2))]) (B := fun _ => [(dC, cntO (k2 + 1))]) cb74 (.tmp rfl) (.cons .const .nil) rfl (fun w2 hS hA => drawK 3 (k2) bx dC pb po cap l w2 (by omega) (by omega) (hA (dC, cntO (k2)) (by simp)) (hD.kept hS))) (by repeat (first | exact Pick.nil | (apply Pick.cons; focus (repeat (first | exact Del.here | apply Del.there))))) (by repeat (first | exact Dels.nil | (apply Dels.cons; focus (repeat (first | exact Del.here | apply Del.there)))))) ?_
        intro g ⟨g0, g1⟩
        by_cases hg : g = 0
        ·
          by_cases h8 : 0 < 8
          ·
            refine lstepB rfl rfl rfl (run_eql (.tmp rfl) .const (by first | exact decide_eq_true (by omega) | exact decide_eq_false (by omega) | exact rfl)) ?_
            refine lstepB rfl rfl rfl (run_move (.tmp rfl)) ?_
            refine lyes rfl rfl rfl rfl ?_
            refine gstepB rfl rfl (run_fieldAddr (.tmp rfl) fa24_3 (by first | exact Nat.zero_add _ | exact rfl)) ?_
            refine lyes rfl rfl rfl rfl ?_
            refine gstepB rfl rfl (run_load1 (.tmp rfl) kd22 (by repeat (first | exact List.Mem.head _ | apply List.Mem.tail)) (by exact rfl)) ?_
            refine lyes rfl rfl rfl rfl ?_
            refine gstepB rfl rfl (run_len (.tmp rfl) sl22) ?_
            refine lyes rfl rfl rfl rfl ?_
            refine gstepB rfl rfl (run_lss (.tmp rfl) .const (by first | exact decide_eq_true (by omega) | exact decide_eq_false (by omega) | exact rfl)) ?_
            refine lstepB rfl rfl rfl (by first | exact run_pick_true (.tmp rfl) (.tmp rfl) | exact run_pick_false (.tmp rfl) .const) ?_
            refine lnil ?_
            refine xw_then ?_
            refine cw_cond_true (.tmp rfl) ?_
            refine cw_chain2 (σ := [0, 1, 2, 3, 4, 5, 7, 8, 9, 11, 12, 13, 15, 16, 17, 6, 10, 14, 18, 19, 20, 21, 22, 23]) [⟨0, [], [], [], 0⟩, ⟨0, [4], [], [], 1⟩, ⟨0, [], [], [], 0⟩, ⟨0, [], [], [], 0⟩, ⟨0, [], [], [], 0⟩, ⟨0, [3], [], [], 16⟩, ⟨1, [5], [0], [0], 56⟩, ⟨0, [], [], [], 0⟩, ⟨0, [], [], [], 0⟩, ⟨0, [3], [], [], 256⟩, ⟨1, [5], [0], [0], 1016⟩, ⟨0, [], [], [], 0⟩, ⟨0, [], [], [], 0⟩, ⟨0, [3], [], [], 4096⟩, ⟨1, [5], [0], [0], 16376⟩, ⟨0, [], [], [], 0⟩, ⟨0, [], [], [], 0⟩, ⟨0, [3], [], [], 65536⟩, ⟨1, [5], [0], [0], 262136⟩, ⟨0, [], [], [], 524284⟩, ⟨2, [], [], [6], 1048572⟩, ⟨1, [6], [], [7], 2097151⟩, ⟨0, [], [], [], 4194303⟩, ⟨0, [], [4], [4], 8388607⟩] [(0, _), (1, _), (2, _), (3, _), (4, _), (5, _)] (by kernel_rfl) (by kernel_rfl) rfl ?_
            refine .det (B := []) rfl rfl (.inl rfl) .nil .nil rfl (RunB.lr (run_fieldAddr (.tmp rfl) fa24_3 (by first | exact Nat.zero_add _ | exact rfl))) ?_
            refine .det (B := []) rfl rfl (.inl rfl) (.cons rfl .nil) .nil rfl (RunB.lr (run_load1 (.tmp rfl) kd22 (by repeat (first | exact List.Mem.head _ | apply List.Mem.tail)) (by exact rfl))) ?_
            refine .det (B := []) rfl rfl (.inl rfl) .nil .nil rfl (RunB.lr (run_move (.tmp rfl))) ?_
            refine .det (B := []) rfl rfl (.inl rfl) .nil .nil rfl (RunB.lr (run_move (.tmp rfl))) ?_
            refine .det (B := []) rfl rfl (.inl rfl) .nil .nil rfl (RunB.lr (run_fieldAddr (.tmp rfl) fa50_0 (by first | exact Nat.zero_add _ | exact rfl))) ?_
            refine .det (B := []) rfl rfl (.inl rfl) (.cons rfl .nil) .nil rfl (RunB.lr (run_load1 (.tmp rfl) kd3 (by repeat (first | exact List.Mem.head _ | apply List.Mem.tail)) (by exact rfl))) ?_
            refine .det (B := []) rfl rfl (.inl rfl) .nil .nil rfl (RunB.lr (run_move (.tmp rfl))) ?_
            refine .det (B := []) rfl rfl (.inl rfl) .nil .nil rfl (RunB.lr (run_fieldAddr (.tmp rfl) fa50_1 (by first | exact Nat.zero_add _ | exact rfl))) ?_
            refine .det (B := []) rfl rfl (.inl rfl) (.cons rfl .nil) .nil rfl (RunB.lr (run_load1 (.tmp rfl) kd3 (by repeat (first | exact List.Mem.head _ | apply List.Mem.tail)) (by exact rfl))) ?_
            refine .det (B := []) rfl rfl (.inl rfl) .nil .nil rfl (RunB.lr (run_move (.tmp rfl))) ?_
            refine .det (B := []) rfl rfl (.inl rfl) .nil .nil rfl (RunB.lr (run_fieldAddr (.tmp rfl) fa50_2 (by first | exact Nat.zero_add _ | exact rfl))) ?_
            refine .det (B := []) rfl rfl (.inl rfl) (.cons rfl .nil) .nil rfl (RunB.lr (run_load1 (.tmp rfl) kd3 (by repeat (first | exact List.Mem.head _ | apply List.Mem.tail)) (by exact rfl))) ?_
            refine .det (B := []) rfl rfl (.inl rfl) .nil .nil rfl (RunB.lr (run_move (.tmp rfl))) ?_
            refine .det (B := []) rfl rfl (.inl rfl) .nil .nil rfl (RunB.lr (run_fieldAddr (.tmp rfl) fa50_3 (by first | exact Nat.zero_add _ | exact rfl))) ?_
            refine .det (B := []) rfl rfl (.inl rfl) (.cons rfl .nil) .nil rfl (RunB.lr (run_load1 (.tmp rfl) kd3 (by repeat (first | exact List.Mem.head _ | apply List.Mem.tail)) (by exact rfl))) ?_
            refine .ext (B := fun _ => [(0, (dC, cntO ((k2 + 1) + 1 + 1)))]) rfl rfl (.inl rfl) (.cons rfl .nil) (.cons rfl .nil) (fun _ => rfl) ⟨⟨h2, h2⟩, by simp only; omega⟩ (lr_callv (F := fun s : SpanD => 0 ≤ s.lo ∧ s.lo ≤ h2 ∧ h2 ≤ s.hi ∧ s.hi ≤ 1000) (r := fun s => .agg [.int .i64 s.lo, .int .i64 s.hi].toArray) (A := [(dC, cntO ((k2 + 1)))]) (B := fun _ => [(dC, cntO ((k2 + 1) + 1 + 1))]) cb73 (.tmp rfl) (.cons (.tmp rfl) (.cons .const (.cons .const .nil))) rfl (fun w2 hS hA => aroundK h2 30 1000 ((k2 + 1)) b1 bx dC pb po cap l w2 (by omega) (by omega) (by omega) (by omega) (hA (dC, cntO ((k2 + 1))) (by simp)) (hD.kept hS) (box_ne (hS.mem (by repeat (first | exact List.Mem.head _ | apply List.Mem.tail))) (hA (dC, cntO ((k2 + 1))) (by simp))) (own_cell1 (hS.mem (by repeat (first | exact List.Mem.head _ | apply List.Mem.tail)))))) ?_
            rintro s ⟨s0, s1, s2, s3⟩
            refine .ext (B := fun _ => [(0, (dC, cntO (((k2 + 1) + 1 + 1) + 1 + 1)))]) rfl rfl (.inl rfl) (.cons rfl .nil) (.cons rfl .nil) (fun _ => rfl) ⟨⟨a2, a2⟩, by simp only; omega⟩ (lr_callv (F := fun s : SpanD => 0 ≤ s.lo ∧ s.lo ≤ a2 ∧ a2 ≤ s.hi ∧ s.hi ≤ 20) (r := fun s => .agg [.int .i64 s.lo, .int .i64 s.hi].toArray) (A := [(dC, cntO (((k2 + 1) + 1 + 1)))]) (B := fun _ => [(dC, cntO (((k2 + 1) + 1 + 1) + 1 + 1))]) cb73 (.tmp rfl) (.cons (.tmp rfl) (.cons .const (.cons .const .nil))) rfl (fun w2 hS hA => aroundK a2 3 20 (((k2 + 1) + 1 + 1)) b1 bx dC pb po cap l w2 (by omega) (by omega) (by omega) (by omega) (hA (dC, cntO (((k2 + 1) + 1 + 1))) (by simp)) (hD.kept hS) (box_ne (hS.mem (by repeat (first | exact List.Mem.head _ | apply List.Mem.tail))) (hA (dC, cntO (((k2 + 1) + 1 + 1))) (by simp))) (own_cell1 (hS.mem (by repeat (first | exact List.Mem.head _ | apply List.Mem.tail)))))) ?_
            rintro s2 ⟨s20, s21, s22, s23⟩
            refine .ext (B := fun _ => [(0, (dC, cntO (((k2 + 1) + 1 + 1 + 1 + 1) + 1 + 1)))]) rfl rfl (.inl rfl) (.cons rfl .nil) (.cons rfl .nil) (fun _ => rfl) ⟨⟨b2_, b2_⟩, by simp only; omega⟩ (lr_callv (F := fun s : SpanD => 0 ≤ s.lo ∧ s.lo ≤ b2_ ∧ b2_ ≤ s.hi ∧ s.hi ≤ 20) (r := fun s => .agg [.int .i64 s.lo, .int .i64 s.hi].toArray) (A := [(dC, cntO (((k2 + 1) + 1 + 1 + 1 + 1)))]) (B := fun _ => [(dC, cntO (((k2 + 1) + 1 + 1 + 1 + 1) + 1 + 1))]) cb73 (.tmp rfl) (.cons (.tmp rfl) (.cons .const (.cons .const .nil))) rfl (fun w2 hS hA => aroundK b2_ 3 20 (((k2 + 1) + 1 + 1 + 1 + 1)) b1 bx dC pb po cap l w2 (by omega) (by omega) (by omega) (by omega) (hA (dC, cntO (((k2 + 1) + 1 + 1 + 1 + 1))) (by simp)) (hD.kept hS) (box_ne (hS.mem (by repeat (first | exact List.Mem.head _ | apply List.Mem.tail))) (hA (dC, cntO (((k2 + 1) + 1 + 1 + 1 + 1))) (by simp))) (own_cell1 (hS.mem (by repeat (first | exact List.Mem.head _ | apply List.Mem.tail)))))) ?_
            rintro s3 ⟨s30, s31, s32, s33⟩
            refine .ext (B := fun _ => [(0, (dC, cntO (((k2 + 1) + 1 + 1 + 1 + 1 + 1 + 1) + 1 + 1)))]) rfl rfl (.inl rfl) (.cons rfl .nil) (.cons rfl .nil) (fun _ => rfl) ⟨⟨c2, c2⟩, by simp only; omega⟩ (lr_callv (F := fun s : SpanD => 0 ≤ s.lo ∧ s.lo ≤ c2 ∧ c2 ≤ s.hi ∧ s.hi ≤ 20) (r := fun s => .agg [.int .i64 s.lo, .int .i64 s.hi].toArray) (A := [(dC, cntO (((k2 + 1) + 1 + 1 + 1 + 1 + 1 + 1)))]) (B := fun _ => [(dC, cntO (((k2 + 1) + 1 + 1 + 1 + 1 + 1 + 1) + 1 + 1))]) cb73 (.tmp rfl) (.cons (.tmp rfl) (.cons .const (.cons .const .nil))) rfl (fun w2 hS hA => aroundK c2 3 20 (((k2 + 1) + 1 + 1 + 1 + 1 + 1 + 1)) b1 bx dC pb po cap l w2 (by omega) (by omega) (by omega) (by omega) (hA (dC, cntO (((k2 + 1) + 1 + 1 + 1 + 1 + 1 + 1))) (by simp)) (hD.kept hS) (box_ne (hS.mem (by repeat (first | exact List.Mem.head _ | apply List.Mem.tail))) (hA (dC, cntO (((k2 + 1) + 1 + 1 + 1 + 1 + 1 + 1))) (by simp))) (own_cell1 (hS.mem (by repeat (first | exact List.Mem.head _ | apply List.Mem.tail)))))) ?_
            rintro s4 ⟨s40, s41, s42, s43⟩
            refine .det (B := []) rfl rfl (.inl rfl) .nil .nil rfl (RunB.lr (run_build_at (.cons (.tmp rfl) (.cons (.tmp rfl) (.cons (.tmp rfl) (.cons (.tmp rfl) (.cons (.tmp rfl) .nil))))) (fun w => bd55_0_1_2_3_4 w))) ?_
            refine .flo rfl rfl rfl (.lit rfl (.cons (.tmp rfl) .nil) (fun w => bs22_1_0 w)) trivial rfl rfl rfl ?_
            intro b134
            refine .ext (B := fun q => [(7, (q.1, _))]) rfl rfl (.inl rfl) (.cons rfl .nil) .nil (fun _ => rfl) (inrow_some (xs := pitC _) rfl (by decide)) (lr_append_nil ap22 (.tmp rfl) (.tmp rfl) (news := pitC (⟨(n : Nat), s, s2, s3, s4⟩ : PitD)) rfl (by omega) (by omega) (by decide) (news_own (by repeat (first | exact List.Mem.head _ | apply List.Mem.tail)))) ?_
            rintro ⟨gW, cW, rW⟩ hW
            refine .det (B := []) rfl rfl (.inl rfl) .nil .nil rfl (RunB.lr (run_fieldAddr (.tmp rfl) fa24_3 (by first | exact Nat.zero_add _ | exact rfl))) ?_
            refine .det (B := [(4, (_, _))]) rfl rfl (.inl rfl) .nil (.cons rfl .nil) rfl (lr_store1 (.tmp rfl) (.tmp rfl) rfl sz22 (by repeat (first | exact Put.done | apply Put.put | apply Put.skip))) ?_
            refine chain_nil (ts := [7, 0, 1, 2, 3, 4, 5]) (.cons rfl (.cons rfl (.cons rfl (.cons rfl (.cons rfl (.cons rfl (.cons rfl .nil))))))) (by decide) ?_
            dsimp only at hW ⊢
            have hdig := hmd.dig (p := (⟨(n : Nat), s, s2, s3, s4⟩ : PitD)) hgrow rfl (by simp only [fitP, spanH]; omega) (by first | omega | (simp only [List.length_nil]; omega))
            have hW2 : InRow 9 (0 + 1) cW rW (pitsC (([] : List PitD) ++ [(⟨(n : Nat), s, s2, s3, s4⟩ : PitD)])) := by rw [pitsC_append]; exact hW
            have hlw : (([] : List PitD) ++ [(⟨(n : Nat), s, s2, s3, s4⟩ : PitD)]).length = 0 + 1 := rfl
            refine xw_in ?_
            refine xw_then ?_
            refine cw_region ?_
            refine lstepB rfl rfl rfl (run_add (.tmp rfl) .const (by first | exact IntWalk.i64_in _ (by omega) | exact rfl)) ?_
            refine lstepB rfl rfl rfl (run_move (.tmp rfl)) ?_
            refine lnil ?_
            exact xw_round ⟨n + 1, ((k2 + 1) + 1 + 1 + 1 + 1 + 1 + 1 + 1 + 1), h2, a2, b2_, c2, L ++ [⟨h2, a2, b2_, c2⟩], 0 + 1, ([] : List PitD) ++ [(⟨(n : Nat), s, s2, s3, s4⟩ : PitD)], (.two (gY, cgY, rgY) (gW, cW, rW))⟩ ⟨⟨by simp only; omega, by simp only; omega, by simp only; omega⟩, by simp only [okP]; omega, hdig, fun _ => hlast2, ⟨by simp only; omega, hlw, by simp only; omega, hY, hW2⟩⟩ (by simp only; omega) (by repeat (first | exact Less.nil | refine Less.cons rfl ?_)) (by repeat (first | exact Pick.nil | (apply Pick.cons; focus (repeat (first | exact Del.here | apply Del.there)))))
          ·
            exfalso; omega
        ·
          refine lstepB rfl rfl rfl (run_eql (.tmp rfl) .const (by first | exact decide_eq_true (by omega) | exact decide_eq_false (by omega) | exact rfl)) ?_
          refine lstepB rfl rfl rfl (run_move (.tmp rfl)) ?_
          refine lskip rfl rfl rfl rfl rfl rfl rfl ?_
          refine lskip rfl rfl rfl rfl rfl rfl rfl ?_
          refine lskip rfl rfl rfl rfl rfl rfl rfl ?_
          refine lskip rfl rfl rfl rfl rfl rfl rfl ?_
          refine lstepB rfl rfl rfl (by first | exact run_pick_true (.tmp rfl) (.tmp rfl) | exact run_pick_false (.tmp rfl) .const) ?_
          refine lnil ?_
          refine xw_then ?_
          refine cw_cond_false (.tmp rfl) ?_
          refine cw_skip ?_
          refine xw_in ?_
          refine xw_then ?_
          refine cw_region ?_
          refine lstepB rfl rfl rfl (run_add (.tmp rfl) .const (by first | exact IntWalk.i64_in _ (by omega) | exact rfl)) ?_
          refine lstepB rfl rfl rfl (run_move (.tmp rfl)) ?_
          refine lnil ?_
          exact xw_round ⟨n + 1, (k2 + 1), h2, a2, b2_, c2, L ++ [⟨h2, a2, b2_, c2⟩], 0, ([] : List PitD), (.one (gY, cgY, rgY))⟩ ⟨⟨by simp only; omega, by simp only; omega, by simp only; omega⟩, by simp only [okP]; omega, hgrow, fun _ => hlast2, ⟨by simp only; omega, rfl, rfl, hY⟩⟩ (by simp only; omega) (by repeat (first | exact Less.nil | refine Less.cons rfl ?_)) (by repeat (first | exact Pick.nil | (apply Pick.cons; focus (repeat (first | exact Del.here | apply Del.there)))))
    ·
      have hne : (n : Int) = r + 1 := by omega
      subst hlen
      refine cw_exit ?_
      refine xw_then_exit ?_
      refine xw_then_exit ?_
      refine xw_in_exit ?_
      refine xw_then ?_
      refine cw_seq ?_
      refine cw_region ?_
      refine lstepB rfl rfl rfl (run_loadN (.tmp rfl) kd24 sz24 (by repeat (first | exact List.Mem.head _ | apply List.Mem.tail)) (by repeat (first | exact Sub.done | apply Sub.take | apply Sub.skip))) ?_
      refine lstepB rfl rfl rfl (run_move (.tmp rfl)) ?_
      refine lstep0 rfl rfl (run_storeN (.tmp rfl) (.tmp rfl) rfl sz24 rfl (by repeat (first | exact Upd.here | apply Upd.there)) (by repeat (first | exact Put.done | apply Put.put | apply Put.skip))) ?_
      refine lstepB rfl rfl rfl (run_assign (.tmp rfl)) ?_
      refine lnil ?_
      refine xw_then ?_
      refine cw_ret ?_
      exact xw_retC2 rfl rfl rfl kd24 sz24 (by repeat (first | exact List.Mem.head _ | apply List.Mem.tail)) (by repeat (first | exact Sub.done | apply Sub.take | apply Sub.skip)) (fun w hS => ⟨⟨⟨r, z, y, []⟩, L, k, (gX, cX, rX), none⟩, ⟨⟨hmd, hne, by simp only; omega, by simp only; omega, by simp only; omega⟩, hX, rfl⟩, rfl, tr_of (hS.pick (by repeat (first | exact Pick.nil | (apply Pick.cons; focus (repeat (first | exact Del.here | apply Del.there))))))⟩)
  case two r1 u =>
    obtain ⟨gX, cX, rX⟩ := r1
    obtain ⟨gP, cP, rP⟩ := u
    dsimp only at hrows ⊢
    obtain ⟨npos, hm, mpos, hX, hP⟩ := hrows
    have hlen := hmd.len
    have hfew := hmd.few
    simp only [okP] at hok
    refine cw_seq ?_
    refine cw_region ?_
    refine lstepB rfl rfl rfl (run_lss (.tmp rfl) (.tmp rfl) rfl) ?_
    refine lnil ?_
    refine xw_then ?_
    refine cw_seq ?_
    refine cw_cond_p (.tmp rfl) (fun hl => ?_) (fun hl => ?_)
    ·
      refine cw_skip ?_
      refine xw_then ?_
      refine cw_seq ?_
      refine cw_block ?_
      refine cw_seq ?_
      refine cw_region ?_
      refine lstepB rfl rfl rfl (run_move (.tmp rfl)) ?_
      refine lstepB rfl rfl rfl (run_assign (.tmp rfl)) ?_
      refine lnil ?_
      refine xw_then ?_
      refine cw_meet (S := MeetS) (fun t => []) [(1, _), (2, _), (3, _), (4, _), (5, _), (6, _), (42, _), (43, _)] (fun t => [(b4, Obj.cells [.int .i64 t.h, .int .i64 t.a, .int .i64 t.b, .int .i64 t.c].toArray 50 (0, 0)), (dC, cntO t.k), (gX, Obj.cells rX.toArray 50 (0, 0)), (gP, Obj.cells rP.toArray 55 (0, 0)), (b2, Obj.cells [.int .i64 r, .int .i64 z, .int .i64 y, (.slice (some ⟨gP, 0, none⟩) m cP)].toArray 24 (0, 0)), (b1, Obj.cells [drawV dC bx].toArray 47 (0, 0))]) (fun t => (k ≤ t.k ∧ t.k ≤ k + 4) ∧ okP ⟨t.h, t.a, t.b, t.c⟩ ∧ nearP z y ⟨h, a, b, c⟩ ⟨t.h, t.a, t.b, t.c⟩) (by repeat (first | exact Less.nil | refine Less.cons rfl ?_)) ?_ ?_
      ·
        refine cw_seq ?_
        refine cw_region ?_
        refine lstepB rfl rfl rfl (run_move (.tmp rfl)) ?_
        refine lstepB rfl rfl rfl (run_gtr (.tmp rfl) .const (by first | exact decide_eq_true (by omega) | exact decide_eq_false (by omega) | exact rfl)) ?_
        refine lnil ?_
        refine xw_then ?_
        refine cw_cond_true (.tmp rfl) ?_
        refine cw_seq ?_
        refine cw_chain2 (σ := [0, 1, 2, 3, 4, 5, 6, 9, 10, 7, 8, 11, 12, 13, 14, 15]) [⟨0, [], [], [], 0⟩, ⟨0, [3], [], [], 1⟩, ⟨0, [5], [], [], 0⟩, ⟨0, [], [], [], 0⟩, ⟨0, [2], [], [], 8⟩, ⟨0, [], [], [], 24⟩, ⟨0, [], [], [], 56⟩, ⟨1, [], [4], [4], 124⟩, ⟨0, [], [], [], 255⟩, ⟨0, [], [], [], 0⟩, ⟨0, [2], [], [], 512⟩, ⟨0, [], [], [], 2047⟩, ⟨0, [], [], [], 4095⟩, ⟨0, [], [], [], 8191⟩, ⟨0, [], [], [], 16383⟩, ⟨0, [], [3], [3], 32767⟩] [(0, _), (1, _), (2, _), (3, _), (4, _), (5, _)] (by kernel_rfl) (by kernel_rfl) rfl ?_
        refine .det (B := []) rfl rfl (.inl rfl) .nil .nil rfl (RunB.lr (run_fieldAddr (.tmp rfl) fa50_0 (by first | exact Nat.zero_add _ | exact rfl))) ?_
        refine .det (B := []) rfl rfl (.inl rfl) (.cons rfl .nil) .nil rfl (RunB.lr (run_load1 (.tmp rfl) kd3 (by repeat (first | exact List.Mem.head _ | apply List.Mem.tail)) (by exact rfl))) ?_
        refine .det (B := []) rfl rfl (.inl rfl) (.cons rfl .nil) .nil rfl (RunB.lr (run_load1 (.tmp rfl) kd47 (by repeat (first | exact List.Mem.head _ | apply List.Mem.tail)) (by exact rfl))) ?_
        refine .det (B := []) rfl rfl (.inl rfl) .nil .nil rfl (RunB.lr (run_fieldAddr (.tmp rfl) fa24_1 (by first | exact Nat.zero_add _ | exact rfl))) ?_
        refine .det (B := []) rfl rfl (.inl rfl) (.cons rfl .nil) .nil rfl (RunB.lr (run_load1 (.tmp rfl) kd3 (by repeat (first | exact List.Mem.head _ | apply List.Mem.tail)) (by exact rfl))) ?_
        refine .det (B := []) rfl rfl (.inl rfl) .nil .nil rfl (RunB.lr (run_mul .const (.tmp rfl) (by first | exact IntWalk.i64_in _ (by omega) | exact rfl))) ?_
        refine .det (B := []) rfl rfl (.inl rfl) .nil .nil rfl (RunB.lr (run_add (.tmp rfl) .const (by first | exact IntWalk.i64_in _ (by omega) | exact rfl))) ?_
        refine .det (B := []) rfl rfl (.inl rfl) .nil .nil rfl (RunB.lr (run_fieldAddr (.tmp rfl) fa24_1 (by first | exact Nat.zero_add _ | exact rfl))) ?_
        refine .det (B := []) rfl rfl (.inl rfl) (.cons rfl .nil) .nil rfl (RunB.lr (run_load1 (.tmp rfl) kd3 (by repeat (first | exact List.Mem.head _ | apply List.Mem.tail)) (by exact rfl))) ?_
        refine .ext (B := fun _ => [(4, (dC, cntO (k + 1)))]) rfl rfl (.inl rfl) .nil (.cons rfl .nil) (fun _ => rfl) ⟨0, by omega, by omega⟩ (lr_callv (F := fun r : Int => 0 ≤ r ∧ r < (2 * z + 1)) (r := fun r => .int .i64 r) (A := [(dC, cntO (k))]) (B := fun _ => [(dC, cntO (k + 1))]) cb74 (.tmp rfl) (.cons (.tmp rfl) .nil) rfl (fun w2 hS hA => drawK (2 * z + 1) (k) bx dC pb po cap l w2 (by omega) (by omega) (hA (dC, cntO (k)) (by simp)) (hD.kept hS))) ?_
        rintro v ⟨v0, v1⟩
        refine .det (B := []) rfl rfl (.inl rfl) .nil .nil rfl (RunB.lr (run_add (.tmp rfl) (.tmp rfl) (by first | exact IntWalk.i64_in _ (by omega) | exact rfl))) ?_
        refine .det (B := []) rfl rfl (.inl rfl) .nil .nil rfl (RunB.lr (run_sub (.tmp rfl) (.tmp rfl) (by first | exact IntWalk.i64_in _ (by omega) | exact rfl))) ?_
        refine .det (B := []) rfl rfl (.inl rfl) .nil .nil rfl (RunB.lr (run_max2 .const (.tmp rfl))) ?_
        refine .det (B := []) rfl rfl (.inl rfl) .nil .nil rfl (RunB.lr (run_min2 .const (.tmp rfl))) ?_
        refine .det (B := []) rfl rfl (.inl rfl) .nil .nil rfl (RunB.lr (run_fieldAddr (.tmp rfl) fa50_0 (by first | exact Nat.zero_add _ | exact rfl))) ?_
        refine .det (B := [(3, (_, _))]) rfl rfl (.inl rfl) .nil (.cons rfl .nil) rfl (lr_store1 (.tmp rfl) (.tmp rfl) rfl sz3 (by repeat (first | exact Put.done | apply Put.put | apply Put.skip))) ?_
        refine chain_nil (ts := [0, 1, 2, 3, 4, 5]) (.cons rfl (.cons rfl (.cons rfl (.cons rfl (.cons rfl (.cons rfl .nil)))))) (by decide) ?_
        obtain ⟨h2, hh2⟩ : ∃ h2, min 1000 (max 0 (h + v - z)) = h2 := ⟨_, rfl⟩
        rw [hh2]
        refine xw_then ?_
        refine cw_seq ?_
        refine cw_region ?_
        refine lstepB rfl rfl rfl (run_fieldAddr (.tmp rfl) fa50_1 (by first | exact Nat.zero_add _ | exact rfl)) ?_
        refine lstepB rfl rfl rfl (run_fieldAddr (.tmp rfl) fa50_2 (by first | exact Nat.zero_add _ | exact rfl)) ?_
        refine lstepB rfl rfl rfl (run_fieldAddr (.tmp rfl) fa50_3 (by first | exact Nat.zero_add _ | exact rfl)) ?_
        refine lstepB rfl rfl rfl (run_build_at (.cons (.tmp rfl) (.cons (.tmp rfl) (.cons (.tmp rfl) .nil))) (fun w => bd112_0_1_2 w)) ?_
        refine lstep rfl rfl rfl (run_alloc zr112) ?_
        intro b7 _
        refine lstep0 rfl rfl (run_storeN (.tmp rfl) (.tmp rfl) rfl sz112 rfl (by repeat (first | exact Upd.here | apply Upd.there)) (by repeat (first | exact Put.done | apply Put.put | apply Put.skip))) ?_
        refine lnil ?_
        refine xw_then ?_
        refine cw_seq ?_
        refine cw_chain2 (σ := [0, 4, 1, 2, 3, 5, 6, 7, 8, 9]) [⟨0, [6], [], [], 0⟩, ⟨1, [], [5], [5], 1⟩, ⟨0, [], [], [], 3⟩, ⟨0, [0], [], [], 7⟩, ⟨0, [6], [], [], 0⟩, ⟨1, [], [5], [5], 19⟩, ⟨0, [], [], [], 51⟩, ⟨0, [0], [], [], 115⟩, ⟨0, [], [], [], 63⟩, ⟨0, [], [], [], 511⟩] [(0, _), (1, _), (2, _), (3, _), (4, _), (5, _), (6, _)] (by kernel_rfl) (by kernel_rfl) rfl ?_
        refine .det (B := []) rfl rfl (.inl rfl) (.cons rfl .nil) .nil rfl (RunB.lr (run_load1 (.tmp rfl) kd47 (by repeat (first | exact List.Mem.head _ | apply List.Mem.tail)) (by exact rfl))) ?_
        refine .det (B := []) rfl rfl (.inl rfl) (.cons rfl .nil) .nil rfl (RunB.lr (run_load1 (.tmp rfl) kd47 (by repeat (first | exact List.Mem.head _ | apply List.Mem.tail)) (by exact rfl))) ?_
        refine .ext (B := fun _ => [(5, (dC, cntO ((k + 1) + 1)))]) rfl rfl (.inl rfl) .nil (.cons rfl .nil) (fun _ => rfl) ⟨0, by omega⟩ (lr_callv (F := fun i : Nat => (i : Int) < 3) (r := fun i => .int .i64 (i : Int)) (A := [(dC, cntO ((k + 1)))]) (B := fun _ => [(dC, cntO ((k + 1) + 1))]) cb74 (.tmp rfl) (.cons .const .nil) rfl (fun w2 hS hA => drawN 3 ((k + 1)) bx dC pb po cap l w2 (by omega) (by omega) (hA (dC, cntO ((k + 1))) (by simp)) (hD.kept hS))) ?_
        intro i i1
        refine .det (B := []) rfl rfl (.inl rfl) .nil .nil rfl (RunB.lr (run_indexAddr_arr (i := i) (.tmp rfl) (.tmp rfl) ar112 (by omega) rfl)) ?_
        refine .det (B := []) rfl rfl (.inl rfl) (.cons rfl .nil) .nil rfl (RunB.lr (run_load1 (.tmp rfl) kd111 (by repeat (first | exact List.Mem.head _ | apply List.Mem.tail)) (ptr3 (by omega)))) ?_
        refine .ext (B := fun _ => [(5, (dC, cntO ((k + 1 + 1) + 1)))]) rfl rfl (.inl rfl) .nil (.cons rfl .nil) (fun _ => rfl) ⟨0, by omega⟩ (lr_callv (F := fun i : Nat => (i : Int) < 3) (r := fun i => .int .i64 (i : Int)) (A := [(dC, cntO ((k + 1 + 1)))]) (B := fun _ => [(dC, cntO ((k + 1 + 1) + 1))]) cb74 (.tmp rfl) (.cons .const .nil) rfl (fun w2 hS hA => drawN 3 ((k + 1 + 1)) bx dC pb po cap l w2 (by omega) (by omega) (hA (dC, cntO ((k + 1 + 1))) (by simp)) (hD.kept hS))) ?_
        intro j j1
        refine .det (B := []) rfl rfl (.inl rfl) .nil .nil rfl (RunB.lr (run_indexAddr_arr (i := j) (.tmp rfl) (.tmp rfl) ar112 (by omega) rfl)) ?_
        refine .det (B := []) rfl rfl (.inl rfl) (.cons rfl .nil) .nil rfl (RunB.lr (run_load1 (.tmp rfl) kd111 (by repeat (first | exact List.Mem.head _ | apply List.Mem.tail)) (ptr3 (by omega)))) ?_
        refine .det (B := []) rfl rfl (.inl rfl) .nil .nil rfl (RunB.lr (run_assign (.tmp rfl))) ?_
        refine .det (B := []) rfl rfl (.inl rfl) .nil .nil rfl (RunB.lr (run_assign (.tmp rfl))) ?_
        refine chain_nil (ts := [0, 1, 2, 3, 4, 5, 6]) (.cons rfl (.cons rfl (.cons rfl (.cons rfl (.cons rfl (.cons rfl (.cons rfl .nil))))))) (by decide) ?_
        by_cases hij : i = j
        ·
          subst hij
          refine xw_then ?_
          refine cw_seq ?_
          refine cw_region ?_
          refine lstepB rfl rfl rfl (run_move (.tmp rfl)) ?_
          refine lstepB rfl rfl rfl (run_move (.tmp rfl)) ?_
          refine lstepB rfl rfl rfl (run_eq_at (.tmp rfl) (.tmp rfl) (fun w => neq111 (r := false) (by simp) w)) ?_
          refine lnil ?_
          refine xw_then ?_
          refine cw_cond_false (.tmp rfl) ?_
          refine cw_skip ?_
          refine xw_meet ⟨_, _, _, _, _⟩ ?_ (by repeat (first | exact Less.nil | refine Less.cons rfl ?_)) (by repeat (first | exact Pick.nil | (apply Pick.cons; focus (repeat (first | exact Del.here | apply Del.there)))))
          simp only [okP, nearP]
          omega
        ·
          obtain rfl | rfl | rfl : i = 0 ∨ i = 1 ∨ i = 2 := by omega
          all_goals obtain rfl | rfl | rfl : j = 0 ∨ j = 1 ∨ j = 2 := by omega
          all_goals try (exfalso; exact hij rfl)
          all_goals
            refine xw_then ?_
            refine cw_seq ?_
            refine cw_region ?_
            refine lstepB rfl rfl rfl (run_move (.tmp rfl)) ?_
            refine lstepB rfl rfl rfl (run_move (.tmp rfl)) ?_
            refine lstepB rfl rfl rfl (run_eq_at (.tmp rfl) (.tmp rfl) (fun w => neq111 (r := true) (by simp) w)) ?_
            refine lnil ?_
            refine xw_then ?_
            refine cw_cond_true (.tmp rfl) ?_
            refine cw_seq ?_
            refine cw_chain2 (σ := [0, 1, 2, 3, 4, 5, 6, 7, 8, 9]) [⟨0, [], [], [], 0⟩, ⟨0, [], [], [], 1⟩, ⟨0, [4], [], [], 3⟩, ⟨0, [6], [], [], 0⟩, ⟨0, [], [], [], 0⟩, ⟨0, [3], [], [], 16⟩, ⟨0, [], [], [], 48⟩, ⟨1, [], [5], [5], 120⟩, ⟨0, [], [], [], 255⟩, ⟨0, [], [], [], 511⟩] [(0, _), (1, _), (2, _), (3, _), (4, _), (5, _), (6, _)] (by kernel_rfl) (by kernel_rfl) rfl ?_
            refine .det (B := []) rfl rfl (.inl rfl) .nil .nil rfl (RunB.lr (run_move (.tmp rfl))) ?_
            refine .det (B := []) rfl rfl (.inl rfl) .nil .nil rfl (RunB.lr (run_nilAt (.tmp rfl))) ?_
            refine .det (B := []) rfl rfl (.inl rfl) (.cons rfl .nil) .nil rfl (RunB.lr (run_load1 (.tmp rfl) kd3 (by repeat (first | exact List.Mem.head _ | apply List.Mem.tail)) (by exact rfl))) ?_
            refine .det (B := []) rfl rfl (.inl rfl) (.cons rfl .nil) .nil rfl (RunB.lr (run_load1 (.tmp rfl) kd47 (by repeat (first | exact List.Mem.head _ | apply List.Mem.tail)) (by exact rfl))) ?_
            refine .det (B := []) rfl rfl (.inl rfl) .nil .nil rfl (RunB.lr (run_fieldAddr (.tmp rfl) fa24_2 (by first | exact Nat.zero_add _ | exact rfl))) ?_
            refine .det (B := []) rfl rfl (.inl rfl) (.cons rfl .nil) .nil rfl (RunB.lr (run_load1 (.tmp rfl) kd3 (by repeat (first | exact List.Mem.head _ | apply List.Mem.tail)) (by exact rfl))) ?_
            refine .det (B := []) rfl rfl (.inl rfl) .nil .nil rfl (RunB.lr (run_add (.tmp rfl) .const (by first | exact IntWalk.i64_in _ (by omega) | exact rfl))) ?_
            refine .ext (B := fun _ => [(5, (dC, cntO ((k + 1 + 1 + 1) + 1)))]) rfl rfl (.inl rfl) .nil (.cons rfl .nil) (fun _ => rfl) ⟨0, by omega, by omega⟩ (lr_callv (F := fun r : Int => 0 ≤ r ∧ r < (y + 1)) (r := fun r => .int .i64 r) (A := [(dC, cntO ((k + 1 + 1 + 1)))]) (B := fun _ => [(dC, cntO ((k + 1 + 1 + 1) + 1))]) cb74 (.tmp rfl) (.cons (.tmp rfl) .nil) rfl (fun w2 hS hA => drawK (y + 1) ((k + 1 + 1 + 1)) bx dC pb po cap l w2 (by omega) (by omega) (hA (dC, cntO ((k + 1 + 1 + 1))) (by simp)) (hD.kept hS))) ?_
            rintro x ⟨x0, x1⟩
            refine .det (B := []) rfl rfl (.inl rfl) .nil .nil rfl (RunB.lr (run_min2 (.tmp rfl) (.tmp rfl))) ?_
            refine .det (B := []) rfl rfl (.inl rfl) .nil .nil rfl (RunB.lr (run_assign (.tmp rfl))) ?_
            refine chain_nil (ts := [0, 1, 2, 3, 4, 5, 6]) (.cons rfl (.cons rfl (.cons rfl (.cons rfl (.cons rfl (.cons rfl (.cons rfl .nil))))))) (by decide) ?_
            refine xw_then ?_
            refine cw_chain2 (σ := [0, 1, 2, 3, 4, 5, 6, 7, 8, 9, 10, 11, 12, 13, 14, 15]) [⟨0, [], [], [], 0⟩, ⟨0, [], [], [], 0⟩, ⟨0, [], [], [], 0⟩, ⟨0, [], [], [], 4⟩, ⟨0, [4], [], [], 12⟩, ⟨0, [], [], [], 0⟩, ⟨0, [], [], [], 60⟩, ⟨0, [], [], [], 0⟩, ⟨0, [], [], [], 128⟩, ⟨0, [4], [], [], 384⟩, ⟨0, [], [], [], 0⟩, ⟨0, [], [], [], 1920⟩, ⟨0, [], [], [], 1021⟩, ⟨0, [], [4], [4], 5117⟩, ⟨0, [], [], [], 16383⟩, ⟨0, [], [4], [4], 32767⟩] [(0, _), (1, _), (2, _), (3, _), (4, _), (5, _), (6, _)] (by kernel_rfl) (by kernel_rfl) rfl ?_
            refine .det (B := []) rfl rfl (.inl rfl) .nil .nil rfl (RunB.lr (run_move (.tmp rfl))) ?_
            refine .det (B := []) rfl rfl (.inl rfl) .nil .nil rfl (RunB.lr (run_move (.tmp rfl))) ?_
            refine .det (B := []) rfl rfl (.inl rfl) .nil .nil rfl (RunB.lr (run_move (.tmp rfl))) ?_
            refine .det (B := []) rfl rfl (.inl rfl) .nil .nil rfl (RunB.lr (run_nilAt (.tmp rfl))) ?_
            refine .det (B := []) rfl rfl (.inl rfl) (.cons rfl .nil) .nil rfl (RunB.lr (run_load1 (.tmp rfl) kd3 (by repeat (first | exact List.Mem.head _ | apply List.Mem.tail)) (by exact rfl))) ?_
            refine .det (B := []) rfl rfl (.inl rfl) .nil .nil rfl (RunB.lr (run_move (.tmp rfl))) ?_
            refine .det (B := []) rfl rfl (.inl rfl) .nil .nil rfl (RunB.lr (run_sub (.tmp rfl) (.tmp rfl) (by first | exact IntWalk.i64_in _ (by omega) | exact rfl))) ?_
            refine .det (B := []) rfl rfl (.inl rfl) .nil .nil rfl (RunB.lr (run_move (.tmp rfl))) ?_
            refine .det (B := []) rfl rfl (.inl rfl) .nil .nil rfl (RunB.lr (run_nilAt (.tmp rfl))) ?_
            refine .det (B := []) rfl rfl (.inl rfl) (.cons rfl .nil) .nil rfl (RunB.lr (run_load1 (.tmp rfl) kd3 (by repeat (first | exact List.Mem.head _ | apply List.Mem.tail)) (by exact rfl))) ?_
            refine .det (B := []) rfl rfl (.inl rfl) .nil .nil rfl (RunB.lr (run_move (.tmp rfl))) ?_
            refine .det (B := []) rfl rfl (.inl rfl) .nil .nil rfl (RunB.lr (run_add (.tmp rfl) (.tmp rfl) (by first | exact IntWalk.i64_in _ (by omega) | exact rfl))) ?_
            refine .det (B := []) rfl rfl (.inl rfl) .nil .nil rfl (RunB.lr (run_nilAt (.tmp rfl))) ?_
            refine .det (B := [(4, (_, _))]) rfl rfl (.inl rfl) .nil (.cons rfl .nil) rfl (lr_store1 (.tmp rfl) (.tmp rfl) rfl sz3 (by repeat (first | exact Put.done | apply Put.put | apply Put.skip))) ?_
            refine .det (B := []) rfl rfl (.inl rfl) .nil .nil rfl (RunB.lr (run_nilAt (.tmp rfl))) ?_
            refine .det (B := [(4, (_, _))]) rfl rfl (.inl rfl) .nil (.cons rfl .nil) rfl (lr_store1 (.tmp rfl) (.tmp rfl) rfl sz3 (by repeat (first | exact Put.done | apply Put.put | apply Put.skip))) ?_
            refine chain_nil (ts := [0, 1, 2, 3, 4, 5, 6]) (.cons rfl (.cons rfl (.cons rfl (.cons rfl (.cons rfl (.cons rfl (.cons rfl .nil))))))) (by decide) ?_
            refine xw_meet ⟨_, _, _, _, _⟩ ?_ (by repeat (first | exact Less.nil | refine Less.cons rfl ?_)) (by repeat (first | exact Pick.nil | (apply Pick.cons; focus (repeat (first | exact Del.here | apply Del.there)))))
            simp only [okP, nearP]
            omega
      ·
        intro t ht
        obtain ⟨k2, h2, a2, b2_, c2⟩ := t
        obtain ⟨⟨kk0, kk1⟩, hok2, hn2⟩ := ht
        dsimp only at kk0 kk1 hok2 hn2 ⊢
        have hnear : ∀ p, 0 < n → L[n - 1]? = some p → nearP z y p ⟨h2, a2, b2_, c2⟩ := fun p h1 h3 => by rw [hlast h1] at h3; cases h3; exact hn2
        simp only [okP] at hok2
        refine cw_seq ?_
        refine cw_region ?_
        refine lstepB rfl rfl rfl (run_move (.tmp rfl)) ?_
        refine lstepB rfl rfl rfl (run_loadN (.tmp rfl) kd50 sz50 (by repeat (first | exact List.Mem.head _ | apply List.Mem.tail)) (by repeat (first | exact Sub.done | apply Sub.take | apply Sub.skip))) ?_
        refine lstep rfl rfl rfl (LR.runs (lr_buildSlice_at (.cons (.tmp rfl) .nil) (fun w => bs44_1_0 w)) (by repeat (first | exact Pick.nil | (apply Pick.cons; focus (repeat (first | exact Del.here | apply Del.there))))) (by repeat (first | exact Dels.nil | (apply Dels.cons; focus (repeat (first | exact Del.here | apply Del.there)))))) ?_
        intro b103 _
        refine lstep rfl rfl rfl (LR.runs (R := [(b103, _)]) (A := [(gX, _)]) (lr_append_row ap44 (.tmp rfl) hX (.tmp rfl) (news := plC ⟨h2, a2, b2_, c2⟩) rfl rfl (by omega) (by unfold maxLen; omega) (news_own (by repeat (first | exact List.Mem.head _ | apply List.Mem.tail)))) (by repeat (first | exact Pick.nil | (apply Pick.cons; focus (repeat (first | exact Del.here | apply Del.there))))) (by repeat (first | exact Dels.nil | (apply Dels.cons; focus (repeat (first | exact Del.here | apply Del.there)))))) ?_
        intro ⟨gY, cgY, rgY⟩ hgY
        dsimp only at hgY ⊢
        have hgrow := hmd.grow (q := ⟨h2, a2, b2_, c2⟩) (by simp only [okP]; omega) hnear
        have hlast2 := hmd.last (q := ⟨h2, a2, b2_, c2⟩)
        have hY : InRow 4 (n + 1) cgY rgY (plsC (L ++ [⟨h2, a2, b2_, c2⟩])) := by rw [plsC_append]; exact hgY
        refine lstepB rfl rfl rfl (run_assign (.tmp rfl)) ?_
        refine lnil ?_
        refine xw_then ?_
        refine cw_seq ?_
        refine cw_region ?_
        refine lstepB rfl rfl rfl (run_load1 (.tmp rfl) kd47 (by repeat (first | exact List.Mem.head _ | apply List.Mem.tail)) (by exact rfl)) ?_
        refine lstep rfl rfl rfl (LR.runs (R := []) (A := [(dC, _)]) (lr_callv (F := fun r : Int => 0 ≤ r ∧ r < 3) (r := fun r => .int .i64 r) (A := [(dC, cntO (k2))]) (B := fun _ => [(dC, cntO (k2 + 1))]) cb74 (.tmp rfl) (.cons .const .nil) rfl (fun w2 hS hA => drawK 3 (k2) bx dC pb po cap l w2 (by omega) (by omega) (hA (dC, cntO (k2)) (by simp)) (hD.kept hS))) (by repeat (first | exact Pick.nil | (apply Pick.cons; focus (repeat (first | exact Del.here | apply Del.there))))) (by repeat (first | exact Dels.nil | (apply Dels.cons; focus (repeat (first | exact Del.here | apply Del.there)))))) ?_
        intro g ⟨g0, g1⟩
        by_cases hg : g = 0
        ·
          by_cases h8 : m < 8
          ·
            refine lstepB rfl rfl rfl (run_eql (.tmp rfl) .const (by first | exact decide_eq_true (by omega) | exact decide_eq_false (by omega) | exact rfl)) ?_
            refine lstepB rfl rfl rfl (run_move (.tmp rfl)) ?_
            refine lyes rfl rfl rfl rfl ?_
            refine gstepB rfl rfl (run_fieldAddr (.tmp rfl) fa24_3 (by first | exact Nat.zero_add _ | exact rfl)) ?_
            refine lyes rfl rfl rfl rfl ?_
            refine gstepB rfl rfl (run_load1 (.tmp rfl) kd22 (by repeat (first | exact List.Mem.head _ | apply List.Mem.tail)) (by exact rfl)) ?_
            refine lyes rfl rfl rfl rfl ?_
            refine gstepB rfl rfl (run_len (.tmp rfl) sl22) ?_
            refine lyes rfl rfl rfl rfl ?_
            refine gstepB rfl rfl (run_lss (.tmp rfl) .const (by first | exact decide_eq_true (by omega) | exact decide_eq_false (by omega) | exact rfl)) ?_
            refine lstepB rfl rfl rfl (by first | exact run_pick_true (.tmp rfl) (.tmp rfl) | exact run_pick_false (.tmp rfl) .const) ?_
            refine lnil ?_
            refine xw_then ?_
            refine cw_cond_true (.tmp rfl) ?_
            refine cw_chain2 (σ := [0, 1, 2, 3, 4, 5, 7, 8, 9, 11, 12, 13, 15, 16, 17, 6, 10, 14, 18, 19, 20, 21, 22, 23]) [⟨0, [], [], [], 0⟩, ⟨0, [5], [], [], 1⟩, ⟨0, [], [], [], 0⟩, ⟨0, [], [], [], 0⟩, ⟨0, [], [], [], 0⟩, ⟨0, [3], [], [], 16⟩, ⟨1, [6], [0], [0], 56⟩, ⟨0, [], [], [], 0⟩, ⟨0, [], [], [], 0⟩, ⟨0, [3], [], [], 256⟩, ⟨1, [6], [0], [0], 1016⟩, ⟨0, [], [], [], 0⟩, ⟨0, [], [], [], 0⟩, ⟨0, [3], [], [], 4096⟩, ⟨1, [6], [0], [0], 16376⟩, ⟨0, [], [], [], 0⟩, ⟨0, [], [], [], 0⟩, ⟨0, [3], [], [], 65536⟩, ⟨1, [6], [0], [0], 262136⟩, ⟨0, [], [], [], 524284⟩, ⟨2, [], [], [7], 1048572⟩, ⟨1, [7], [4], [4], 2097151⟩, ⟨0, [], [], [], 4194303⟩, ⟨0, [], [5], [5], 8388607⟩] [(0, _), (1, _), (2, _), (3, _), (4, _), (5, _), (6, _)] (by kernel_rfl) (by kernel_rfl) rfl ?_
            refine .det (B := []) rfl rfl (.inl rfl) .nil .nil rfl (RunB.lr (run_fieldAddr (.tmp rfl) fa24_3 (by first | exact Nat.zero_add _ | exact rfl))) ?_
            refine .det (B := []) rfl rfl (.inl rfl) (.cons rfl .nil) .nil rfl (RunB.lr (run_load1 (.tmp rfl) kd22 (by repeat (first | exact List.Mem.head _ | apply List.Mem.tail)) (by exact rfl))) ?_
            refine .det (B := []) rfl rfl (.inl rfl) .nil .nil rfl (RunB.lr (run_move (.tmp rfl))) ?_
            refine .det (B := []) rfl rfl (.inl rfl) .nil .nil rfl (RunB.lr (run_move (.tmp rfl))) ?_
            refine .det (B := []) rfl rfl (.inl rfl) .nil .nil rfl (RunB.lr (run_fieldAddr (.tmp rfl) fa50_0 (by first | exact Nat.zero_add _ | exact rfl))) ?_
            refine .det (B := []) rfl rfl (.inl rfl) (.cons rfl .nil) .nil rfl (RunB.lr (run_load1 (.tmp rfl) kd3 (by repeat (first | exact List.Mem.head _ | apply List.Mem.tail)) (by exact rfl))) ?_
            refine .det (B := []) rfl rfl (.inl rfl) .nil .nil rfl (RunB.lr (run_move (.tmp rfl))) ?_
            refine .det (B := []) rfl rfl (.inl rfl) .nil .nil rfl (RunB.lr (run_fieldAddr (.tmp rfl) fa50_1 (by first | exact Nat.zero_add _ | exact rfl))) ?_
            refine .det (B := []) rfl rfl (.inl rfl) (.cons rfl .nil) .nil rfl (RunB.lr (run_load1 (.tmp rfl) kd3 (by repeat (first | exact List.Mem.head _ | apply List.Mem.tail)) (by exact rfl))) ?_
            refine .det (B := []) rfl rfl (.inl rfl) .nil .nil rfl (RunB.lr (run_move (.tmp rfl))) ?_
            refine .det (B := []) rfl rfl (.inl rfl) .nil .nil rfl (RunB.lr (run_fieldAddr (.tmp rfl) fa50_2 (by first | exact Nat.zero_add _ | exact rfl))) ?_
            refine .det (B := []) rfl rfl (.inl rfl) (.cons rfl .nil) .nil rfl (RunB.lr (run_load1 (.tmp rfl) kd3 (by repeat (first | exact List.Mem.head _ | apply List.Mem.tail)) (by exact rfl))) ?_
            refine .det (B := []) rfl rfl (.inl rfl) .nil .nil rfl (RunB.lr (run_move (.tmp rfl))) ?_
            refine .det (B := []) rfl rfl (.inl rfl) .nil .nil rfl (RunB.lr (run_fieldAddr (.tmp rfl) fa50_3 (by first | exact Nat.zero_add _ | exact rfl))) ?_
            refine .det (B := []) rfl rfl (.inl rfl) (.cons rfl .nil) .nil rfl (RunB.lr (run_load1 (.tmp rfl) kd3 (by repeat (first | exact List.Mem.head _ | apply List.Mem.tail)) (by exact rfl))) ?_
            refine .ext (B := fun _ => [(0, (dC, cntO ((k2 + 1) + 1 + 1)))]) rfl rfl (.inl rfl) (.cons rfl .nil) (.cons rfl .nil) (fun _ => rfl) ⟨⟨h2, h2⟩, by simp only; omega⟩ (lr_callv (F := fun s : SpanD => 0 ≤ s.lo ∧ s.lo ≤ h2 ∧ h2 ≤ s.hi ∧ s.hi ≤ 1000) (r := fun s => .agg [.int .i64 s.lo, .int .i64 s.hi].toArray) (A := [(dC, cntO ((k2 + 1)))]) (B := fun _ => [(dC, cntO ((k2 + 1) + 1 + 1))]) cb73 (.tmp rfl) (.cons (.tmp rfl) (.cons .const (.cons .const .nil))) rfl (fun w2 hS hA => aroundK h2 30 1000 ((k2 + 1)) b1 bx dC pb po cap l w2 (by omega) (by omega) (by omega) (by omega) (hA (dC, cntO ((k2 + 1))) (by simp)) (hD.kept hS) (box_ne (hS.mem (by repeat (first | exact List.Mem.head _ | apply List.Mem.tail))) (hA (dC, cntO ((k2 + 1))) (by simp))) (own_cell1 (hS.mem (by repeat (first | exact List.Mem.head _ | apply List.Mem.tail)))))) ?_
            rintro s ⟨s0, s1, s2, s3⟩
            refine .ext (B := fun _ => [(0, (dC, cntO (((k2 + 1) + 1 + 1) + 1 + 1)))]) rfl rfl (.inl rfl) (.cons rfl .nil) (.cons rfl .nil) (fun _ => rfl) ⟨⟨a2, a2⟩, by simp only; omega⟩ (lr_callv (F := fun s : SpanD => 0 ≤ s.lo ∧ s.lo ≤ a2 ∧ a2 ≤ s.hi ∧ s.hi ≤ 20) (r := fun s => .agg [.int .i64 s.lo, .int .i64 s.hi].toArray) (A := [(dC, cntO (((k2 + 1) + 1 + 1)))]) (B := fun _ => [(dC, cntO (((k2 + 1) + 1 + 1) + 1 + 1))]) cb73 (.tmp rfl) (.cons (.tmp rfl) (.cons .const (.cons .const .nil))) rfl (fun w2 hS hA => aroundK a2 3 20 (((k2 + 1) + 1 + 1)) b1 bx dC pb po cap l w2 (by omega) (by omega) (by omega) (by omega) (hA (dC, cntO (((k2 + 1) + 1 + 1))) (by simp)) (hD.kept hS) (box_ne (hS.mem (by repeat (first | exact List.Mem.head _ | apply List.Mem.tail))) (hA (dC, cntO (((k2 + 1) + 1 + 1))) (by simp))) (own_cell1 (hS.mem (by repeat (first | exact List.Mem.head _ | apply List.Mem.tail)))))) ?_
            rintro s2 ⟨s20, s21, s22, s23⟩
            refine .ext (B := fun _ => [(0, (dC, cntO (((k2 + 1) + 1 + 1 + 1 + 1) + 1 + 1)))]) rfl rfl (.inl rfl) (.cons rfl .nil) (.cons rfl .nil) (fun _ => rfl) ⟨⟨b2_, b2_⟩, by simp only; omega⟩ (lr_callv (F := fun s : SpanD => 0 ≤ s.lo ∧ s.lo ≤ b2_ ∧ b2_ ≤ s.hi ∧ s.hi ≤ 20) (r := fun s => .agg [.int .i64 s.lo, .int .i64 s.hi].toArray) (A := [(dC, cntO (((k2 + 1) + 1 + 1 + 1 + 1)))]) (B := fun _ => [(dC, cntO (((k2 + 1) + 1 + 1 + 1 + 1) + 1 + 1))]) cb73 (.tmp rfl) (.cons (.tmp rfl) (.cons .const (.cons .const .nil))) rfl (fun w2 hS hA => aroundK b2_ 3 20 (((k2 + 1) + 1 + 1 + 1 + 1)) b1 bx dC pb po cap l w2 (by omega) (by omega) (by omega) (by omega) (hA (dC, cntO (((k2 + 1) + 1 + 1 + 1 + 1))) (by simp)) (hD.kept hS) (box_ne (hS.mem (by repeat (first | exact List.Mem.head _ | apply List.Mem.tail))) (hA (dC, cntO (((k2 + 1) + 1 + 1 + 1 + 1))) (by simp))) (own_cell1 (hS.mem (by repeat (first | exact List.Mem.head _ | apply List.Mem.tail)))))) ?_
            rintro s3 ⟨s30, s31, s32, s33⟩
            refine .ext (B := fun _ => [(0, (dC, cntO (((k2 + 1) + 1 + 1 + 1 + 1 + 1 + 1) + 1 + 1)))]) rfl rfl (.inl rfl) (.cons rfl .nil) (.cons rfl .nil) (fun _ => rfl) ⟨⟨c2, c2⟩, by simp only; omega⟩ (lr_callv (F := fun s : SpanD => 0 ≤ s.lo ∧ s.lo ≤ c2 ∧ c2 ≤ s.hi ∧ s.hi ≤ 20) (r := fun s => .agg [.int .i64 s.lo, .int .i64 s.hi].toArray) (A := [(dC, cntO (((k2 + 1) + 1 + 1 + 1 + 1 + 1 + 1)))]) (B := fun _ => [(dC, cntO (((k2 + 1) + 1 + 1 + 1 + 1 + 1 + 1) + 1 + 1))]) cb73 (.tmp rfl) (.cons (.tmp rfl) (.cons .const (.cons .const .nil))) rfl (fun w2 hS hA => aroundK c2 3 20 (((k2 + 1) + 1 + 1 + 1 + 1 + 1 + 1)) b1 bx dC pb po cap l w2 (by omega) (by omega) (by omega) (by omega) (hA (dC, cntO (((k2 + 1) + 1 + 1 + 1 + 1 + 1 + 1))) (by simp)) (hD.kept hS) (box_ne (hS.mem (by repeat (first | exact List.Mem.head _ | apply List.Mem.tail))) (hA (dC, cntO (((k2 + 1) + 1 + 1 + 1 + 1 + 1 + 1))) (by simp))) (own_cell1 (hS.mem (by repeat (first | exact List.Mem.head _ | apply List.Mem.tail)))))) ?_
            rintro s4 ⟨s40, s41, s42, s43⟩
            refine .det (B := []) rfl rfl (.inl rfl) .nil .nil rfl (RunB.lr (run_build_at (.cons (.tmp rfl) (.cons (.tmp rfl) (.cons (.tmp rfl) (.cons (.tmp rfl) (.cons (.tmp rfl) .nil))))) (fun w => bd55_0_1_2_3_4 w))) ?_
            refine .flo rfl rfl rfl (.lit rfl (.cons (.tmp rfl) .nil) (fun w => bs22_1_0 w)) trivial rfl rfl rfl ?_
            intro b134
            refine .ext (B := fun q => [(4, (q.1, _))]) rfl rfl (.inl rfl) (.cons rfl .nil) (.cons rfl .nil) (fun _ => rfl) (inrow_some (by rw [List.length_append, pitsC_length, hm]; simp only [List.length_cons, List.length_nil]; omega) (by unfold maxLen; omega)) (lr_append_row ap22 (.tmp rfl) hP (.tmp rfl) (news := pitC (⟨(n : Nat), s, s2, s3, s4⟩ : PitD)) rfl rfl (by omega) (by unfold maxLen; omega) (news_own (by repeat (first | exact List.Mem.head _ | apply List.Mem.tail)))) ?_
            rintro ⟨gW, cW, rW⟩ hW
            refine .det (B := []) rfl rfl (.inl rfl) .nil .nil rfl (RunB.lr (run_fieldAddr (.tmp rfl) fa24_3 (by first | exact Nat.zero_add _ | exact rfl))) ?_
            refine .det (B := [(5, (_, _))]) rfl rfl (.inl rfl) .nil (.cons rfl .nil) rfl (lr_store1 (.tmp rfl) (.tmp rfl) rfl sz22 (by repeat (first | exact Put.done | apply Put.put | apply Put.skip))) ?_
            refine chain_nil (ts := [0, 1, 2, 3, 4, 5, 6]) (.cons rfl (.cons rfl (.cons rfl (.cons rfl (.cons rfl (.cons rfl (.cons rfl .nil))))))) (by decide) ?_
            dsimp only at hW ⊢
            have hdig := hmd.dig (p := (⟨(n : Nat), s, s2, s3, s4⟩ : PitD)) hgrow rfl (by simp only [fitP, spanH]; omega) (by first | omega | (simp only [List.length_nil]; omega))
            have hW2 : InRow 9 (m + 1) cW rW (pitsC (ps ++ [(⟨(n : Nat), s, s2, s3, s4⟩ : PitD)])) := by rw [pitsC_append]; exact hW
            have hlw : (ps ++ [(⟨(n : Nat), s, s2, s3, s4⟩ : PitD)]).length = m + 1 := by rw [List.length_append, hm]; rfl
            refine xw_in ?_
            refine xw_then ?_
            refine cw_region ?_
            refine lstepB rfl rfl rfl (run_add (.tmp rfl) .const (by first | exact IntWalk.i64_in _ (by omega) | exact rfl)) ?_
            refine lstepB rfl rfl rfl (run_move (.tmp rfl)) ?_
            refine lnil ?_
            exact xw_round ⟨n + 1, ((k2 + 1) + 1 + 1 + 1 + 1 + 1 + 1 + 1 + 1), h2, a2, b2_, c2, L ++ [⟨h2, a2, b2_, c2⟩], m + 1, ps ++ [(⟨(n : Nat), s, s2, s3, s4⟩ : PitD)], (.two (gY, cgY, rgY) (gW, cW, rW))⟩ ⟨⟨by simp only; omega, by simp only; omega, by simp only; omega⟩, by simp only [okP]; omega, hdig, fun _ => hlast2, ⟨by simp only; omega, hlw, by simp only; omega, hY, hW2⟩⟩ (by simp only; omega) (by repeat (first | exact Less.nil | refine Less.cons rfl ?_)) (by repeat (first | exact Pick.nil | (apply Pick.cons; focus (repeat (first | exact Del.here | apply Del.there)))))
          ·
            refine lstepB rfl rfl rfl (run_eql (.tmp rfl) .const (by first | exact decide_eq_true (by omega) | exact decide_eq_false (by omega) | exact rfl)) ?_
            refine lstepB rfl rfl rfl (run_move (.tmp rfl)) ?_
            refine lyes rfl rfl rfl rfl ?_
            refine gstepB rfl rfl (run_fieldAddr (.tmp rfl) fa24_3 (by first | exact Nat.zero_add _ | exact rfl)) ?_
            refine lyes rfl rfl rfl rfl ?_
            refine gstepB rfl rfl (run_load1 (.tmp rfl) kd22 (by repeat (first | exact List.Mem.head _ | apply List.Mem.tail)) (by exact rfl)) ?_
            refine lyes rfl rfl rfl rfl ?_
            refine gstepB rfl rfl (run_len (.tmp rfl) sl22) ?_
            refine lyes rfl rfl rfl rfl ?_
            refine gstepB rfl rfl (run_lss (.tmp rfl) .const (by first | exact decide_eq_true (by omega) | exact decide_eq_false (by omega) | exact rfl)) ?_
            refine lstepB rfl rfl rfl (by first | exact run_pick_true (.tmp rfl) (.tmp rfl) | exact run_pick_false (.tmp rfl) .const) ?_
            refine lnil ?_
            refine xw_then ?_
            refine cw_cond_false (.tmp rfl) ?_
            refine cw_skip ?_
            refine xw_in ?_
            refine xw_then ?_
            refine cw_region ?_
            refine lstepB rfl rfl rfl (run_add (.tmp rfl) .const (by first | exact IntWalk.i64_in _ (by omega) | exact rfl)) ?_
            refine lstepB rfl rfl rfl (run_move (.tmp rfl)) ?_
            refine lnil ?_
            exact xw_round ⟨n + 1, (k2 + 1), h2, a2, b2_, c2, L ++ [⟨h2, a2, b2_, c2⟩], m, ps, (.two (gY, cgY, rgY) (gP, cP, rP))⟩ ⟨⟨by simp only; omega, by simp only; omega, by simp only; omega⟩, by simp only [okP]; omega, hgrow, fun _ => hlast2, ⟨by simp only; omega, hm, mpos, hY, hP⟩⟩ (by simp only; omega) (by repeat (first | exact Less.nil | refine Less.cons rfl ?_)) (by repeat (first | exact Pick.nil | (apply Pick.cons; focus (repeat (first | exact Del.here | apply Del.there)))))
        ·
          refine lstepB rfl rfl rfl (run_eql (.tmp rfl) .const (by first | exact decide_eq_true (by omega) | exact decide_eq_false (by omega) | exact rfl)) ?_
          refine lstepB rfl rfl rfl (run_move (.tmp rfl)) ?_
          refine lskip rfl rfl rfl rfl rfl rfl rfl ?_
          refine lskip rfl rfl rfl rfl rfl rfl rfl ?_
          refine lskip rfl rfl rfl rfl rfl rfl rfl ?_
          refine lskip rfl rfl rfl rfl rfl rfl rfl ?_
          refine lstepB rfl rfl rfl (by first | exact run_pick_true (.tmp rfl) (.tmp rfl) | exact run_pick_false (.tmp rfl) .const) ?_
          refine lnil ?_
          refine xw_then ?_
          refine cw_cond_false (.tmp rfl) ?_
          refine cw_skip ?_
          refine xw_in ?_
          refine xw_then ?_
          refine cw_region ?_
          refine lstepB rfl rfl rfl (run_add (.tmp rfl) .const (by first | exact IntWalk.i64_in _ (by omega) | exact rfl)) ?_
          refine lstepB rfl rfl rfl (run_move (.tmp rfl)) ?_
          refine lnil ?_
          exact xw_round ⟨n + 1, (k2 + 1), h2, a2, b2_, c2, L ++ [⟨h2, a2, b2_, c2⟩], m, ps, (.two (gY, cgY, rgY) (gP, cP, rP))⟩ ⟨⟨by simp only; omega, by simp only; omega, by simp only; omega⟩, by simp only [okP]; omega, hgrow, fun _ => hlast2, ⟨by simp only; omega, hm, mpos, hY, hP⟩⟩ (by simp only; omega) (by repeat (first | exact Less.nil | refine Less.cons rfl ?_)) (by repeat (first | exact Pick.nil | (apply Pick.cons; focus (repeat (first | exact Del.here | apply Del.there)))))
    ·
      have hne : (n : Int) = r + 1 := by omega
      subst hlen
      subst hm
      refine cw_exit ?_
      refine xw_then_exit ?_
      refine xw_then_exit ?_
      refine xw_in_exit ?_
      refine xw_then ?_
      refine cw_seq ?_
      refine cw_region ?_
      refine lstepB rfl rfl rfl (run_loadN (.tmp rfl) kd24 sz24 (by repeat (first | exact List.Mem.head _ | apply List.Mem.tail)) (by repeat (first | exact Sub.done | apply Sub.take | apply Sub.skip))) ?_
      refine lstepB rfl rfl rfl (run_move (.tmp rfl)) ?_
      refine lstep0 rfl rfl (run_storeN (.tmp rfl) (.tmp rfl) rfl sz24 rfl (by repeat (first | exact Upd.here | apply Upd.there)) (by repeat (first | exact Put.done | apply Put.put | apply Put.skip))) ?_
      refine lstepB rfl rfl rfl (run_assign (.tmp rfl)) ?_
      refine lnil ?_
      refine xw_then ?_
      refine cw_ret ?_
      exact xw_retC2 rfl rfl rfl kd24 sz24 (by repeat (first | exact List.Mem.head _ | apply List.Mem.tail)) (by repeat (first | exact Sub.done | apply Sub.take | apply Sub.skip)) (fun w hS => ⟨⟨⟨r, z, y, ps⟩, L, k, (gX, cX, rX), (some (gP, cP, rP))⟩, ⟨⟨hmd, hne, by simp only; omega, by simp only; omega, by simp only; omega⟩, hX, ⟨mpos, hP⟩⟩, rfl, tr_of (hS.pick (by repeat (first | exact Pick.nil | (apply Pick.cons; focus (repeat (first | exact Del.here | apply Del.there))))))⟩)
end Go.Proofs.Ytfmbnobkenngaaa
