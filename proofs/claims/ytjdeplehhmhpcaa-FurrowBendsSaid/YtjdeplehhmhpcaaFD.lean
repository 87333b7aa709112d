/- Package furrow: bendAt. -/
import Derived.Test.YtjdeplehhmhpcaaFC
namespace Go.Proofs.Ytjdeplehhmhpcaa
open Go.RowKit En

set_option maxRecDepth 100000 in
set_option maxHeartbeats 4000000 in
theorem bendAtK (l : List SpanD) (st : Nat) (s1 s2 s3 : SpanD) (a : Option Addr) (c : Nat) (w : World) (hn : l.length ≤ 1000) (h1 : 1 ≤ st) (e1 : l[st - 1]? = some s1) (e2 : l[st]? = some s2) (e3 : l[st + 1]? = some s3) (v1 : -900 ≤ s1.lo ∧ s1.lo ≤ s1.hi ∧ s1.hi ≤ 900 ∧ s1.hi - s1.lo ≤ 30) (v2 : -900 ≤ s2.lo ∧ s2.lo ≤ s2.hi ∧ s2.hi ≤ 900 ∧ s2.hi - s2.lo ≤ 30) (v3 : -900 ≤ s3.lo ∧ s3.lo ≤ s3.hi ∧ s3.hi ≤ 900 ∧ s3.hi - s3.lo ≤ 30) (hp : SpansAt w a l) :
    Gives Try.prog 50 [.slice a l.length c, .int .i64 (st : Int)] w (.agg (spanC (bendAtS s1 s2 s3)).toArray) := by
  have hst : st + 1 < l.length := (List.getElem?_eq_some_iff.1 e3).1
  obtain ⟨bc, oc, rfl, hbc, cc⟩ := hp.span (by omega)
  refine .mk <| enter (n := 41) Try.func50 rfl rfl rfl (by repeat (first | exact Fill.nil | apply Fill.cons)) ?_
  refine cw_seq ?_
  refine cw_region ?_
  refine lstep rfl rfl rfl (run_box1 (.tmp rfl) rfl) ?_
  intro b2 _
  refine lstep rfl rfl rfl (run_box1 (.tmp rfl) rfl) ?_
  intro b3 _
  refine lstep rfl rfl rfl (run_alloc zr67) ?_
  intro b4 _
  refine lnil ?_
  refine xw_then ?_
  refine cw_seq ?_
  refine cw_region ?_
  refine lstep rfl rfl rfl (run_alloc zr33) ?_
  intro b5 _
  refine lnil ?_
  refine xw_then ?_
  refine cw_seq ?_
  refine cw_seq ?_
  refine cw_region ?_
  refine lstepB rfl rfl rfl (run_load1 (.tmp rfl) kd69 (by repeat (first | exact List.Mem.head _ | apply List.Mem.tail)) (by exact rfl)) ?_
  refine lstepB rfl rfl rfl (run_load1 (.tmp rfl) kd3 (by repeat (first | exact List.Mem.head _ | apply List.Mem.tail)) (by exact rfl)) ?_
  refine lstepB rfl rfl rfl (run_sub (c := ((st - 1 : Nat) : Int)) (.tmp rfl) .const (by rw [show ((st - 1 : Nat) : Int) = (st : Int) - 1 by omega]; exact IntWalk.i64_in _ (by omega))) ?_
  refine lstepB rfl rfl rfl (run_indexAddr (i := st - 1) (off' := oc + (st - 1) * 2) (.tmp rfl) (.tmp rfl) el69 (by omega) rfl) ?_
  refine lstepB rfl rfl rfl (run_loadN_at (l := spanC s1) (.tmp rfl) kd67 sz67 rfl (fun w' hS j v hj => hS.old_cell (fun h => h) (cc _ _ e1 j v hj))) ?_
  refine lcallN rfl cb78 (.cons (.tmp rfl) .nil) (F := fun (z0 : Nat) B0 w' => AllF (s1.lo) (s1.hi) z0 B0 w') (fun w _ => allK _ _ w) ?_
  rintro zx Bx wx hAx hlox hsx htx hx
  have nx : ¬ blk _ bc := hx.not_blk (by first | exact hbc | exact Nat.lt_of_lt_of_le hbc (by assumption) | (have := World.block_lt_of_cell? _ _ (cc _ _ e1 0 _ rfl); exact this)) (fun h => h)
  have cx : ∀ i s, l[i]? = some s → ∀ j v, (spanC s)[j]? = some v → wx.cell? ⟨bc, oc + i * 2 + j, none⟩ = some v := fun i s hi j v hj => hx.old_cell (fun h => h) (cc i s hi j v hj)
  refine lnil ?_
  refine xw_then ?_
  refine cw_block ?_
  refine cw_range (f := 100) (xs := intsV (upL (s1.lo) (s1.hi))) (Cap := fun c => c = zx) (S := (List Int × Option (Nat × Nat × List Value))) (fun s => (b4, Obj.cells [.int .i64 0, .int .i64 0].toArray 67 (0, 0)) :: (b3, Obj.cells [.int .i64 (st : Int)].toArray 3 (0, 0)) :: (b2, Obj.cells [.slice (some ⟨bc, oc, none⟩) l.length c].toArray 69 (0, 0)) :: heldH b5 s.1 s.2) (fun k s => s.1 = bendsI ((upL s1.lo s1.hi).take k) (upL s2.lo s2.hi) (upL s3.lo s3.hi) ∧ Held s.1 s.2) ([], none) cb100 (.tmp rfl) rfl
    (fun w hS => all_iter (s1.lo) (s1.hi) zx w (by omega) (hS.old_cell (fun h => absurd (hlox _ h) (by have := hAx.1; omega)) hAx.2.1) (hS.old_cell (fun h => absurd (hlox _ h) (by have := hAx.1; omega)) hAx.2.2))
    (fun c hc => by subst hc; exact ⟨World.block_lt_of_cell? _ _ hAx.2.1, fun h => absurd (hlox _ h) (by have := hAx.1; omega)⟩) ⟨rfl, rfl⟩ (by repeat (first | exact Pick.nil | exact Pick.refl _ | (apply Pick.cons; focus (repeat (first | exact Del.here | apply Del.there))) | exact Pick.skip (Pick.refl _) | exact Pick.skip (Pick.skip (Pick.refl _)))) ?_ ?_
  ·
    intro L1 D1 fn1 tm1 k1 s x w2 hx1 hF1 h2
    obtain ⟨hk1, rfl⟩ := upV_inv hx1
    obtain ⟨l1, q1⟩ := s
    obtain ⟨hl1, hh1⟩ := hF1
    dsimp only at hl1 hh1 h2 ⊢
    subst hl1
    have n2 : ¬ blk _ bc := h2.not_blk (by first | exact hbc | exact Nat.lt_of_lt_of_le hbc (by assumption) | (have := World.block_lt_of_cell? _ _ (cx _ _ e1 0 _ rfl); exact this)) nx
    have c2 : ∀ i s, l[i]? = some s → ∀ j v, (spanC s)[j]? = some v → w2.cell? ⟨bc, oc + i * 2 + j, none⟩ = some v := fun i s hi j v hj => h2.old_cell nx (cx i s hi j v hj)
    refine cw_region ?_
    refine lstep rfl rfl rfl (run_alloc zr3) ?_
    intro b6 _
    refine lstep0 rfl rfl (run_store1 (.tmp rfl) (.tmp rfl) rfl sz3 (by repeat (first | exact Upd.here | apply Upd.there)) (by repeat (first | exact Put.done | apply Put.put | apply Put.skip))) ?_
    refine lnil ?_
    refine xw_pick (.cons (.there .here) (Pick.refl _)) ?_
    refine xw_begin rfl ?_
    refine cw_block ?_
    refine cw_seq ?_
    refine cw_region ?_
    refine lstepB rfl rfl rfl (run_load1 (.tmp rfl) kd69 (by repeat (first | exact List.Mem.head _ | apply List.Mem.tail)) (by exact rfl)) ?_
    refine lstepB rfl rfl rfl (run_load1 (.tmp rfl) kd3 (by repeat (first | exact List.Mem.head _ | apply List.Mem.tail)) (by exact rfl)) ?_
    refine lstepB rfl rfl rfl (run_indexAddr (i := st) (off' := oc + (st) * 2) (.tmp rfl) (.tmp rfl) el69 (by omega) rfl) ?_
    refine lstepB rfl rfl rfl (run_loadN_at (l := spanC s2) (.tmp rfl) kd67 sz67 rfl (fun w' hS j v hj => hS.old_cell n2 (c2 _ _ e2 j v hj))) ?_
    refine lcallN rfl cb78 (.cons (.tmp rfl) .nil) (F := fun (z0 : Nat) B0 w' => AllF (s2.lo) (s2.hi) z0 B0 w') (fun w _ => allK _ _ w) ?_
    rintro zy By wy hAy hloy hsy hty hy
    have ny : ¬ blk _ bc := hy.not_blk (by first | exact hbc | exact Nat.lt_of_lt_of_le hbc (by assumption) | (have := World.block_lt_of_cell? _ _ (c2 _ _ e1 0 _ rfl); exact this)) n2
    have cy : ∀ i s, l[i]? = some s → ∀ j v, (spanC s)[j]? = some v → wy.cell? ⟨bc, oc + i * 2 + j, none⟩ = some v := fun i s hi j v hj => hy.old_cell n2 (c2 i s hi j v hj)
    refine lnil ?_
    refine xw_then ?_
    refine cw_block ?_
    refine cw_rangeN (f := 100) (xs := intsV (upL (s2.lo) (s2.hi))) (Cap := fun c => c = zy) (S := (List Int × Option (Nat × Nat × List Value))) (fun s => (b6, Obj.cells [.int .i64 (s1.lo + (k1 : Int))].toArray 3 (0, 0)) :: (L1, recO fn1 tm1 15 _ _ D1 .busy none) :: (D1, dfr) :: (b4, Obj.cells [.int .i64 0, .int .i64 0].toArray 67 (0, 0)) :: (b3, Obj.cells [.int .i64 (st : Int)].toArray 3 (0, 0)) :: (b2, Obj.cells [.slice (some ⟨bc, oc, none⟩) l.length c].toArray 69 (0, 0)) :: heldH b5 s.1 s.2) (fun k s => s.1 = bendsI ((upL s1.lo s1.hi).take k1) (upL s2.lo s2.hi) (upL s3.lo s3.hi) ++ bendsI [s1.lo + (k1 : Int)] ((upL s2.lo s2.hi).take k) (upL s3.lo s3.hi) ∧ Held s.1 s.2) (bendsI ((upL s1.lo s1.hi).take k1) (upL s2.lo s2.hi) (upL s3.lo s3.hi), q1) cb100 (.tmp rfl) rfl
      (fun w hS => all_iter (s2.lo) (s2.hi) zy w (by omega) (hS.old_cell (fun h => absurd (hloy _ h) (by have := hAy.1; omega)) hAy.2.1) (hS.old_cell (fun h => absurd (hloy _ h) (by have := hAy.1; omega)) hAy.2.2))
      (fun c hc => by subst hc; exact ⟨World.block_lt_of_cell? _ _ hAy.2.1, fun h => absurd (hloy _ h) (by have := hAy.1; omega)⟩) ⟨by simp [bendsI], hh1⟩ (by repeat (first | exact List.Mem.head _ | apply List.Mem.tail)) (by repeat (first | exact Pick.nil | exact Pick.refl _ | (apply Pick.cons; focus (repeat (first | exact Del.here | apply Del.there))) | exact Pick.skip (Pick.refl _) | exact Pick.skip (Pick.skip (Pick.refl _)))) ?_ ?_
    ·
      intro L2 fn2 tm2 k2 s x w3 hx2 hF2 h3
      obtain ⟨hk2, rfl⟩ := upV_inv hx2
      obtain ⟨l2, q2⟩ := s
      obtain ⟨hl2, hh2⟩ := hF2
      dsimp only at hl2 hh2 h3 ⊢
      subst hl2
      have n3 : ¬ blk _ bc := h3.not_blk (by first | exact hbc | exact Nat.lt_of_lt_of_le hbc (by assumption) | (have := World.block_lt_of_cell? _ _ (cy _ _ e1 0 _ rfl); exact this)) ny
      have c3 : ∀ i s, l[i]? = some s → ∀ j v, (spanC s)[j]? = some v → w3.cell? ⟨bc, oc + i * 2 + j, none⟩ = some v := fun i s hi j v hj => h3.old_cell ny (cy i s hi j v hj)
      refine cw_region ?_
      refine lstep rfl rfl rfl (run_alloc zr3) ?_
      intro b7 _
      refine lstep0 rfl rfl (run_store1 (.tmp rfl) (.tmp rfl) rfl sz3 (by repeat (first | exact Upd.here | apply Upd.there)) (by repeat (first | exact Put.done | apply Put.put | apply Put.skip))) ?_
      refine lnil ?_
      refine xw_pick (.cons (.there .here) (Pick.refl _)) ?_
      refine xw_begin rfl ?_
      refine cw_block ?_
      refine cw_seq ?_
      refine cw_region ?_
      refine lstepB rfl rfl rfl (run_load1 (.tmp rfl) kd69 (by repeat (first | exact List.Mem.head _ | apply List.Mem.tail)) (by exact rfl)) ?_
      refine lstepB rfl rfl rfl (run_load1 (.tmp rfl) kd3 (by repeat (first | exact List.Mem.head _ | apply List.Mem.tail)) (by exact rfl)) ?_
      refine lstepB rfl rfl rfl (run_add (c := ((st + 1 : Nat) : Int)) (.tmp rfl) .const (by rw [show ((st + 1 : Nat) : Int) = (st : Int) + 1 by omega]; exact IntWalk.i64_in _ (by omega))) ?_
      refine lstepB rfl rfl rfl (run_indexAddr (i := st + 1) (off' := oc + (st + 1) * 2) (.tmp rfl) (.tmp rfl) el69 (by omega) rfl) ?_
      refine lstepB rfl rfl rfl (run_loadN_at (l := spanC s3) (.tmp rfl) kd67 sz67 rfl (fun w' hS j v hj => hS.old_cell n3 (c3 _ _ e3 j v hj))) ?_
      refine lcallN rfl cb78 (.cons (.tmp rfl) .nil) (F := fun (z0 : Nat) B0 w' => AllF (s3.lo) (s3.hi) z0 B0 w') (fun w _ => allK _ _ w) ?_
      rintro zz Bz wz hAz hloz hsz htz hz
      refine lnil ?_
      refine xw_then ?_
      refine cw_block ?_
      refine cw_rangeN (f := 100) (xs := intsV (upL (s3.lo) (s3.hi))) (Cap := fun c => c = zz) (S := (List Int × Option (Nat × Nat × List Value))) (fun s => (b7, Obj.cells [.int .i64 (s2.lo + (k2 : Int))].toArray 3 (0, 0)) :: (L2, recO fn2 tm2 21 _ _ D1 .busy none) :: (b6, Obj.cells [.int .i64 (s1.lo + (k1 : Int))].toArray 3 (0, 0)) :: (L1, recO fn1 tm1 15 _ _ D1 .busy none) :: (D1, dfr) :: (b4, Obj.cells [.int .i64 0, .int .i64 0].toArray 67 (0, 0)) :: (b3, Obj.cells [.int .i64 (st : Int)].toArray 3 (0, 0)) :: (b2, Obj.cells [.slice (some ⟨bc, oc, none⟩) l.length c].toArray 69 (0, 0)) :: heldH b5 s.1 s.2) (fun k s => s.1 = bendsI ((upL s1.lo s1.hi).take k1) (upL s2.lo s2.hi) (upL s3.lo s3.hi) ++ bendsI [s1.lo + (k1 : Int)] ((upL s2.lo s2.hi).take k2) (upL s3.lo s3.hi) ++ bendsI [s1.lo + (k1 : Int)] [s2.lo + (k2 : Int)] ((upL s3.lo s3.hi).take k) ∧ Held s.1 s.2) (bendsI ((upL s1.lo s1.hi).take k1) (upL s2.lo s2.hi) (upL s3.lo s3.hi) ++ bendsI [s1.lo + (k1 : Int)] ((upL s2.lo s2.hi).take k2) (upL s3.lo s3.hi), q2) cb100 (.tmp rfl) rfl
        (fun w hS => all_iter (s3.lo) (s3.hi) zz w (by omega) (hS.old_cell (fun h => absurd (hloz _ h) (by have := hAz.1; omega)) hAz.2.1) (hS.old_cell (fun h => absurd (hloz _ h) (by have := hAz.1; omega)) hAz.2.2))
        (fun c hc => by subst hc; exact ⟨World.block_lt_of_cell? _ _ hAz.2.1, fun h => absurd (hloz _ h) (by have := hAz.1; omega)⟩) ⟨by simp [bendsI], hh2⟩ (by repeat (first | exact List.Mem.head _ | apply List.Mem.tail)) (by repeat (first | exact Pick.nil | exact Pick.refl _ | (apply Pick.cons; focus (repeat (first | exact Del.here | apply Del.there))) | exact Pick.skip (Pick.refl _) | exact Pick.skip (Pick.skip (Pick.refl _)))) ?_ ?_
      ·
        intro L3 fn3 tm3 k3 s x w4 hx3 hF3 h4
        obtain ⟨hk3, rfl⟩ := upV_inv hx3
        obtain ⟨l3, q3⟩ := s
        obtain ⟨hl3, hh3⟩ := hF3
        dsimp only at hl3 hh3 h4 ⊢
        subst hl3
        have hsm : (bendsI ((upL s1.lo s1.hi).take k1) (upL s2.lo s2.hi) (upL s3.lo s3.hi) ++ bendsI [s1.lo + (k1 : Int)] ((upL s2.lo s2.hi).take k2) (upL s3.lo s3.hi) ++ bendsI [s1.lo + (k1 : Int)] [s2.lo + (k2 : Int)] ((upL s3.lo s3.hi).take k3)).length ≤ 80000 := bendsI_small (by rw [upL_length]; omega) (by rw [upL_length]; omega) (by rw [upL_length]; omega)
        have hsu : bendsI ((upL s1.lo s1.hi).take k1) (upL s2.lo s2.hi) (upL s3.lo s3.hi) ++ bendsI [s1.lo + (k1 : Int)] ((upL s2.lo s2.hi).take k2) (upL s3.lo s3.hi) ++ bendsI [s1.lo + (k1 : Int)] [s2.lo + (k2 : Int)] ((upL s3.lo s3.hi).take (k3 + 1)) = (bendsI ((upL s1.lo s1.hi).take k1) (upL s2.lo s2.hi) (upL s3.lo s3.hi) ++ bendsI [s1.lo + (k1 : Int)] ((upL s2.lo s2.hi).take k2) (upL s3.lo s3.hi) ++ bendsI [s1.lo + (k1 : Int)] [s2.lo + (k2 : Int)] ((upL s3.lo s3.hi).take k3)) ++ [bendI (s1.lo + (k1 : Int)) (s2.lo + (k2 : Int)) (s3.lo + (k3 : Int))] := by rw [bendsI_succ3 (upL_at hk3)]; simp only [List.append_assoc]
        generalize hL : bendsI ((upL s1.lo s1.hi).take k1) (upL s2.lo s2.hi) (upL s3.lo s3.hi) ++ bendsI [s1.lo + (k1 : Int)] ((upL s2.lo s2.hi).take k2) (upL s3.lo s3.hi) ++ bendsI [s1.lo + (k1 : Int)] [s2.lo + (k2 : Int)] ((upL s3.lo s3.hi).take k3) = M at *
        cases q3
        case none =>
          have hh3 : M = [] := hh3
          subst hh3
          dsimp only [heldH] at h4 ⊢
          refine cw_region ?_
          refine lstepB rfl rfl rfl (run_assign (.tmp rfl)) ?_
          refine lnil ?_
          refine xw_begin rfl ?_
          refine cw_block ?_
          refine cw_chain2 (σ := [0, 1, 2, 3, 4, 5, 6, 7]) [⟨0, [9], [], [], 0⟩, ⟨0, [3], [], [], 0⟩, ⟨0, [1], [], [], 0⟩, ⟨0, [], [], [], 0⟩, ⟨0, [], [], [], 14⟩, ⟨2, [], [], [10], 30⟩, ⟨1, [10], [], [11], 63⟩, ⟨0, [], [9], [9], 127⟩] [(0, _), (1, _), (2, _), (3, _), (4, _), (5, _), (6, _), (7, _), (8, _), (9, _)] (by kernel_rfl) (by kernel_rfl) rfl ?_
          refine .det (B := []) rfl rfl (.inl rfl) (.cons rfl .nil) .nil rfl (RunB.lr (run_load1 (.tmp rfl) kd33 (by repeat (first | exact List.Mem.head _ | apply List.Mem.tail)) (by exact rfl))) ?_
          refine .det (B := []) rfl rfl (.inl rfl) (.cons rfl .nil) .nil rfl (RunB.lr (run_load1 (.tmp rfl) kd3 (by repeat (first | exact List.Mem.head _ | apply List.Mem.tail)) (by exact rfl))) ?_
          refine .det (B := []) rfl rfl (.inl rfl) (.cons rfl .nil) .nil rfl (RunB.lr (run_load1 (.tmp rfl) kd3 (by repeat (first | exact List.Mem.head _ | apply List.Mem.tail)) (by exact rfl))) ?_
          refine .det (B := []) rfl rfl (.inl rfl) .nil .nil rfl (RunB.lr (run_move (.tmp rfl))) ?_
          refine .det (B := []) rfl rfl (.inl rfl) .nil .nil rfl (RunB.lr (run_call1 cb85 (.cons (.tmp rfl) (.cons (.tmp rfl) (.cons (.tmp rfl) .nil))) (fun w2 _ => bendOfK _ _ _ w2 (by omega) (by omega) (by omega)))) ?_
          refine .flo rfl rfl rfl (.lit rfl (.cons (.tmp rfl) .nil) (fun w => bs33_1_0 w)) trivial rfl rfl rfl ?_
          intro b34
          refine .ext (B := fun q => [(11, (q.1, _))]) rfl rfl (.inl rfl) (.cons rfl .nil) .nil (fun _ => rfl) (inrow_some (n := 1) (xs := [.int .i64 (bendI (s1.lo + (k1 : Int)) (s2.lo + (k2 : Int)) (s3.lo + (k3 : Int)))]) rfl (by decide)) (lr_append_nil ap33 (.tmp rfl) (.tmp rfl) (news := [.int .i64 (bendI (s1.lo + (k1 : Int)) (s2.lo + (k2 : Int)) (s3.lo + (k3 : Int)))]) rfl (by omega) (by omega) (by decide) (news_own (by repeat (first | exact List.Mem.head _ | apply List.Mem.tail)))) ?_
          rintro ⟨gW, cW, rW⟩ hW
          refine .det (B := [(9, (_, _))]) rfl rfl (.inl rfl) .nil (.cons rfl .nil) rfl (lr_store1 (.tmp rfl) (.tmp rfl) rfl sz33 (by repeat (first | exact Put.done | apply Put.put | apply Put.skip))) ?_
          refine chain_nil (ts := [11, 0, 1, 2, 3, 4, 5, 6, 7, 8, 9]) (.cons rfl (.cons rfl (.cons rfl (.cons rfl (.cons rfl (.cons rfl (.cons rfl (.cons rfl (.cons rfl (.cons rfl (.cons rfl .nil))))))))))) (by decide) ?_
          dsimp only at hW ⊢
          have hle : 1 = (([] : List Int) ++ [(bendI (s1.lo + (k1 : Int)) (s2.lo + (k2 : Int)) (s3.lo + (k3 : Int)))]).length := by simp
          have hW2 : InRow 1 (([] : List Int) ++ [(bendI (s1.lo + (k1 : Int)) (s2.lo + (k2 : Int)) (s3.lo + (k3 : Int)))]).length cW rW (intsV (([] : List Int) ++ [(bendI (s1.lo + (k1 : Int)) (s2.lo + (k2 : Int)) (s3.lo + (k3 : Int)))])) := by rw [← hle]; simpa [intsV] using hW
          rw [(show Value.slice (some ⟨gW, 0, none⟩) 1 cW = Value.slice (some ⟨gW, 0, none⟩) (([] : List Int) ++ [(bendI (s1.lo + (k1 : Int)) (s2.lo + (k2 : Int)) (s3.lo + (k3 : Int)))]).length cW from congrArg (fun n => Value.slice (some ⟨gW, 0, none⟩) n cW) hle)]
          refine xw_in ?_
          exact xw_rnextN (([] : List Int) ++ [(bendI (s1.lo + (k1 : Int)) (s2.lo + (k2 : Int)) (s3.lo + (k3 : Int)))], some (gW, cW, rW)) ⟨hsu.symm, by simp, hW2⟩ (by repeat (first | exact Pick.nil | exact Pick.refl _ | (apply Pick.cons; focus (repeat (first | exact Del.here | apply Del.there))) | exact Pick.skip (Pick.refl _) | exact Pick.skip (Pick.skip (Pick.refl _))))
        case some q =>
          obtain ⟨gX, cX, rX⟩ := q
          obtain ⟨hne, ho⟩ := hh3
          dsimp only at ho
          dsimp only [heldH] at h4 ⊢
          refine cw_region ?_
          refine lstepB rfl rfl rfl (run_assign (.tmp rfl)) ?_
          refine lnil ?_
          refine xw_begin rfl ?_
          refine cw_block ?_
          refine cw_chain2 (σ := [0, 1, 2, 3, 4, 5, 6, 7]) [⟨0, [10], [], [], 0⟩, ⟨0, [3], [], [], 0⟩, ⟨0, [1], [], [], 0⟩, ⟨0, [], [], [], 0⟩, ⟨0, [], [], [], 14⟩, ⟨2, [], [], [11], 30⟩, ⟨1, [11], [9], [9], 63⟩, ⟨0, [], [10], [10], 127⟩] [(0, _), (1, _), (2, _), (3, _), (4, _), (5, _), (6, _), (7, _), (8, _), (9, _), (10, _)] (by kernel_rfl) (by kernel_rfl) rfl ?_
          refine .det (B := []) rfl rfl (.inl rfl) (.cons rfl .nil) .nil rfl (RunB.lr (run_load1 (.tmp rfl) kd33 (by repeat (first | exact List.Mem.head _ | apply List.Mem.tail)) (by exact rfl))) ?_
          refine .det (B := []) rfl rfl (.inl rfl) (.cons rfl .nil) .nil rfl (RunB.lr (run_load1 (.tmp rfl) kd3 (by repeat (first | exact List.Mem.head _ | apply List.Mem.tail)) (by exact rfl))) ?_
          refine .det (B := []) rfl rfl (.inl rfl) (.cons rfl .nil) .nil rfl (RunB.lr (run_load1 (.tmp rfl) kd3 (by repeat (first | exact List.Mem.head _ | apply List.Mem.tail)) (by exact rfl))) ?_
          refine .det (B := []) rfl rfl (.inl rfl) .nil .nil rfl (RunB.lr (run_move (.tmp rfl))) ?_
          refine .det (B := []) rfl rfl (.inl rfl) .nil .nil rfl (RunB.lr (run_call1 cb85 (.cons (.tmp rfl) (.cons (.tmp rfl) (.cons (.tmp rfl) .nil))) (fun w2 _ => bendOfK _ _ _ w2 (by omega) (by omega) (by omega)))) ?_
          refine .flo rfl rfl rfl (.lit rfl (.cons (.tmp rfl) .nil) (fun w => bs33_1_0 w)) trivial rfl rfl rfl ?_
          intro b34
          refine .ext (B := fun q => [(9, (q.1, _))]) rfl rfl (.inl rfl) (.cons rfl .nil) (.cons rfl .nil) (fun _ => rfl) (inrow_some (by rw [List.length_append]; simp) (by unfold maxLen; omega)) (lr_append_row ap33 (.tmp rfl) ho (.tmp rfl) (news := [.int .i64 (bendI (s1.lo + (k1 : Int)) (s2.lo + (k2 : Int)) (s3.lo + (k3 : Int)))]) rfl rfl (by omega) (by unfold maxLen; omega) (news_own (by repeat (first | exact List.Mem.head _ | apply List.Mem.tail)))) ?_
          rintro ⟨gW, cW, rW⟩ hW
          refine .det (B := [(10, (_, _))]) rfl rfl (.inl rfl) .nil (.cons rfl .nil) rfl (lr_store1 (.tmp rfl) (.tmp rfl) rfl sz33 (by repeat (first | exact Put.done | apply Put.put | apply Put.skip))) ?_
          refine chain_nil (ts := [0, 1, 2, 3, 4, 5, 6, 7, 8, 9, 10]) (.cons rfl (.cons rfl (.cons rfl (.cons rfl (.cons rfl (.cons rfl (.cons rfl (.cons rfl (.cons rfl (.cons rfl (.cons rfl .nil))))))))))) (by decide) ?_
          dsimp only at hW ⊢
          have hle : (M.length + 1) = (M ++ [(bendI (s1.lo + (k1 : Int)) (s2.lo + (k2 : Int)) (s3.lo + (k3 : Int)))]).length := by simp
          have hW2 : InRow 1 (M ++ [(bendI (s1.lo + (k1 : Int)) (s2.lo + (k2 : Int)) (s3.lo + (k3 : Int)))]).length cW rW (intsV (M ++ [(bendI (s1.lo + (k1 : Int)) (s2.lo + (k2 : Int)) (s3.lo + (k3 : Int)))])) := by rw [← hle]; simpa [intsV] using hW
          rw [(show Value.slice (some ⟨gW, 0, none⟩) (M.length + 1) cW = Value.slice (some ⟨gW, 0, none⟩) (M ++ [(bendI (s1.lo + (k1 : Int)) (s2.lo + (k2 : Int)) (s3.lo + (k3 : Int)))]).length cW from congrArg (fun n => Value.slice (some ⟨gW, 0, none⟩) n cW) hle)]
          refine xw_in ?_
          exact xw_rnextN (M ++ [(bendI (s1.lo + (k1 : Int)) (s2.lo + (k2 : Int)) (s3.lo + (k3 : Int)))], some (gW, cW, rW)) ⟨hsu.symm, by simp, hW2⟩ (by repeat (first | exact Pick.nil | exact Pick.refl _ | (apply Pick.cons; focus (repeat (first | exact Del.here | apply Del.there))) | exact Pick.skip (Pick.refl _) | exact Pick.skip (Pick.skip (Pick.refl _))))
      ·
        intro s hF
        obtain ⟨l3, q3⟩ := s
        obtain ⟨hl3, hh3⟩ := hF
        dsimp only at hl3 hh3 ⊢
        rw [show bendsI ((upL s1.lo s1.hi).take k1) (upL s2.lo s2.hi) (upL s3.lo s3.hi) ++ bendsI [s1.lo + (k1 : Int)] ((upL s2.lo s2.hi).take k2) (upL s3.lo s3.hi) ++ bendsI [s1.lo + (k1 : Int)] [s2.lo + (k2 : Int)] ((upL s3.lo s3.hi).take (intsV (upL s3.lo s3.hi)).length) = bendsI ((upL s1.lo s1.hi).take k1) (upL s2.lo s2.hi) (upL s3.lo s3.hi) ++ bendsI [s1.lo + (k1 : Int)] ((upL s2.lo s2.hi).take (k2 + 1)) (upL s3.lo s3.hi) by rw [bendsI_succ2 (upL_at hk2), List.append_assoc]; simp [intsV]] at hl3
        refine xw_in ?_
        refine xw_in ?_
        refine xw_back0 hz ?_
        exact xw_rnextN (l3, q3) ⟨hl3, hh3⟩ (by repeat (first | exact Pick.nil | exact Pick.refl _ | (apply Pick.cons; focus (repeat (first | exact Del.here | apply Del.there))) | exact Pick.skip (Pick.refl _) | exact Pick.skip (Pick.skip (Pick.refl _))))
    ·
      intro s hF
      obtain ⟨l2, q2⟩ := s
      obtain ⟨hl2, hh2⟩ := hF
      dsimp only at hl2 hh2 ⊢
      rw [show bendsI ((upL s1.lo s1.hi).take k1) (upL s2.lo s2.hi) (upL s3.lo s3.hi) ++ bendsI [s1.lo + (k1 : Int)] ((upL s2.lo s2.hi).take (intsV (upL s2.lo s2.hi)).length) (upL s3.lo s3.hi) = bendsI ((upL s1.lo s1.hi).take (k1 + 1)) (upL s2.lo s2.hi) (upL s3.lo s3.hi) by rw [bendsI_succ (upL_at hk1)]; simp [intsV]] at hl2
      refine xw_in ?_
      refine xw_in ?_
      refine xw_back0 hy ?_
      exact xw_rnext (l2, q2) ⟨hl2, hh2⟩ (by repeat (first | exact Pick.nil | exact Pick.refl _ | (apply Pick.cons; focus (repeat (first | exact Del.here | apply Del.there))) | exact Pick.skip (Pick.refl _) | exact Pick.skip (Pick.skip (Pick.refl _))))
  ·
    intro D s hF
    obtain ⟨l1, q1⟩ := s
    obtain ⟨hl1, hh1⟩ := hF
    dsimp only at hl1 hh1 ⊢
    rw [show (intsV (upL s1.lo s1.hi)).length = (upL s1.lo s1.hi).length by simp [intsV], List.take_length] at hl1
    have hpos : 1 ≤ l1.length := by
      rw [hl1, bendsI_length, upL_length, upL_length, upL_length]
      exact Nat.mul_pos (by omega) (Nat.mul_pos (by omega) (by omega))
    have hsm : l1.length ≤ 80000 := by
      have := bendsI_small (A := (upL s1.lo s1.hi)) (B := (upL s2.lo s2.hi)) (C := (upL s3.lo s3.hi)) (a := 0) (b := 0) (k1 := (upL s1.lo s1.hi).length) (k2 := 0) (k3 := 0) (by rw [upL_length]; omega) (by rw [upL_length]; omega) (by rw [upL_length]; omega)
      rw [hl1]
      simp only [List.length_append, List.take_length] at this
      omega
    cases q1
    case none =>
      have hh1 : l1 = [] := hh1
      rw [hh1] at hpos
      exact absurd hpos (by simp)
    case some q =>
      obtain ⟨gX, cX, rX⟩ := q
      obtain ⟨hne, ho⟩ := hh1
      dsimp only at ho
      dsimp only [heldH]
      refine xw_in ?_
      refine xw_then ?_
      refine cw_seq ?_
      refine cw_chain2 (σ := [0, 1, 2, 3, 4, 5]) [⟨0, [5], [], [], 0⟩, ⟨0, [4], [], [], 1⟩, ⟨0, [5], [], [], 0⟩, ⟨0, [4], [], [], 7⟩, ⟨0, [], [], [], 15⟩, ⟨0, [], [1], [1], 31⟩] [(0, _), (1, _), (2, _), (3, _), (4, _), (5, _)] (by kernel_rfl) (by kernel_rfl) rfl ?_
      refine .det (B := []) rfl rfl (.inl rfl) (.cons rfl .nil) .nil rfl (RunB.lr (run_load1 (.tmp rfl) kd33 (by repeat (first | exact List.Mem.head _ | apply List.Mem.tail)) (by exact rfl))) ?_
      refine .det (B := []) rfl rfl (.inl rfl) (.cons rfl .nil) .nil rfl (RunB.lr (run_call1 cb86 (.cons (.tmp rfl) .nil) (fun w2 hS => minK l1 _ _ w2 hpos (by omega) (intsAt_row (hS.mem (by repeat (first | exact List.Mem.head _ | apply List.Mem.tail))) ho)))) ?_
      refine .det (B := []) rfl rfl (.inl rfl) (.cons rfl .nil) .nil rfl (RunB.lr (run_load1 (.tmp rfl) kd33 (by repeat (first | exact List.Mem.head _ | apply List.Mem.tail)) (by exact rfl))) ?_
      refine .det (B := []) rfl rfl (.inl rfl) (.cons rfl .nil) .nil rfl (RunB.lr (run_call1 cb87 (.cons (.tmp rfl) .nil) (fun w2 hS => maxK l1 _ _ w2 hpos (by omega) (intsAt_row (hS.mem (by repeat (first | exact List.Mem.head _ | apply List.Mem.tail))) ho)))) ?_
      refine .det (B := []) rfl rfl (.inl rfl) .nil .nil rfl (RunB.lr (run_call1 cb83 (.cons (.tmp rfl) (.cons (.tmp rfl) .nil)) (fun w2 _ => betweenK _ _ w2))) ?_
      refine .det (B := [(1, (_, _))]) rfl rfl (.inl rfl) .nil (.cons rfl .nil) rfl (lr_storeN (.tmp rfl) (.tmp rfl) rfl sz67 rfl (by repeat (first | exact Put.done | apply Put.put | apply Put.skip))) ?_
      refine chain_nil (ts := [0, 1, 2, 3, 4, 5]) (.cons rfl (.cons rfl (.cons rfl (.cons rfl (.cons rfl (.cons rfl .nil)))))) (by decide) ?_
      refine xw_then ?_
      refine cw_ret ?_
      subst hl1
      refine xw_pick (H' := (D, dfr) :: (b4, _) :: []) (by repeat (first | exact Pick.nil | (apply Pick.cons; focus (repeat (first | exact Del.here | apply Del.there))))) ?_
      refine xw_retD1C Try.results50 rfl kd67 sz67 (by repeat (first | exact List.Mem.head _ | apply List.Mem.tail)) (by repeat (first | exact Sub.done | apply Sub.take | apply Sub.skip)) (fun w hS => ⟨rfl, (hx.join0 hS).kept⟩)
end Go.Proofs.Ytjdeplehhmhpcaa
