/- Furrow: FurrowTurned's walk. -/
import Derived.Test.YtjdeplehhmhpcaaGR
namespace Go.Proofs.Ytjdeplehhmhpcaa
open Go.RowKit En

theorem wrongR_err {f x : FurrowD} {most ws we : Int} (hv : validB f = true) (hx : validB x = true) (h : wrongR f most = (ws, we)) : ∃ wq, wrongR x most = (wq, we) := by
  unfold wrongR at h ⊢
  rw [hv, if_pos rfl] at h
  rw [hx, if_pos rfl]
  by_cases hm : 0 ≤ most
  · rw [if_pos hm] at h ⊢
    cases h
    exact ⟨_, rfl⟩
  · rw [if_neg hm] at h ⊢
    cases h
    exact ⟨_, rfl⟩
theorem rev_wrongR {f z : FurrowD} (hf : ValidF f) (hz : validB z = true) (h : IsRev f.offs z.offs) (h6 : f.offs.length ≤ 6) (most : Int) : ∃ (s v : Nat) (e : Int), wrongR f most = ((s : Int), e) ∧ wrongR z most = ((v : Int), e) ∧ s < 256 ∧ v < 256 ∧ sizeN s = sizeN v := by
  have hvb : validB f = true := narrow_valid hf ⟨rfl, rfl, rfl, fun k hk => by have := hf.st hk; unfold SubS; omega⟩
  unfold wrongR
  rw [hz, hvb]
  by_cases hm : 0 ≤ most
  · obtain ⟨s, h1, h2, _⟩ := wrong_spec hf hm
    obtain ⟨v, g1, g2, _⟩ := wrong_spec (validF hz) hm
    have hl := h.len
    have e : 2 ^ f.offs.length ≤ 2 ^ 8 := Nat.pow_le_pow_right (by omega) (by omega)
    rw [hl] at g2
    have a := rev_wrong_le hf (validF hz) h h6 hm h1 g1
    have b := rev_wrong_le (validF hz) hf h.symm (by omega) hm g1 h1
    exact ⟨s, v, 0, by rw [if_pos rfl, if_pos hm, h1], by rw [if_pos rfl, if_pos hm, g1], by omega, by omega, by omega⟩
  · exact ⟨0, 0, 2, by rw [if_pos rfl, if_neg hm]; rfl, by rw [if_pos rfl, if_neg hm]; rfl, by omega, by omega, rfl⟩
set_option maxRecDepth 100000 in
set_option maxHeartbeats 4000000 in
theorem furrowTurned_any (f : FurrowD) (oa wa da : Option Addr) (oc wc dc : Nat) (most by_ st_ : Int) (w : World) (hbnd : f.offs.length ≤ 9223372036854775807 ∧ f.wids.length ≤ 9223372036854775807 ∧ f.deps.length ≤ 9223372036854775807) (hf : FurrowAt w f oa wa da) (hby : -128 ≤ by_ ∧ by_ ≤ 127) (hst : -128 ≤ st_ ∧ st_ ≤ 127) : Gives Try.prog 11 [furrowV f oa wa da oc wc dc, .int .i64 most, .int .i8 by_, .int .i8 st_] w (.bool true) := by
  cases hh : heavyB f 6 6
  ·
    have h40 : ¬ 40 < lenM f := fun h => by unfold heavyB at hh; rw [if_pos h] at hh; cases hh
    have hm := lenM_lens h40
    cases hv : validB f
    ·
      refine .mk <| enter (n := 382) Try.func11 rfl rfl rfl (by repeat (first | exact Fill.nil | apply Fill.cons)) ?_
      refine cw_seq ?_
      refine cw_region ?_
      refine lstep rfl rfl rfl (run_boxN (.tmp rfl)) ?_
      intro b4 _
      refine lstepB rfl rfl rfl (run_assign .const) ?_
      refine lnil ?_
      refine xw_then ?_
      refine cw_seq ?_
      refine cw_seq ?_
      refine cw_region ?_
      refine lstepB rfl rfl rfl (run_loadN (.tmp rfl) kd24 sz24 (by repeat (first | exact List.Mem.head _ | apply List.Mem.tail)) (by repeat (first | exact Sub.done | apply Sub.take | apply Sub.skip))) ?_
      refine lstepB rfl rfl rfl (run_call1 cb12 (.cons (.tmp rfl) (.cons .const (.cons .const .nil))) (fun w2 hS => (heavyK f _ _ _ oc wc dc 6 6 w2 hbnd (hf.kept hS.kept)).as (congrArg Value.bool hh))) ?_
      refine lstepB rfl rfl rfl (run_move (.tmp rfl)) ?_
      refine lyes rfl rfl rfl rfl ?_
      refine gstepB rfl rfl (run_loadN (.tmp rfl) kd24 sz24 (by repeat (first | exact List.Mem.head _ | apply List.Mem.tail)) (by repeat (first | exact Sub.done | apply Sub.take | apply Sub.skip))) ?_
      refine lyes rfl rfl rfl rfl ?_
      refine gstepB rfl rfl (run_call1 cb35 (.cons (.tmp rfl) .nil) (fun w2 hS => (rFurrowK f _ _ _ oc wc dc w2 hm (hf.kept hS.kept)).as (congrArg Value.bool hv))) ?_
      refine lyes rfl rfl rfl rfl ?_
      refine gstepB rfl rfl (run_not (.tmp rfl) (by first | exact Bool.not_true | exact Bool.not_false | exact rfl)) ?_
      refine lstepB rfl rfl rfl (by first | exact run_pick_true (.tmp rfl) .const | exact run_pick_false (.tmp rfl) (.tmp rfl)) ?_
      refine lnil ?_
      refine xw_then ?_
      refine cw_cond_true (.tmp rfl) ?_
      refine cw_seq ?_
      refine cw_region ?_
      refine lstepB rfl rfl rfl (run_call1 cb13 .nil (fun w _ => aliveK w)) ?_
      refine lstepB rfl rfl rfl (run_assign (.tmp rfl)) ?_
      refine lnil ?_
      refine xw_then ?_
      refine cw_ret ?_
      refine xw_then_ret ?_
      refine xw_ret1 Try.results11 rfl (fun w hS => ⟨rfl, hS.kept⟩)
    ·
      have hvf := validF hv
      have hfine := hvf.fine
      have hwl := hvf.wids
      have hdl := hvf.deps
      have hn6 : f.offs.length ≤ 6 := by
        unfold heavyB at hh
        rw [if_neg h40, hv, if_pos rfl, Bool.or_eq_false_iff, decide_eq_false_iff_not] at hh
        have := hh.2
        unfold lenM at this
        omega
      have ha10 : -9 ≤ (by_.tmod 10) ∧ (by_.tmod 10) ≤ 9 := by
        have h1 := Int.tmod_lt_of_pos by_ (show (0 : Int) < 10 by omega)
        have h2 := Int.lt_tmod_of_pos by_ (show (0 : Int) < 10 by omega)
        omega
      have hb4 : -3 ≤ (st_.tmod 4) ∧ (st_.tmod 4) ≤ 3 := by
        have h1 := Int.tmod_lt_of_pos st_ (show (0 : Int) < 4 by omega)
        have h2 := Int.lt_tmod_of_pos st_ (show (0 : Int) < 4 by omega)
        omega
      refine .mk <| enter (n := 382) Try.func11 rfl rfl rfl (by repeat (first | exact Fill.nil | apply Fill.cons)) ?_
      refine cw_seq ?_
      refine cw_region ?_
      refine lstep rfl rfl rfl (run_boxN (.tmp rfl)) ?_
      intro b4 _
      refine lstepB rfl rfl rfl (run_assign .const) ?_
      refine lnil ?_
      refine xw_then ?_
      refine cw_seq ?_
      refine cw_seq ?_
      refine cw_region ?_
      refine lstepB rfl rfl rfl (run_loadN (.tmp rfl) kd24 sz24 (by repeat (first | exact List.Mem.head _ | apply List.Mem.tail)) (by repeat (first | exact Sub.done | apply Sub.take | apply Sub.skip))) ?_
      refine lstepB rfl rfl rfl (run_call1 cb12 (.cons (.tmp rfl) (.cons .const (.cons .const .nil))) (fun w2 hS => (heavyK f _ _ _ oc wc dc 6 6 w2 hbnd (hf.kept hS.kept)).as (congrArg Value.bool hh))) ?_
      refine lstepB rfl rfl rfl (run_move (.tmp rfl)) ?_
      refine lyes rfl rfl rfl rfl ?_
      refine gstepB rfl rfl (run_loadN (.tmp rfl) kd24 sz24 (by repeat (first | exact List.Mem.head _ | apply List.Mem.tail)) (by repeat (first | exact Sub.done | apply Sub.take | apply Sub.skip))) ?_
      refine lyes rfl rfl rfl rfl ?_
      refine gstepB rfl rfl (run_call1 cb35 (.cons (.tmp rfl) .nil) (fun w2 hS => (rFurrowK f _ _ _ oc wc dc w2 hm (hf.kept hS.kept)).as (congrArg Value.bool hv))) ?_
      refine lyes rfl rfl rfl rfl ?_
      refine gstepB rfl rfl (run_not (.tmp rfl) (by first | exact Bool.not_true | exact Bool.not_false | exact rfl)) ?_
      refine lstepB rfl rfl rfl (by first | exact run_pick_true (.tmp rfl) .const | exact run_pick_false (.tmp rfl) (.tmp rfl)) ?_
      refine lnil ?_
      refine xw_then ?_
      refine cw_cond_false (.tmp rfl) ?_
      refine cw_skip ?_
      refine xw_then ?_
      refine cw_seq ?_
      refine cw_region ?_
      refine lstepB rfl rfl rfl (run_fieldAddr (.tmp rfl) fa24_0 (by first | exact Nat.zero_add _ | exact rfl)) ?_
      refine lstepB rfl rfl rfl (run_load1 (.tmp rfl) kd22 (by repeat (first | exact List.Mem.head _ | apply List.Mem.tail)) (by exact rfl)) ?_
      refine lstepB rfl rfl rfl (run_len (.tmp rfl) sl22) ?_
      refine lstep rfl rfl rfl (run_alloc zr3) ?_
      intro b9 _
      refine lstep0 rfl rfl (run_store1 (.tmp rfl) (.tmp rfl) rfl sz3 (by repeat (first | exact Upd.here | apply Upd.there)) (by repeat (first | exact Put.done | apply Put.put | apply Put.skip))) ?_
      refine lnil ?_
      refine xw_then ?_
      refine cw_seq ?_
      refine cw_chain2 (σ := [0, 1, 2, 3, 4, 5, 6, 7, 8]) [⟨0, [1], [], [], 0⟩, ⟨0, [1], [], [], 0⟩, ⟨0, [], [], [], 0⟩, ⟨2, [], [], [2], 0⟩, ⟨2, [], [], [3], 0⟩, ⟨2, [], [], [4], 0⟩, ⟨0, [], [2], [2], 57⟩, ⟨0, [], [3], [3], 123⟩, ⟨0, [], [4], [4], 255⟩] [(0, _), (1, _)] (by kernel_rfl) (by kernel_rfl) rfl ?_
      refine .det (B := []) rfl rfl (.inl rfl) (.cons rfl .nil) .nil rfl (RunB.lr (run_loadN (.tmp rfl) kd24 sz24 (by repeat (first | exact List.Mem.head _ | apply List.Mem.tail)) (by repeat (first | exact Sub.done | apply Sub.take | apply Sub.skip)))) ?_
      refine .det (B := []) rfl rfl (.inl rfl) (.cons rfl .nil) .nil rfl (RunB.lr (run_loadN (.tmp rfl) kd24 sz24 (by repeat (first | exact List.Mem.head _ | apply List.Mem.tail)) (by repeat (first | exact Sub.done | apply Sub.take | apply Sub.skip)))) ?_
      refine .det (B := []) rfl rfl (.inl rfl) .nil .nil rfl (RunB.lr (run_build_at .nil (fun w => bd24_ w))) ?_
      refine .flo rfl rfl rfl (.alloc rfl zr24) trivial rfl rfl rfl ?_
      intro b10
      refine .flo rfl rfl rfl (.alloc rfl zr24) trivial rfl rfl rfl ?_
      intro b11
      refine .flo rfl rfl rfl (.alloc rfl zr24) trivial rfl rfl rfl ?_
      intro b12
      refine .det (B := [(2, (_, _))]) rfl rfl (.inl rfl) .nil (.cons rfl .nil) rfl (lr_storeN (.tmp rfl) (.tmp rfl) rfl sz24 rfl (by repeat (first | exact Put.done | apply Put.put | apply Put.skip))) ?_
      refine .det (B := [(3, (_, _))]) rfl rfl (.inl rfl) .nil (.cons rfl .nil) rfl (lr_storeN (.tmp rfl) (.tmp rfl) rfl sz24 rfl (by repeat (first | exact Put.done | apply Put.put | apply Put.skip))) ?_
      refine .det (B := [(4, (_, _))]) rfl rfl (.inl rfl) .nil (.cons rfl .nil) rfl (lr_storeN (.tmp rfl) (.tmp rfl) rfl sz24 rfl (by repeat (first | exact Put.done | apply Put.put | apply Put.skip))) ?_
      refine chain_nil (ts := [4, 3, 2, 0, 1]) (.cons rfl (.cons rfl (.cons rfl (.cons rfl (.cons rfl .nil))))) (by decide) ?_
      refine xw_then ?_
      refine cw_seq ?_
      refine cw_region ?_
      refine lstepB rfl rfl rfl (run_fieldAddr (.tmp rfl) fa24_0 (by first | exact Nat.zero_add _ | exact rfl)) ?_
      refine lstep0 rfl rfl (run_store1 (.tmp rfl) .const rfl sz22 (by repeat (first | exact Upd.here | apply Upd.there)) (by repeat (first | exact Put.done | apply Put.put | apply Put.skip))) ?_
      refine lstepB rfl rfl rfl (run_fieldAddr (.tmp rfl) fa24_0 (by first | exact Nat.zero_add _ | exact rfl)) ?_
      refine lstep0 rfl rfl (run_store1 (.tmp rfl) .const rfl sz22 (by repeat (first | exact Upd.here | apply Upd.there)) (by repeat (first | exact Put.done | apply Put.put | apply Put.skip))) ?_
      refine lnil ?_
      refine xw_then ?_
      refine cw_seq ?_
      refine cw_seq ?_
      refine cw_region ?_
      refine lstepB rfl rfl rfl (run_fieldAddr (.tmp rfl) fa24_0 (by first | exact Nat.zero_add _ | exact rfl)) ?_
      refine lstepB rfl rfl rfl (run_load1 (.tmp rfl) kd22 (by repeat (first | exact List.Mem.head _ | apply List.Mem.tail)) (by exact rfl)) ?_
      refine lstepB rfl rfl rfl (run_len (.tmp rfl) sl22) ?_
      refine lstepB rfl rfl rfl (run_move .const) ?_
      refine lnil ?_
      refine xw_then ?_
      refine cw_block ?_
      refine cw_loop (S := TurS) (fun s => [(68, .int .i64 ((s.k : Nat) : Int))]) [(1, _), (2, _), (3, _), (4, _), (9, _), (10, _), (11, _), (12, _), (65, _), (66, _), (67, _)] (fun s => (match s.rows with | .zero => [(b10, Obj.cells [.slice none 0 0, .slice wa f.wids.length wc, .slice da f.deps.length dc].toArray 24 (0, 0)), (b11, Obj.cells [.slice none 0 0, .slice wa f.wids.length wc, .slice da f.deps.length dc].toArray 24 (0, 0)), (b12, Obj.cells [.slice none 0 0, .slice none 0 0, .slice none 0 0].toArray 24 (0, 0))] | .five x y o w d => [(x.1, Obj.cells x.2.2.toArray 28 (0, 0)), (y.1, Obj.cells y.2.2.toArray 28 (0, 0)), (o.1, Obj.cells o.2.2.toArray 28 (0, 0)), (w.1, Obj.cells w.2.2.toArray 28 (0, 0)), (d.1, Obj.cells d.2.2.toArray 28 (0, 0)), (b10, Obj.cells [(.slice (some ⟨x.1, 0, none⟩) s.k x.2.1), .slice wa f.wids.length wc, .slice da f.deps.length dc].toArray 24 (0, 0)), (b11, Obj.cells [(.slice (some ⟨y.1, 0, none⟩) s.k y.2.1), .slice wa f.wids.length wc, .slice da f.deps.length dc].toArray 24 (0, 0)), (b12, Obj.cells [(.slice (some ⟨o.1, 0, none⟩) s.k o.2.1), (.slice (some ⟨w.1, 0, none⟩) s.k w.2.1), (.slice (some ⟨d.1, 0, none⟩) s.k d.2.1)].toArray 24 (0, 0))]) ++ [(b9, Obj.cells [.int .i64 (f.offs.length : Int)].toArray 3 (0, 0)), (b4, Obj.cells (furrowC f oa wa da oc wc dc).toArray 24 (0, 0))]) (fun s => s.k ≤ f.offs.length ∧ match s.rows with | .zero => s.k = 0 | .five x y o w d => 0 < s.k ∧ InRow 2 s.k x.2.1 x.2.2 (spansC (alongL s.k (fun k => ⟨(f.offs.getD k default).lo + farI (by_.tmod 10) (st_.tmod 4) k, (f.offs.getD k default).hi + farI (by_.tmod 10) (st_.tmod 4) k⟩))) ∧ InRow 2 s.k y.2.1 y.2.2 (spansC (alongL s.k (fun k => ⟨-(f.offs.getD k default).hi, -(f.offs.getD k default).lo⟩))) ∧ InRow 2 s.k o.2.1 o.2.2 (spansC (alongL s.k (fun k => f.offs.getD (f.offs.length - 1 - k) default))) ∧ InRow 2 s.k w.2.1 w.2.2 (spansC (alongL s.k (fun k => f.wids.getD (f.offs.length - 1 - k) default))) ∧ InRow 2 s.k d.2.1 d.2.2 (spansC (alongL s.k (fun k => f.deps.getD (f.offs.length - 1 - k) default)))) (fun s => f.offs.length - s.k) ⟨0, .zero⟩ ⟨Nat.zero_le _, rfl⟩ (by repeat (first | exact Less.nil | refine Less.cons rfl ?_)) (by repeat (first | exact Pick.nil | (apply Pick.cons; focus (repeat (first | exact Del.here | apply Del.there))))) ?_
      intro s hs
      obtain ⟨k, rows⟩ := s
      obtain ⟨hk, hrows⟩ := hs
      dsimp only at hk hrows ⊢
      cases rows
      case zero =>
        dsimp only at hrows ⊢
        obtain rfl := hrows
        refine cw_seq ?_
        refine cw_region ?_
        refine lstepB rfl rfl rfl (run_lss (.tmp rfl) (.tmp rfl) rfl) ?_
        refine lnil ?_
        refine xw_then ?_
        refine cw_seq ?_
        refine cw_cond_p (.tmp rfl) (fun hl => ?_) (fun hl => ?_)
        ·
          have hkn : 0 < f.offs.length := by omega
          obtain ⟨bo, oo, hoa, hbo, hco⟩ := hf.offs.span (by omega)
          subst hoa
          obtain ⟨bw, ow, hwa, hbw, hcw⟩ := hf.wids.span (by omega)
          subst hwa
          obtain ⟨bd, od, hda, hbd, hcd⟩ := hf.deps.span (by omega)
          subst hda
          obtain ⟨sp, hsp⟩ : ∃ sp, sp = f.offs.getD 0 default := ⟨_, rfl⟩
          have hsk : f.offs[0]? = some sp := by rw [hsp]; exact getD_some hkn
          have hst := (hvf.st hkn).1
          rw [← hsp] at hst
          obtain ⟨so, hso⟩ : ∃ so, so = f.offs.getD (f.offs.length - 1 - 0) default := ⟨_, rfl⟩
          have hsok : f.offs[f.offs.length - 1 - 0]? = some so := by rw [hso]; exact getD_some (by omega)
          obtain ⟨sw, hsw⟩ : ∃ sw, sw = f.wids.getD (f.offs.length - 1 - 0) default := ⟨_, rfl⟩
          have hswk : f.wids[f.offs.length - 1 - 0]? = some sw := by rw [hsw]; exact getD_some (by omega)
          obtain ⟨sd, hsd⟩ : ∃ sd, sd = f.deps.getD (f.offs.length - 1 - 0) default := ⟨_, rfl⟩
          have hsdk : f.deps[f.offs.length - 1 - 0]? = some sd := by rw [hsd]; exact getD_some (by omega)
          have hmb1 : ((0 : Nat) : Int) * (st_.tmod 4) ≤ ((0 : Nat) : Int) * 3 := Int.mul_le_mul_of_nonneg_left hb4.2 (by omega)
          have hmb2 : ((0 : Nat) : Int) * (-3) ≤ ((0 : Nat) : Int) * (st_.tmod 4) := Int.mul_le_mul_of_nonneg_left hb4.1 (by omega)
          obtain ⟨far, hfar⟩ : ∃ far, far = farI (by_.tmod 10) (st_.tmod 4) 0 := ⟨_, rfl⟩
          have hfe : far = (by_.tmod 10) + ((0 : Nat) : Int) * (st_.tmod 4) := hfar
          have hsub : (f.offs.length : Int) - 1 - ((0 : Nat) : Int) = ((f.offs.length - 1 - 0 : Nat) : Int) := by omega
          refine cw_skip ?_
          refine xw_then ?_
          refine cw_seq ?_
          refine cw_block ?_
          refine cw_seq ?_
          refine cw_region ?_
          refine lstepB rfl rfl rfl (run_move (.tmp rfl)) ?_
          refine lstepB rfl rfl rfl (run_indexAddr (i := 0) (off' := oo + 0 * 2) (.tmp rfl) (.tmp rfl) el22 (by omega) rfl) ?_
          refine lstepB rfl rfl rfl (run_loadN_at (l := spanC sp) (.tmp rfl) kd28 sz28 rfl (fun w' hS j v hj => hS.old_cell (fun h => h) (hco 0 sp hsk j v hj))) ?_
          refine lstep rfl rfl rfl (run_alloc zr28) ?_
          intro b14 _
          refine lstepB rfl rfl rfl (run_assign (.tmp rfl)) ?_
          refine lstep0 rfl rfl (run_storeN (.tmp rfl) (.tmp rfl) rfl sz28 rfl (by repeat (first | exact Upd.here | apply Upd.there)) (by repeat (first | exact Put.done | apply Put.put | apply Put.skip))) ?_
          refine lnil ?_
          refine xw_then ?_
          refine cw_seq ?_
          refine cw_region ?_
          refine lstepB rfl rfl rfl (run_move (.tmp rfl)) ?_
          refine lstepB rfl rfl rfl (run_convert_at (.tmp rfl) (fun w => cv61_3 (c := by_) (IntWalk.i64_in _ (by omega)) w)) ?_
          refine lstepB rfl rfl rfl (run_remT (.tmp rfl) .const (by omega)) ?_
          refine lstepB rfl rfl rfl (run_move (.tmp rfl)) ?_
          refine lstepB rfl rfl rfl (run_move (.tmp rfl)) ?_
          refine lstepB rfl rfl rfl (run_convert_at (.tmp rfl) (fun w => cv61_3 (c := st_) (IntWalk.i64_in _ (by omega)) w)) ?_
          refine lstepB rfl rfl rfl (run_remT (.tmp rfl) .const (by omega)) ?_
          refine lstepB rfl rfl rfl (run_mul (c := ((0 : Nat) : Int) * (st_.tmod 4)) (.tmp rfl) (.tmp rfl) (IntWalk.i64_in _ (by omega))) ?_
          refine lstepB rfl rfl rfl (run_add (c := far) (.tmp rfl) (.tmp rfl) (by rw [hfe]; exact IntWalk.i64_in _ (by omega))) ?_
          refine lstepB rfl rfl rfl (run_assign (.tmp rfl)) ?_
          refine lnil ?_
          refine xw_then ?_
          refine cw_seq ?_
          refine cw_chain2 (σ := [0, 1, 2, 3, 4, 5, 6, 7, 8, 9, 10, 13, 14, 15, 16, 17, 18, 19, 20, 11, 12, 21, 24, 22, 23, 25, 26, 27]) [⟨0, [], [], [], 0⟩, ⟨0, [1], [], [], 1⟩, ⟨0, [], [], [], 0⟩, ⟨0, [0], [], [], 4⟩, ⟨0, [], [], [], 0⟩, ⟨0, [], [], [], 28⟩, ⟨0, [], [], [], 0⟩, ⟨0, [0], [], [], 64⟩, ⟨0, [], [], [], 0⟩, ⟨0, [], [], [], 448⟩, ⟨0, [], [], [], 1020⟩, ⟨2, [], [], [6], 2044⟩, ⟨1, [6], [], [7], 4095⟩, ⟨0, [], [], [], 0⟩, ⟨0, [2], [], [], 8192⟩, ⟨0, [], [], [], 0⟩, ⟨0, [0], [], [], 32768⟩, ⟨0, [], [], [], 98304⟩, ⟨0, [], [], [], 0⟩, ⟨0, [0], [], [], 262144⟩, ⟨0, [], [], [], 786432⟩, ⟨0, [], [], [], 2072575⟩, ⟨2, [], [], [8], 4169727⟩, ⟨1, [8], [], [9], 8388607⟩, ⟨0, [], [], [], 8191⟩, ⟨0, [], [1], [1], 33554431⟩, ⟨0, [], [], [], 67108863⟩, ⟨0, [], [2], [2], 134217727⟩] [(0, _), (1, _), (2, _), (3, _), (4, _), (5, _)] (by kernel_rfl) (by kernel_rfl) rfl ?_
          refine .det (B := []) rfl rfl (.inl rfl) .nil .nil rfl (RunB.lr (run_fieldAddr (.tmp rfl) fa24_0 (by first | exact Nat.zero_add _ | exact rfl))) ?_
          refine .det (B := []) rfl rfl (.inl rfl) (.cons rfl .nil) .nil rfl (RunB.lr (run_load1 (.tmp rfl) kd22 (by repeat (first | exact List.Mem.head _ | apply List.Mem.tail)) (by exact rfl))) ?_
          refine .det (B := []) rfl rfl (.inl rfl) .nil .nil rfl (RunB.lr (run_fieldAddr (.tmp rfl) fa28_0 (by first | exact Nat.zero_add _ | exact rfl))) ?_
          refine .det (B := []) rfl rfl (.inl rfl) (.cons rfl .nil) .nil rfl (RunB.lr (run_load1 (.tmp rfl) kd3 (by repeat (first | exact List.Mem.head _ | apply List.Mem.tail)) (by exact rfl))) ?_
          refine .det (B := []) rfl rfl (.inl rfl) .nil .nil rfl (RunB.lr (run_move (.tmp rfl))) ?_
          refine .det (B := []) rfl rfl (.inl rfl) .nil .nil rfl (RunB.lr (run_add (.tmp rfl) (.tmp rfl) (by first | exact IntWalk.i64_in _ (by omega) | exact rfl))) ?_
          refine .det (B := []) rfl rfl (.inl rfl) .nil .nil rfl (RunB.lr (run_fieldAddr (.tmp rfl) fa28_1 (by first | exact Nat.zero_add _ | exact rfl))) ?_
          refine .det (B := []) rfl rfl (.inl rfl) (.cons rfl .nil) .nil rfl (RunB.lr (run_load1 (.tmp rfl) kd3 (by repeat (first | exact List.Mem.head _ | apply List.Mem.tail)) (by exact rfl))) ?_
          refine .det (B := []) rfl rfl (.inl rfl) .nil .nil rfl (RunB.lr (run_move (.tmp rfl))) ?_
          refine .det (B := []) rfl rfl (.inl rfl) .nil .nil rfl (RunB.lr (run_add (.tmp rfl) (.tmp rfl) (by first | exact IntWalk.i64_in _ (by omega) | exact rfl))) ?_
          refine .det (B := []) rfl rfl (.inl rfl) .nil .nil rfl (RunB.lr (run_call1 cb30 (.cons (.tmp rfl) (.cons (.tmp rfl) .nil)) (fun w _ => spanLK _ _ w))) ?_
          refine .det (B := []) rfl rfl (.inl rfl) .nil .nil rfl (RunB.lr (run_fieldAddr (.tmp rfl) fa24_0 (by first | exact Nat.zero_add _ | exact rfl))) ?_
          refine .det (B := []) rfl rfl (.inl rfl) (.cons rfl .nil) .nil rfl (RunB.lr (run_load1 (.tmp rfl) kd22 (by repeat (first | exact List.Mem.head _ | apply List.Mem.tail)) (by exact rfl))) ?_
          refine .det (B := []) rfl rfl (.inl rfl) .nil .nil rfl (RunB.lr (run_fieldAddr (.tmp rfl) fa28_1 (by first | exact Nat.zero_add _ | exact rfl))) ?_
          refine .det (B := []) rfl rfl (.inl rfl) (.cons rfl .nil) .nil rfl (RunB.lr (run_load1 (.tmp rfl) kd3 (by repeat (first | exact List.Mem.head _ | apply List.Mem.tail)) (by exact rfl))) ?_
          refine .det (B := []) rfl rfl (.inl rfl) .nil .nil rfl (RunB.lr (run_neg (.tmp rfl) (by first | exact IntWalk.i64_in _ (by omega) | exact rfl))) ?_
          refine .det (B := []) rfl rfl (.inl rfl) .nil .nil rfl (RunB.lr (run_fieldAddr (.tmp rfl) fa28_0 (by first | exact Nat.zero_add _ | exact rfl))) ?_
          refine .det (B := []) rfl rfl (.inl rfl) (.cons rfl .nil) .nil rfl (RunB.lr (run_load1 (.tmp rfl) kd3 (by repeat (first | exact List.Mem.head _ | apply List.Mem.tail)) (by exact rfl))) ?_
          refine .det (B := []) rfl rfl (.inl rfl) .nil .nil rfl (RunB.lr (run_neg (.tmp rfl) (by first | exact IntWalk.i64_in _ (by omega) | exact rfl))) ?_
          refine .flo rfl rfl rfl (.lit rfl (.cons (.tmp rfl) .nil) (fun w => bs22_1_0 w)) trivial rfl rfl rfl ?_
          intro b93
          refine .ext (B := fun q => [(7, (q.1, _))]) rfl rfl (.inl rfl) (.cons rfl .nil) .nil (fun _ => rfl) (inrow_some (sz := 2) (n := 1) (xs := spanC _) rfl (by decide)) (lr_append_nil ap22 (.tmp rfl) (.tmp rfl) (news := spanC ⟨sp.lo + far, sp.hi + far⟩) rfl (by omega) (by omega) (by decide) (news_own (by repeat (first | exact List.Mem.head _ | apply List.Mem.tail)))) ?_
          rintro ⟨mX, cX2, rX2⟩ hX2
          refine .det (B := []) rfl rfl (.inl rfl) .nil .nil rfl (RunB.lr (run_call1 cb30 (.cons (.tmp rfl) (.cons (.tmp rfl) .nil)) (fun w _ => spanLK _ _ w))) ?_
          refine .det (B := []) rfl rfl (.inl rfl) .nil .nil rfl (RunB.lr (run_fieldAddr (.tmp rfl) fa24_0 (by first | exact Nat.zero_add _ | exact rfl))) ?_
          refine .flo rfl rfl rfl (.lit rfl (.cons (.tmp rfl) .nil) (fun w => bs22_1_0 w)) trivial rfl rfl rfl ?_
          intro b104
          refine .ext (B := fun q => [(9, (q.1, _))]) rfl rfl (.inl rfl) (.cons rfl .nil) .nil (fun _ => rfl) (inrow_some (sz := 2) (n := 1) (xs := spanC _) rfl (by decide)) (lr_append_nil ap22 (.tmp rfl) (.tmp rfl) (news := spanC ⟨-sp.hi, -sp.lo⟩) rfl (by omega) (by omega) (by decide) (news_own (by repeat (first | exact List.Mem.head _ | apply List.Mem.tail)))) ?_
          rintro ⟨mY, cY2, rY2⟩ hY2
          refine .det (B := [(1, (_, _))]) rfl rfl (.inl rfl) .nil (.cons rfl .nil) rfl (lr_store1 (.tmp rfl) (.tmp rfl) rfl sz22 (by repeat (first | exact Put.done | apply Put.put | apply Put.skip))) ?_
          refine .det (B := []) rfl rfl (.inl rfl) .nil .nil rfl (RunB.lr (run_fieldAddr (.tmp rfl) fa24_0 (by first | exact Nat.zero_add _ | exact rfl))) ?_
          refine .det (B := [(2, (_, _))]) rfl rfl (.inl rfl) .nil (.cons rfl .nil) rfl (lr_store1 (.tmp rfl) (.tmp rfl) rfl sz22 (by repeat (first | exact Put.done | apply Put.put | apply Put.skip))) ?_
          refine chain_nil (ts := [9, 7, 0, 1, 2, 3, 4, 5]) (.cons rfl (.cons rfl (.cons rfl (.cons rfl (.cons rfl (.cons rfl (.cons rfl (.cons rfl .nil)))))))) (by decide) ?_
          dsimp only at hX2 hY2 ⊢
          refine xw_then ?_
          refine cw_chain2 (σ := [0, 1, 2, 3, 4, 5, 6, 7, 8, 9, 12, 13, 14, 15, 16, 17, 18, 19, 20, 21, 24, 25, 26, 27, 28, 29, 30, 31, 32, 33, 10, 11, 36, 22, 23, 34, 35, 37, 38, 39, 40, 41]) [⟨0, [], [], [], 0⟩, ⟨0, [5], [], [], 1⟩, ⟨0, [], [], [], 0⟩, ⟨0, [7], [], [], 4⟩, ⟨0, [6], [], [], 0⟩, ⟨0, [], [], [], 16⟩, ⟨0, [], [], [], 0⟩, ⟨0, [], [], [], 112⟩, ⟨0, [], [], [], 252⟩, ⟨0, [], [], [], 508⟩, ⟨2, [], [], [8], 1020⟩, ⟨1, [8], [], [9], 2047⟩, ⟨0, [], [], [], 0⟩, ⟨0, [5], [], [], 4096⟩, ⟨0, [], [], [], 0⟩, ⟨0, [7], [], [], 16384⟩, ⟨0, [6], [], [], 0⟩, ⟨0, [], [], [], 65536⟩, ⟨0, [], [], [], 0⟩, ⟨0, [], [], [], 458752⟩, ⟨0, [], [], [], 1032192⟩, ⟨0, [], [], [], 2080768⟩, ⟨2, [], [], [10], 4177920⟩, ⟨1, [10], [], [11], 8388607⟩, ⟨0, [], [], [], 0⟩, ⟨0, [5], [], [], 16777216⟩, ⟨0, [], [], [], 0⟩, ⟨0, [7], [], [], 67108864⟩, ⟨0, [6], [], [], 0⟩, ⟨0, [], [], [], 268435456⟩, ⟨0, [], [], [], 0⟩, ⟨0, [], [], [], 1879048192⟩, ⟨0, [], [], [], 4227858432⟩, ⟨0, [], [], [], 8522825728⟩, ⟨2, [], [], [12], 17112760320⟩, ⟨1, [12], [], [13], 34359738367⟩, ⟨0, [], [], [], 50348031⟩, ⟨0, [], [5], [5], 137438953471⟩, ⟨0, [], [], [], 274877906943⟩, ⟨0, [], [5], [5], 549755813887⟩, ⟨0, [], [], [], 1099511627775⟩, ⟨0, [], [5], [5], 2199023255551⟩] [(0, _), (1, _), (2, _), (3, _), (4, _), (5, _), (6, _), (7, _)] (by kernel_rfl) (by kernel_rfl) rfl ?_
          refine .det (B := []) rfl rfl (.inl rfl) .nil .nil rfl (RunB.lr (run_fieldAddr (.tmp rfl) fa24_0 (by first | exact Nat.zero_add _ | exact rfl))) ?_
          refine .det (B := []) rfl rfl (.inl rfl) (.cons rfl .nil) .nil rfl (RunB.lr (run_load1 (.tmp rfl) kd22 (by repeat (first | exact List.Mem.head _ | apply List.Mem.tail)) (by exact rfl))) ?_
          refine .det (B := []) rfl rfl (.inl rfl) .nil .nil rfl (RunB.lr (run_fieldAddr (.tmp rfl) fa24_0 (by first | exact Nat.zero_add _ | exact rfl))) ?_
          refine .det (B := []) rfl rfl (.inl rfl) (.cons rfl .nil) .nil rfl (RunB.lr (run_load1 (.tmp rfl) kd22 (by repeat (first | exact List.Mem.head _ | apply List.Mem.tail)) (by exact rfl))) ?_
          refine .det (B := []) rfl rfl (.inl rfl) (.cons rfl .nil) .nil rfl (RunB.lr (run_load1 (.tmp rfl) kd3 (by repeat (first | exact List.Mem.head _ | apply List.Mem.tail)) (by exact rfl))) ?_
          refine .det (B := []) rfl rfl (.inl rfl) .nil .nil rfl (RunB.lr (run_sub (.tmp rfl) .const (by first | exact IntWalk.i64_in _ (by omega) | exact rfl))) ?_
          refine .det (B := []) rfl rfl (.inl rfl) .nil .nil rfl (RunB.lr (run_move (.tmp rfl))) ?_
          refine .det (B := []) rfl rfl (.inl rfl) .nil .nil rfl (RunB.lr (run_sub (c := ((f.offs.length - 1 - 0 : Nat) : Int)) (.tmp rfl) (.tmp rfl) (by rw [hsub]; exact IntWalk.i64_in _ (by omega)))) ?_
          refine .det (B := []) rfl rfl (.inl rfl) .nil .nil rfl (RunB.lr (run_indexAddr (i := f.offs.length - 1 - 0) (off' := oo + (f.offs.length - 1 - 0) * 2) (.tmp rfl) (.tmp rfl) el22 (by omega) rfl)) ?_
          refine .det (B := []) rfl rfl (.inl rfl) .nil .nil rfl (RunB.lr (run_loadN_at (l := spanC so) (.tmp rfl) kd28 sz28 rfl (fun w' hS j v hj => hS.old_cell (fun h => h) (hco (f.offs.length - 1 - 0) so hsok j v hj)))) ?_
          refine .det (B := []) rfl rfl (.inl rfl) .nil .nil rfl (RunB.lr (run_fieldAddr (.tmp rfl) fa24_1 (by first | exact Nat.zero_add _ | exact rfl))) ?_
          refine .det (B := []) rfl rfl (.inl rfl) (.cons rfl .nil) .nil rfl (RunB.lr (run_load1 (.tmp rfl) kd22 (by repeat (first | exact List.Mem.head _ | apply List.Mem.tail)) (by exact rfl))) ?_
          refine .det (B := []) rfl rfl (.inl rfl) .nil .nil rfl (RunB.lr (run_fieldAddr (.tmp rfl) fa24_1 (by first | exact Nat.zero_add _ | exact rfl))) ?_
          refine .det (B := []) rfl rfl (.inl rfl) (.cons rfl .nil) .nil rfl (RunB.lr (run_load1 (.tmp rfl) kd22 (by repeat (first | exact List.Mem.head _ | apply List.Mem.tail)) (by exact rfl))) ?_
          refine .det (B := []) rfl rfl (.inl rfl) (.cons rfl .nil) .nil rfl (RunB.lr (run_load1 (.tmp rfl) kd3 (by repeat (first | exact List.Mem.head _ | apply List.Mem.tail)) (by exact rfl))) ?_
          refine .det (B := []) rfl rfl (.inl rfl) .nil .nil rfl (RunB.lr (run_sub (.tmp rfl) .const (by first | exact IntWalk.i64_in _ (by omega) | exact rfl))) ?_
          refine .det (B := []) rfl rfl (.inl rfl) .nil .nil rfl (RunB.lr (run_move (.tmp rfl))) ?_
          refine .det (B := []) rfl rfl (.inl rfl) .nil .nil rfl (RunB.lr (run_sub (c := ((f.offs.length - 1 - 0 : Nat) : Int)) (.tmp rfl) (.tmp rfl) (by rw [hsub]; exact IntWalk.i64_in _ (by omega)))) ?_
          refine .det (B := []) rfl rfl (.inl rfl) .nil .nil rfl (RunB.lr (run_indexAddr (i := f.offs.length - 1 - 0) (off' := ow + (f.offs.length - 1 - 0) * 2) (.tmp rfl) (.tmp rfl) el22 (by omega) rfl)) ?_
          refine .det (B := []) rfl rfl (.inl rfl) .nil .nil rfl (RunB.lr (run_loadN_at (l := spanC sw) (.tmp rfl) kd28 sz28 rfl (fun w' hS j v hj => hS.old_cell (fun h => h) (hcw (f.offs.length - 1 - 0) sw hswk j v hj)))) ?_
          refine .det (B := []) rfl rfl (.inl rfl) .nil .nil rfl (RunB.lr (run_fieldAddr (.tmp rfl) fa24_2 (by first | exact Nat.zero_add _ | exact rfl))) ?_
          refine .det (B := []) rfl rfl (.inl rfl) (.cons rfl .nil) .nil rfl (RunB.lr (run_load1 (.tmp rfl) kd22 (by repeat (first | exact List.Mem.head _ | apply List.Mem.tail)) (by exact rfl))) ?_
          refine .det (B := []) rfl rfl (.inl rfl) .nil .nil rfl (RunB.lr (run_fieldAddr (.tmp rfl) fa24_2 (by first | exact Nat.zero_add _ | exact rfl))) ?_
          refine .det (B := []) rfl rfl (.inl rfl) (.cons rfl .nil) .nil rfl (RunB.lr (run_load1 (.tmp rfl) kd22 (by repeat (first | exact List.Mem.head _ | apply List.Mem.tail)) (by exact rfl))) ?_
          refine .det (B := []) rfl rfl (.inl rfl) (.cons rfl .nil) .nil rfl (RunB.lr (run_load1 (.tmp rfl) kd3 (by repeat (first | exact List.Mem.head _ | apply List.Mem.tail)) (by exact rfl))) ?_
          refine .det (B := []) rfl rfl (.inl rfl) .nil .nil rfl (RunB.lr (run_sub (.tmp rfl) .const (by first | exact IntWalk.i64_in _ (by omega) | exact rfl))) ?_
          refine .det (B := []) rfl rfl (.inl rfl) .nil .nil rfl (RunB.lr (run_move (.tmp rfl))) ?_
          refine .det (B := []) rfl rfl (.inl rfl) .nil .nil rfl (RunB.lr (run_sub (c := ((f.offs.length - 1 - 0 : Nat) : Int)) (.tmp rfl) (.tmp rfl) (by rw [hsub]; exact IntWalk.i64_in _ (by omega)))) ?_
          refine .det (B := []) rfl rfl (.inl rfl) .nil .nil rfl (RunB.lr (run_indexAddr (i := f.offs.length - 1 - 0) (off' := od + (f.offs.length - 1 - 0) * 2) (.tmp rfl) (.tmp rfl) el22 (by omega) rfl)) ?_
          refine .det (B := []) rfl rfl (.inl rfl) .nil .nil rfl (RunB.lr (run_loadN_at (l := spanC sd) (.tmp rfl) kd28 sz28 rfl (fun w' hS j v hj => hS.old_cell (fun h => h) (hcd (f.offs.length - 1 - 0) sd hsdk j v hj)))) ?_
          refine .flo rfl rfl rfl (.lit rfl (.cons (.tmp rfl) .nil) (fun w => bs22_1_0 w)) trivial rfl rfl rfl ?_
          intro b118
          refine .ext (B := fun q => [(9, (q.1, _))]) rfl rfl (.inl rfl) (.cons rfl .nil) .nil (fun _ => rfl) (inrow_some (sz := 2) (n := 1) (xs := spanC _) rfl (by decide)) (lr_append_nil ap22 (.tmp rfl) (.tmp rfl) (news := spanC so) rfl (by omega) (by omega) (by decide) (news_own (by repeat (first | exact List.Mem.head _ | apply List.Mem.tail)))) ?_
          rintro ⟨mO, cO2, rO2⟩ hO2
          refine .det (B := []) rfl rfl (.inl rfl) .nil .nil rfl (RunB.lr (run_fieldAddr (.tmp rfl) fa24_0 (by first | exact Nat.zero_add _ | exact rfl))) ?_
          refine .flo rfl rfl rfl (.lit rfl (.cons (.tmp rfl) .nil) (fun w => bs22_1_0 w)) trivial rfl rfl rfl ?_
          intro b130
          refine .ext (B := fun q => [(11, (q.1, _))]) rfl rfl (.inl rfl) (.cons rfl .nil) .nil (fun _ => rfl) (inrow_some (sz := 2) (n := 1) (xs := spanC _) rfl (by decide)) (lr_append_nil ap22 (.tmp rfl) (.tmp rfl) (news := spanC sw) rfl (by omega) (by omega) (by decide) (news_own (by repeat (first | exact List.Mem.head _ | apply List.Mem.tail)))) ?_
          rintro ⟨mW, cW2, rW2⟩ hW2
          refine .flo rfl rfl rfl (.lit rfl (.cons (.tmp rfl) .nil) (fun w => bs22_1_0 w)) trivial rfl rfl rfl ?_
          intro b142
          refine .ext (B := fun q => [(13, (q.1, _))]) rfl rfl (.inl rfl) (.cons rfl .nil) .nil (fun _ => rfl) (inrow_some (sz := 2) (n := 1) (xs := spanC _) rfl (by decide)) (lr_append_nil ap22 (.tmp rfl) (.tmp rfl) (news := spanC sd) rfl (by omega) (by omega) (by decide) (news_own (by repeat (first | exact List.Mem.head _ | apply List.Mem.tail)))) ?_
          rintro ⟨mD, cD2, rD2⟩ hD2
          refine .det (B := [(5, (_, _))]) rfl rfl (.inl rfl) .nil (.cons rfl .nil) rfl (lr_store1 (.tmp rfl) (.tmp rfl) rfl sz22 (by repeat (first | exact Put.done | apply Put.put | apply Put.skip))) ?_
          refine .det (B := []) rfl rfl (.inl rfl) .nil .nil rfl (RunB.lr (run_fieldAddr (.tmp rfl) fa24_1 (by first | exact Nat.zero_add _ | exact rfl))) ?_
          refine .det (B := [(5, (_, _))]) rfl rfl (.inl rfl) .nil (.cons rfl .nil) rfl (lr_store1 (.tmp rfl) (.tmp rfl) rfl sz22 (by repeat (first | exact Put.done | apply Put.put | apply Put.skip))) ?_
          refine .det (B := []) rfl rfl (.inl rfl) .nil .nil rfl (RunB.lr (run_fieldAddr (.tmp rfl) fa24_2 (by first | exact Nat.zero_add _ | exact rfl))) ?_
          refine .det (B := [(5, (_, _))]) rfl rfl (.inl rfl) .nil (.cons rfl .nil) rfl (lr_store1 (.tmp rfl) (.tmp rfl) rfl sz22 (by repeat (first | exact Put.done | apply Put.put | apply Put.skip))) ?_
          refine chain_nil (ts := [13, 11, 9, 0, 1, 2, 3, 4, 5, 6, 7]) (.cons rfl (.cons rfl (.cons rfl (.cons rfl (.cons rfl (.cons rfl (.cons rfl (.cons rfl (.cons rfl (.cons rfl (.cons rfl .nil))))))))))) (by decide) ?_
          dsimp only at hO2 hW2 hD2 ⊢
          refine xw_in ?_
          refine xw_then ?_
          refine cw_region ?_
          refine lstepB rfl rfl rfl (run_add (.tmp rfl) .const (by first | exact IntWalk.i64_in _ (by omega) | exact rfl)) ?_
          refine lstepB rfl rfl rfl (run_move (.tmp rfl)) ?_
          refine lnil ?_
          exact xw_round ⟨0 + 1, (.five (mX, cX2, rX2) (mY, cY2, rY2) (mO, cO2, rO2) (mW, cW2, rW2) (mD, cD2, rD2))⟩ ⟨by simp only; omega, ⟨by simp only; omega, along_row (n := 0) (G := (fun k => ⟨(f.offs.getD k default).lo + farI (by_.tmod 10) (st_.tmod 4) k, (f.offs.getD k default).hi + farI (by_.tmod 10) (st_.tmod 4) k⟩)) (by rw [hsp, hfar]) hX2, along_row (n := 0) (G := (fun k => ⟨-(f.offs.getD k default).hi, -(f.offs.getD k default).lo⟩)) (by rw [hsp]) hY2, along_row (n := 0) (G := (fun k => f.offs.getD (f.offs.length - 1 - k) default)) hso hO2, along_row (n := 0) (G := (fun k => f.wids.getD (f.offs.length - 1 - k) default)) hsw hW2, along_row (n := 0) (G := (fun k => f.deps.getD (f.offs.length - 1 - k) default)) hsd hD2⟩⟩ (by simp only; omega) (by repeat (first | exact Less.nil | refine Less.cons rfl ?_)) (by repeat (first | exact Pick.nil | (apply Pick.cons; focus (repeat (first | exact Del.here | apply Del.there)))))
        ·
          obtain hkl : 0 = f.offs.length := by omega
          obtain ⟨x, hx⟩ : ∃ x, x = xF f (by_.tmod 10) (st_.tmod 4) := ⟨_, rfl⟩
          obtain ⟨y, hy⟩ : ∃ y, y = yF f := ⟨_, rfl⟩
          obtain ⟨z, hz⟩ : ∃ z, z = zF f := ⟨_, rfl⟩
          have lx1 : x.offs.length = 0 := by rw [hx]; rw [hkl]; exact alongL_length _ _
          have lx2 : x.wids.length = f.wids.length := by rw [hx]; rfl
          have lx3 : x.deps.length = f.deps.length := by rw [hx]; rfl
          have ly1 : y.offs.length = 0 := by rw [hy]; rw [hkl]; exact alongL_length _ _
          have ly2 : y.wids.length = f.wids.length := by rw [hy]; rfl
          have ly3 : y.deps.length = f.deps.length := by rw [hy]; rfl
          have lz1 : z.offs.length = 0 := by rw [hz]; rw [hkl]; exact alongL_length _ _
          have lz2 : z.wids.length = 0 := by rw [hz]; rw [hkl]; exact alongL_length _ _
          have lz3 : z.deps.length = 0 := by rw [hz]; rw [hkl]; exact alongL_length _ _
          have tx : Twin f.offs x.offs fun k => k := by rw [hx]; exact twin_shift (xF_shift f _ _) (far_lin _ _)
          have ny : IsNeg f.offs y.offs := by rw [hy]; exact yF_neg f
          have ty := twin_neg ny
          have rz : IsRev f.offs z.offs := by rw [hz]; exact zF_rev f
          have tz := twin_rev rz
          have rzw : IsRev f.wids z.wids := ⟨by rw [hz]; simp only [zF, alongL_length]; omega, fun k hk => by rw [hz, show f.wids.length = f.offs.length by omega]; exact alongL_getD (by omega)⟩
          have rzd : IsRev f.deps z.deps := ⟨by rw [hz]; simp only [zF, alongL_length]; omega, fun k hk => by rw [hz, show f.deps.length = f.offs.length by omega]; exact alongL_getD (by omega)⟩
          have sx : soilS x = soilS f := soil_same tx.len (by rw [hx]; rfl) (by rw [hx]; rfl)
          have sy : soilS y = soilS f := soil_same ty.len (by rw [hy]; rfl) (by rw [hy]; rfl)
          have sz : soilS z = soilS f := soil_rev hvf rz rzw rzd
          have hmx : Lens x := ⟨by have := hm.all; omega⟩
          have hmy : Lens y := ⟨by have := hm.all; omega⟩
          have hmz : Lens z := ⟨by have := hm.all; omega⟩
          have wf32 := worstN_small f.offs (k := f.offs.length - 2) (by omega)
          obtain ⟨ws, we, hws⟩ : ∃ ws we, wrongR f most = (ws, we) := ⟨_, _, rfl⟩
          have nx : x.offs = [] := List.eq_nil_of_length_eq_zero lx1
          have ny0 : y.offs = [] := List.eq_nil_of_length_eq_zero ly1
          have nz : z.offs = [] := List.eq_nil_of_length_eq_zero lz1
          have nzw : z.wids = [] := List.eq_nil_of_length_eq_zero lz2
          have nzd : z.deps = [] := List.eq_nil_of_length_eq_zero lz3
          have hxw : x.wids = f.wids := by rw [hx]; rfl
          have hxd : x.deps = f.deps := by rw [hx]; rfl
          have hyw : y.wids = f.wids := by rw [hy]; rfl
          have hyd : y.deps = f.deps := by rw [hy]; rfl
          refine cw_exit ?_
          refine xw_then_exit ?_
          refine xw_then_exit ?_
          refine xw_in_exit ?_
          refine xw_then ?_
          refine cw_seq ?_
          refine cw_region ?_
          refine lstep rfl rfl rfl (LR.runs (lr_buildSlice_at .nil (fun w => bs22_0_ w)) (by repeat (first | exact Pick.nil | (apply Pick.cons; focus (repeat (first | exact Del.here | apply Del.there))))) (by repeat (first | exact Dels.nil | (apply Dels.cons; focus (repeat (first | exact Del.here | apply Del.there)))))) ?_
          intro b148 _
          refine lstepB rfl rfl rfl (run_fieldAddr (.tmp rfl) fa24_0 (by first | exact Nat.zero_add _ | exact rfl)) ?_
          refine lstepB rfl rfl rfl (run_load1 (.tmp rfl) kd22 (by repeat (first | exact List.Mem.head _ | apply List.Mem.tail)) (by exact rfl)) ?_
          refine lstepB rfl rfl rfl (run_append_empty ap22 (.tmp rfl) (by omega) (.tmp rfl) hkl.symm) ?_
          refine lstepB rfl rfl rfl (run_assign (.tmp rfl)) ?_
          refine lnil ?_
          refine xw_then ?_
          refine cw_seq ?_
          refine cw_region ?_
          refine lstepB rfl rfl rfl (En.run_makeFunc .nil (.cons (.tmp rfl) .nil)) ?_
          refine lstepB rfl rfl rfl (run_assign (.tmp rfl)) ?_
          refine lnil ?_
          refine xw_then ?_
          refine cw_seq ?_
          refine cw_region ?_
          refine lstepB rfl rfl rfl (run_loadN (.tmp rfl) kd24 sz24 (by repeat (first | exact List.Mem.head _ | apply List.Mem.tail)) (by repeat (first | exact Sub.done | apply Sub.take | apply Sub.skip))) ?_
          refine lstepB rfl rfl rfl (run_call1 cb14 (.cons (.tmp rfl) .nil) (fun w2 hS => bendQn f rfl rfl rfl w2 hm (hf.kept hS.kept) hv)) ?_
          refine lstepB rfl rfl rfl (run_move (.tmp rfl)) ?_
          refine lstepB rfl rfl rfl (run_extract (.tmp rfl) rfl) ?_
          refine lstepB rfl rfl rfl (run_extract (.tmp rfl) rfl) ?_
          refine lstep rfl rfl rfl (run_alloc zr28) ?_
          intro b18 _
          refine lstep0 rfl rfl (run_storeN (.tmp rfl) (.tmp rfl) rfl sz28 rfl (by repeat (first | exact Upd.here | apply Upd.there)) (by repeat (first | exact Put.done | apply Put.put | apply Put.skip))) ?_
          refine lstepB rfl rfl rfl (run_assign (.tmp rfl)) ?_
          refine lnil ?_
          refine xw_then ?_
          refine cw_seq ?_
          refine cw_region ?_
          refine lstepB rfl rfl rfl (run_loadN (.tmp rfl) kd24 sz24 (by repeat (first | exact List.Mem.head _ | apply List.Mem.tail)) (by repeat (first | exact Sub.done | apply Sub.take | apply Sub.skip))) ?_
          refine lstepB rfl rfl rfl (run_call1 cb20 (.cons (.tmp rfl) .nil) (fun w2 hS => worstQn f rfl rfl rfl w2 hm (hf.kept hS.kept) hv)) ?_
          refine lstepB rfl rfl rfl (run_move (.tmp rfl)) ?_
          refine lstepB rfl rfl rfl (run_extract (.tmp rfl) rfl) ?_
          refine lstepB rfl rfl rfl (run_extract (.tmp rfl) rfl) ?_
          refine lstepB rfl rfl rfl (run_extract (.tmp rfl) rfl) ?_
          refine lstepB rfl rfl rfl (run_assign (.tmp rfl)) ?_
          refine lstepB rfl rfl rfl (run_assign (.tmp rfl)) ?_
          refine lstepB rfl rfl rfl (run_assign (.tmp rfl)) ?_
          refine lnil ?_
          refine xw_then ?_
          refine cw_seq ?_
          refine cw_region ?_
          refine lstepB rfl rfl rfl (run_loadN (.tmp rfl) kd24 sz24 (by repeat (first | exact List.Mem.head _ | apply List.Mem.tail)) (by repeat (first | exact Sub.done | apply Sub.take | apply Sub.skip))) ?_
          refine lstep rfl rfl rfl (LR.runs (R := []) (A := []) (lr_gives cb18 (.cons (.tmp rfl) .nil) (fun w2 hS => straightQn f rfl rfl rfl w2 hm (hf.kept hS.kept) hv)) (by repeat (first | exact Pick.nil | (apply Pick.cons; focus (repeat (first | exact Del.here | apply Del.there))))) (by repeat (first | exact Dels.nil | (apply Dels.cons; focus (repeat (first | exact Del.here | apply Del.there)))))) ?_
          intro ⟨gS, s1⟩ ⟨hs1, hs2, hs3⟩
          dsimp only at hs1 hs2 hs3 ⊢
          refine lstepB rfl rfl rfl (run_move (.tmp rfl)) ?_
          refine lstepB rfl rfl rfl (run_extract (.tmp rfl) rfl) ?_
          refine lstepB rfl rfl rfl (run_extract (.tmp rfl) rfl) ?_
          refine lstepB rfl rfl rfl (run_assign (.tmp rfl)) ?_
          refine lstepB rfl rfl rfl (run_assign (.tmp rfl)) ?_
          refine lnil ?_
          refine xw_then ?_
          refine cw_seq ?_
          refine cw_region ?_
          refine lstepB rfl rfl rfl (run_loadN (.tmp rfl) kd24 sz24 (by repeat (first | exact List.Mem.head _ | apply List.Mem.tail)) (by repeat (first | exact Sub.done | apply Sub.take | apply Sub.skip))) ?_
          refine lstepB rfl rfl rfl (run_move (.tmp rfl)) ?_
          refine lstepB rfl rfl rfl (run_call1 cb23 (.cons (.tmp rfl) (.cons (.tmp rfl) .nil)) (fun w2 hS => wrongQn f rfl rfl rfl most w2 hm (hf.kept hS.kept) hws)) ?_
          refine lstepB rfl rfl rfl (run_move (.tmp rfl)) ?_
          refine lstepB rfl rfl rfl (run_extract (.tmp rfl) rfl) ?_
          refine lstepB rfl rfl rfl (run_extract (.tmp rfl) rfl) ?_
          refine lstepB rfl rfl rfl (run_assign (.tmp rfl)) ?_
          refine lstepB rfl rfl rfl (run_assign (.tmp rfl)) ?_
          refine lnil ?_
          refine xw_then ?_
          refine cw_seq ?_
          refine cw_region ?_
          refine lstepB rfl rfl rfl (run_loadN (.tmp rfl) kd24 sz24 (by repeat (first | exact List.Mem.head _ | apply List.Mem.tail)) (by repeat (first | exact Sub.done | apply Sub.take | apply Sub.skip))) ?_
          refine lstepB rfl rfl rfl (run_call1 cb27 (.cons (.tmp rfl) .nil) (fun w2 hS => soilQn f rfl rfl rfl w2 hm (hf.kept hS.kept) hv)) ?_
          refine lstepB rfl rfl rfl (run_move (.tmp rfl)) ?_
          refine lstepB rfl rfl rfl (run_extract (.tmp rfl) rfl) ?_
          refine lstepB rfl rfl rfl (run_extract (.tmp rfl) rfl) ?_
          refine lstep rfl rfl rfl (run_alloc zr28) ?_
          intro b27 _
          refine lstep0 rfl rfl (run_storeN (.tmp rfl) (.tmp rfl) rfl sz28 rfl (by repeat (first | exact Upd.here | apply Upd.there)) (by repeat (first | exact Put.done | apply Put.put | apply Put.skip))) ?_
          refine lstepB rfl rfl rfl (run_assign (.tmp rfl)) ?_
          refine lnil ?_
          refine xw_then ?_
          refine cw_seq ?_
          refine cw_seq ?_
          refine cw_region ?_
          refine lstepB rfl rfl rfl (run_move (.tmp rfl)) ?_
          refine lstepB rfl rfl rfl (run_neq (.tmp rfl) .const (decide_eq_false (fun h => h rfl))) ?_
          refine lstepB rfl rfl rfl (run_move (.tmp rfl)) ?_
          refine lyes rfl rfl rfl rfl ?_
          refine gstepB rfl rfl (run_move (.tmp rfl)) ?_
          refine lyes rfl rfl rfl rfl ?_
          refine gstepB rfl rfl (run_neq (.tmp rfl) .const (decide_eq_false (fun h => h rfl))) ?_
          refine lstepB rfl rfl rfl (by first | exact run_pick_true (.tmp rfl) .const | exact run_pick_false (.tmp rfl) (.tmp rfl)) ?_
          refine lstepB rfl rfl rfl (run_move (.tmp rfl)) ?_
          refine lyes rfl rfl rfl rfl ?_
          refine gstepB rfl rfl (run_move (.tmp rfl)) ?_
          refine lyes rfl rfl rfl rfl ?_
          refine gstepB rfl rfl (run_neq (.tmp rfl) .const (decide_eq_false (fun h => h rfl))) ?_
          refine lstepB rfl rfl rfl (by first | exact run_pick_true (.tmp rfl) .const | exact run_pick_false (.tmp rfl) (.tmp rfl)) ?_
          refine lstepB rfl rfl rfl (run_move (.tmp rfl)) ?_
          refine lyes rfl rfl rfl rfl ?_
          refine gstepB rfl rfl (run_move (.tmp rfl)) ?_
          refine lyes rfl rfl rfl rfl ?_
          refine gstepB rfl rfl (run_neq (.tmp rfl) .const (decide_eq_false (fun h => h rfl))) ?_
          refine lstepB rfl rfl rfl (by first | exact run_pick_true (.tmp rfl) .const | exact run_pick_false (.tmp rfl) (.tmp rfl)) ?_
          refine lstepB rfl rfl rfl (run_move (.tmp rfl)) ?_
          refine lyes rfl rfl rfl rfl ?_
          refine gstepB rfl rfl (run_move (.tmp rfl)) ?_
          refine lyes rfl rfl rfl rfl ?_
          refine gstepB rfl rfl (run_lss (.tmp rfl) .const (decide_eq_false (Int.not_lt.2 (Int.natCast_nonneg _)))) ?_
          refine lstepB rfl rfl rfl (by first | exact run_pick_true (.tmp rfl) .const | exact run_pick_false (.tmp rfl) (.tmp rfl)) ?_
          refine lstepB rfl rfl rfl (run_move (.tmp rfl)) ?_
          refine lyes rfl rfl rfl rfl ?_
          refine gstepB rfl rfl (run_move (.tmp rfl)) ?_
          refine lyes rfl rfl rfl rfl ?_
          refine gstepB rfl rfl (run_lss (.tmp rfl) .const (decide_eq_false (Int.not_lt.2 (Int.natCast_nonneg _)))) ?_
          refine lstepB rfl rfl rfl (by first | exact run_pick_true (.tmp rfl) .const | exact run_pick_false (.tmp rfl) (.tmp rfl)) ?_
          refine lstepB rfl rfl rfl (run_move (.tmp rfl)) ?_
          refine lyes rfl rfl rfl rfl ?_
          refine gstepB rfl rfl (run_move (.tmp rfl)) ?_
          refine lyes rfl rfl rfl rfl ?_
          refine gstepB rfl rfl (run_len (.tmp rfl) sl33) ?_
          refine lyes rfl rfl rfl rfl ?_
          refine gstepB rfl rfl (run_load1 (.tmp rfl) kd3 (by repeat (first | exact List.Mem.head _ | apply List.Mem.tail)) (by exact rfl)) ?_
          refine lyes rfl rfl rfl rfl ?_
          refine gstepB rfl rfl (run_neq (.tmp rfl) (.tmp rfl) (decide_eq_false (fun h => h rfl))) ?_
          refine lstepB rfl rfl rfl (by first | exact run_pick_true (.tmp rfl) .const | exact run_pick_false (.tmp rfl) (.tmp rfl)) ?_
          refine lnil ?_
          refine xw_then ?_
          refine cw_cond_false (.tmp rfl) ?_
          refine cw_skip ?_
          refine xw_then ?_
          refine cw_seq ?_
          refine cw_seq ?_
          refine cw_region ?_
          refine lstepB rfl rfl rfl (run_loadN (.tmp rfl) kd24 sz24 (by repeat (first | exact List.Mem.head _ | apply List.Mem.tail)) (by repeat (first | exact Sub.done | apply Sub.take | apply Sub.skip))) ?_
          refine lstepB rfl rfl rfl (run_loadN (.tmp rfl) kd24 sz24 (by repeat (first | exact List.Mem.head _ | apply List.Mem.tail)) (by repeat (first | exact Sub.done | apply Sub.take | apply Sub.skip))) ?_
          refine lstepB rfl rfl rfl (run_loadN (.tmp rfl) kd24 sz24 (by repeat (first | exact List.Mem.head _ | apply List.Mem.tail)) (by repeat (first | exact Sub.done | apply Sub.take | apply Sub.skip))) ?_
          refine lstep rfl rfl rfl (LR.runs (lr_buildSlice_at (.cons (.tmp rfl) (.cons (.tmp rfl) (.cons (.tmp rfl) .nil))) (fun w => bs62_3_0_1_2 w)) (by repeat (first | exact Pick.nil | (apply Pick.cons; focus (repeat (first | exact Del.here | apply Del.there))))) (by repeat (first | exact Dels.nil | (apply Dels.cons; focus (repeat (first | exact Del.here | apply Del.there)))))) ?_
          intro b211 _
          refine lstepB rfl rfl rfl (run_len (.tmp rfl) sl62) ?_
          refine lstepB rfl rfl rfl (run_move .const) ?_
          refine lnil ?_
          refine xw_then ?_
          refine cw_block ?_
          refine cw_loop (S := Nat) (fun i => [(213, .int .i64 (i : Int))]) [(1, _), (4, _), (9, _), (16, _), (17, _), (18, _), (19, _), (20, _), (21, _), (22, _), (23, _), (24, _), (25, _), (26, _), (27, _), (28, _), (211, _), (212, _)] (fun i => (gS, Obj.cells (intsV s1).toArray 3 (0, 0)) :: (b211, Obj.cells [.slice none 0 0, .slice wa f.wids.length wc, .slice da f.deps.length dc, .slice none 0 0, .slice wa f.wids.length wc, .slice da f.deps.length dc, .slice none 0 0, .slice none 0 0, .slice none 0 0].toArray 24 (0, 0)) :: (b18, Obj.cells (spanC (bendT f.offs)).toArray 28 (0, 0)) :: (b27, Obj.cells (spanC (soilS f)).toArray 28 (0, 0)) :: (b9, Obj.cells [.int .i64 (f.offs.length : Int)].toArray 3 (0, 0)) :: (b4, Obj.cells (furrowC f oa wa da oc wc dc).toArray 24 (0, 0)) :: []) (fun i => i = 0 ∨ i = 1 ∨ i = 2 ∨ i = 3) (fun i => 3 - i) 0 (.inl rfl) (by repeat (first | exact Less.nil | refine Less.cons rfl ?_)) (by repeat (first | exact Pick.nil | (apply Pick.cons; focus (repeat (first | exact Del.here | apply Del.there))))) ?_
          intro i hs
          rcases hs with rfl | rfl | rfl | rfl
          · as_aux_lemma =>
            refine cw_seq ?_
            refine cw_region ?_
            refine lstepB rfl rfl rfl (run_lss (.tmp rfl) (.tmp rfl) (decide_eq_true (by decide))) ?_
            refine lnil ?_
            refine xw_then ?_
            refine cw_seq ?_
            refine cw_cond_true (.tmp rfl) ?_
            clear sy ty ny hmy ly1 ly2 ly3 hyw hyd sz tz rz rzw rzd hmz lz1 lz2 lz3
            cases hvq : validB x
            ·
              refine cw_skip ?_
              refine xw_then ?_
              refine cw_seq ?_
              refine cw_block ?_
              refine cw_seq ?_
              refine cw_region ?_
              refine lstepB rfl rfl rfl (run_move (.tmp rfl)) ?_
              refine lstepB rfl rfl rfl (run_indexAddr (i := 0) (off' := 0) (.tmp rfl) (.tmp rfl) el62 (by decide) rfl) ?_
              refine lstepB rfl rfl rfl (run_loadN (l := [.slice none 0 0, .slice wa f.wids.length wc, .slice da f.deps.length dc]) (.tmp rfl) kd24 sz24 (by repeat (first | exact List.Mem.head _ | apply List.Mem.tail)) (by repeat (first | exact Sub.done | apply Sub.take | apply Sub.skip))) ?_
              refine lstep rfl rfl rfl (run_alloc zr24) ?_
              intro b30 _
              refine lstepB rfl rfl rfl (run_assign (.tmp rfl)) ?_
              refine lstep0 rfl rfl (run_storeN (.tmp rfl) (.tmp rfl) rfl sz24 rfl (by repeat (first | exact Upd.here | apply Upd.there)) (by repeat (first | exact Put.done | apply Put.put | apply Put.skip))) ?_
              refine lnil ?_
              refine xw_then ?_
              refine cw_seq ?_
              refine cw_seq ?_
              refine cw_region ?_
              refine lstepB rfl rfl rfl (run_loadN (.tmp rfl) kd24 sz24 (by repeat (first | exact List.Mem.head _ | apply List.Mem.tail)) (by repeat (first | exact Sub.done | apply Sub.take | apply Sub.skip))) ?_
              refine lstepB rfl rfl rfl (run_call1 cb35 (.cons (.tmp rfl) .nil) (fun w2 hS => rFurrowQn x lx1 lx2 lx3 w2 hmx ⟨(fun i r h => by rw [nx] at h; simp at h), (by rw [hxw]; exact hf.wids.kept hS.kept), (by rw [hxd]; exact hf.deps.kept hS.kept)⟩ hvq)) ?_
              refine lstepB rfl rfl rfl (run_not (.tmp rfl) (by first | exact Bool.not_true | exact Bool.not_false | exact rfl)) ?_
              refine lnil ?_
              refine xw_then ?_
              refine cw_cond_true (.tmp rfl) ?_
              refine cw_exit ?_
              refine xw_then_exit ?_
              refine xw_in_exit ?_
              refine xw_then ?_
              refine cw_region ?_
              refine lstepB rfl rfl rfl (run_add (.tmp rfl) .const (by first | exact IntWalk.i64_in _ (by omega) | exact rfl)) ?_
              refine lstepB rfl rfl rfl (run_move (.tmp rfl)) ?_
              refine lnil ?_
              exact xw_round 1 (.inr (.inl rfl)) (by show 3 - 1 < 3 - 0; omega) (by repeat (first | exact Less.nil | refine Less.cons rfl ?_)) (by repeat (first | exact Pick.nil | (apply Pick.cons; focus (repeat (first | exact Del.here | apply Del.there)))))
            ·
              refine cw_skip ?_
              refine xw_then ?_
              refine cw_seq ?_
              refine cw_block ?_
              refine cw_seq ?_
              refine cw_region ?_
              refine lstepB rfl rfl rfl (run_move (.tmp rfl)) ?_
              refine lstepB rfl rfl rfl (run_indexAddr (i := 0) (off' := 0) (.tmp rfl) (.tmp rfl) el62 (by decide) rfl) ?_
              refine lstepB rfl rfl rfl (run_loadN (l := [.slice none 0 0, .slice wa f.wids.length wc, .slice da f.deps.length dc]) (.tmp rfl) kd24 sz24 (by repeat (first | exact List.Mem.head _ | apply List.Mem.tail)) (by repeat (first | exact Sub.done | apply Sub.take | apply Sub.skip))) ?_
              refine lstep rfl rfl rfl (run_alloc zr24) ?_
              intro b30 _
              refine lstepB rfl rfl rfl (run_assign (.tmp rfl)) ?_
              refine lstep0 rfl rfl (run_storeN (.tmp rfl) (.tmp rfl) rfl sz24 rfl (by repeat (first | exact Upd.here | apply Upd.there)) (by repeat (first | exact Put.done | apply Put.put | apply Put.skip))) ?_
              refine lnil ?_
              refine xw_then ?_
              refine cw_seq ?_
              refine cw_seq ?_
              refine cw_region ?_
              refine lstepB rfl rfl rfl (run_loadN (.tmp rfl) kd24 sz24 (by repeat (first | exact List.Mem.head _ | apply List.Mem.tail)) (by repeat (first | exact Sub.done | apply Sub.take | apply Sub.skip))) ?_
              refine lstepB rfl rfl rfl (run_call1 cb35 (.cons (.tmp rfl) .nil) (fun w2 hS => rFurrowQn x lx1 lx2 lx3 w2 hmx ⟨(fun i r h => by rw [nx] at h; simp at h), (by rw [hxw]; exact hf.wids.kept hS.kept), (by rw [hxd]; exact hf.deps.kept hS.kept)⟩ hvq)) ?_
              refine lstepB rfl rfl rfl (run_not (.tmp rfl) (by first | exact Bool.not_true | exact Bool.not_false | exact rfl)) ?_
              refine lnil ?_
              refine xw_then ?_
              refine cw_cond_false (.tmp rfl) ?_
              have hbe := tx.bend hfine (validF hvq).fine
              obtain ⟨hsu, hca⟩ := same_sets hv hvq tx
              obtain ⟨wq, hwq⟩ := wrongR_err hv hvq hws
              refine cw_skip ?_
              refine xw_then ?_
              refine cw_seq ?_
              refine cw_region ?_
              refine lstepB rfl rfl rfl (run_loadN (.tmp rfl) kd24 sz24 (by repeat (first | exact List.Mem.head _ | apply List.Mem.tail)) (by repeat (first | exact Sub.done | apply Sub.take | apply Sub.skip))) ?_
              refine lstepB rfl rfl rfl (run_call1 cb14 (.cons (.tmp rfl) .nil) (fun w2 hS => (bendQn x lx1 lx2 lx3 w2 hmx ⟨(fun i r h => by rw [nx] at h; simp at h), (by rw [hxw]; exact hf.wids.kept hS.kept), (by rw [hxd]; exact hf.deps.kept hS.kept)⟩ hvq).as (show _ = Value.tuple #[spanV (bendT f.offs), .int .i64 0] from by rw [hbe]))) ?_
              refine lstepB rfl rfl rfl (run_move (.tmp rfl)) ?_
              refine lstepB rfl rfl rfl (run_extract (.tmp rfl) rfl) ?_
              refine lstepB rfl rfl rfl (run_extract (.tmp rfl) rfl) ?_
              refine lstep rfl rfl rfl (run_alloc zr28) ?_
              intro b31 _
              refine lstep0 rfl rfl (run_storeN (.tmp rfl) (.tmp rfl) rfl sz28 rfl (by repeat (first | exact Upd.here | apply Upd.there)) (by repeat (first | exact Put.done | apply Put.put | apply Put.skip))) ?_
              refine lstepB rfl rfl rfl (run_assign (.tmp rfl)) ?_
              refine lnil ?_
              refine xw_then ?_
              refine cw_seq ?_
              refine cw_region ?_
              refine lstepB rfl rfl rfl (run_loadN (.tmp rfl) kd24 sz24 (by repeat (first | exact List.Mem.head _ | apply List.Mem.tail)) (by repeat (first | exact Sub.done | apply Sub.take | apply Sub.skip))) ?_
              refine lstepB rfl rfl rfl (run_call1 cb20 (.cons (.tmp rfl) .nil) (fun w2 hS => (worstQn x lx1 lx2 lx3 w2 hmx ⟨(fun i r h => by rw [nx] at h; simp at h), (by rw [hxw]; exact hf.wids.kept hS.kept), (by rw [hxd]; exact hf.deps.kept hS.kept)⟩ hvq).as (show _ = Value.tuple #[.int .i64 ((sureN f.offs : Nat) : Int), .int .i64 ((canN f.offs : Nat) : Int), .int .i64 0] from by rw [hsu, hca]))) ?_
              refine lstepB rfl rfl rfl (run_move (.tmp rfl)) ?_
              refine lstepB rfl rfl rfl (run_extract (.tmp rfl) rfl) ?_
              refine lstepB rfl rfl rfl (run_extract (.tmp rfl) rfl) ?_
              refine lstepB rfl rfl rfl (run_extract (.tmp rfl) rfl) ?_
              refine lstepB rfl rfl rfl (run_assign (.tmp rfl)) ?_
              refine lstepB rfl rfl rfl (run_assign (.tmp rfl)) ?_
              refine lstepB rfl rfl rfl (run_assign (.tmp rfl)) ?_
              refine lnil ?_
              refine xw_then ?_
              refine cw_seq ?_
              refine cw_region ?_
              refine lstepB rfl rfl rfl (run_loadN (.tmp rfl) kd24 sz24 (by repeat (first | exact List.Mem.head _ | apply List.Mem.tail)) (by repeat (first | exact Sub.done | apply Sub.take | apply Sub.skip))) ?_
              refine lstep rfl rfl rfl (LR.runs (R := []) (A := []) (lr_gives cb18 (.cons (.tmp rfl) .nil) (fun w2 hS => straightQn x lx1 lx2 lx3 w2 hmx ⟨(fun i r h => by rw [nx] at h; simp at h), (by rw [hxw]; exact hf.wids.kept hS.kept), (by rw [hxd]; exact hf.deps.kept hS.kept)⟩ hvq)) (by repeat (first | exact Pick.nil | (apply Pick.cons; focus (repeat (first | exact Del.here | apply Del.there))))) (by repeat (first | exact Dels.nil | (apply Dels.cons; focus (repeat (first | exact Del.here | apply Del.there)))))) ?_
              intro ⟨gT, s2⟩ ⟨hs4, hs5, hs6⟩
              dsimp only at hs4 hs5 hs6 ⊢
              refine lstepB rfl rfl rfl (run_move (.tmp rfl)) ?_
              refine lstepB rfl rfl rfl (run_extract (.tmp rfl) rfl) ?_
              refine lstepB rfl rfl rfl (run_extract (.tmp rfl) rfl) ?_
              refine lstepB rfl rfl rfl (run_assign (.tmp rfl)) ?_
              refine lstepB rfl rfl rfl (run_assign (.tmp rfl)) ?_
              refine lnil ?_
              refine xw_then ?_
              refine cw_seq ?_
              refine cw_region ?_
              refine lstepB rfl rfl rfl (run_loadN (.tmp rfl) kd24 sz24 (by repeat (first | exact List.Mem.head _ | apply List.Mem.tail)) (by repeat (first | exact Sub.done | apply Sub.take | apply Sub.skip))) ?_
              refine lstepB rfl rfl rfl (run_move (.tmp rfl)) ?_
              refine lstepB rfl rfl rfl (run_call1 cb23 (.cons (.tmp rfl) (.cons (.tmp rfl) .nil)) (fun w2 hS => wrongQn x lx1 lx2 lx3 most w2 hmx ⟨(fun i r h => by rw [nx] at h; simp at h), (by rw [hxw]; exact hf.wids.kept hS.kept), (by rw [hxd]; exact hf.deps.kept hS.kept)⟩ hwq)) ?_
              refine lstepB rfl rfl rfl (run_move (.tmp rfl)) ?_
              refine lstepB rfl rfl rfl (run_extract (.tmp rfl) rfl) ?_
              refine lstepB rfl rfl rfl (run_extract (.tmp rfl) rfl) ?_
              refine lstepB rfl rfl rfl (run_assign (.tmp rfl)) ?_
              refine lstepB rfl rfl rfl (run_assign (.tmp rfl)) ?_
              refine lnil ?_
              refine xw_then ?_
              refine cw_seq ?_
              refine cw_region ?_
              refine lstepB rfl rfl rfl (run_loadN (.tmp rfl) kd24 sz24 (by repeat (first | exact List.Mem.head _ | apply List.Mem.tail)) (by repeat (first | exact Sub.done | apply Sub.take | apply Sub.skip))) ?_
              refine lstepB rfl rfl rfl (run_call1 cb27 (.cons (.tmp rfl) .nil) (fun w2 hS => (soilQn x lx1 lx2 lx3 w2 hmx ⟨(fun i r h => by rw [nx] at h; simp at h), (by rw [hxw]; exact hf.wids.kept hS.kept), (by rw [hxd]; exact hf.deps.kept hS.kept)⟩ hvq).as (show _ = Value.tuple #[spanV (soilS f), .int .i64 0] from by rw [sx]))) ?_
              refine lstepB rfl rfl rfl (run_move (.tmp rfl)) ?_
              refine lstepB rfl rfl rfl (run_extract (.tmp rfl) rfl) ?_
              refine lstepB rfl rfl rfl (run_extract (.tmp rfl) rfl) ?_
              refine lstep rfl rfl rfl (run_alloc zr28) ?_
              intro b40 _
              refine lstep0 rfl rfl (run_storeN (.tmp rfl) (.tmp rfl) rfl sz28 rfl (by repeat (first | exact Upd.here | apply Upd.there)) (by repeat (first | exact Put.done | apply Put.put | apply Put.skip))) ?_
              refine lstepB rfl rfl rfl (run_assign (.tmp rfl)) ?_
              refine lnil ?_
              refine xw_then ?_
              refine cw_seq ?_
              refine cw_seq ?_
              refine cw_region ?_
              refine lstepB rfl rfl rfl (run_move (.tmp rfl)) ?_
              refine lstepB rfl rfl rfl (run_eql (.tmp rfl) .const (decide_eq_false (by decide))) ?_
              refine lnil ?_
              refine xw_then ?_
              refine cw_cond_false (.tmp rfl) ?_
              refine cw_skip ?_
              refine xw_then ?_
              refine cw_seq ?_
              refine cw_seq ?_
              refine cw_region ?_
              refine lstepB rfl rfl rfl (run_loadN (.tmp rfl) kd28 sz28 (by repeat (first | exact List.Mem.head _ | apply List.Mem.tail)) (by repeat (first | exact Sub.done | apply Sub.take | apply Sub.skip))) ?_
              refine lstepB rfl rfl rfl (run_loadN (.tmp rfl) kd28 sz28 (by repeat (first | exact List.Mem.head _ | apply List.Mem.tail)) (by repeat (first | exact Sub.done | apply Sub.take | apply Sub.skip))) ?_
              refine lstepB rfl rfl rfl (run_eql_agg (.tmp rfl) (.tmp rfl) eg28 (neq28 (r := false) (by simp))) ?_
              refine lstepB rfl rfl rfl (run_move (.tmp rfl)) ?_
              refine lyes rfl rfl rfl rfl ?_
              refine gstepB rfl rfl (run_move (.tmp rfl)) ?_
              refine lyes rfl rfl rfl rfl ?_
              refine gstepB rfl rfl (run_move (.tmp rfl)) ?_
              refine lyes rfl rfl rfl rfl ?_
              refine gstepB rfl rfl (run_neq (.tmp rfl) (.tmp rfl) (decide_eq_false (fun h => h rfl))) ?_
              refine lstepB rfl rfl rfl (by first | exact run_pick_true (.tmp rfl) .const | exact run_pick_false (.tmp rfl) (.tmp rfl)) ?_
              refine lstepB rfl rfl rfl (run_move (.tmp rfl)) ?_
              refine lyes rfl rfl rfl rfl ?_
              refine gstepB rfl rfl (run_move (.tmp rfl)) ?_
              refine lyes rfl rfl rfl rfl ?_
              refine gstepB rfl rfl (run_move (.tmp rfl)) ?_
              refine lyes rfl rfl rfl rfl ?_
              refine gstepB rfl rfl (run_neq (.tmp rfl) (.tmp rfl) (decide_eq_false (fun h => h rfl))) ?_
              refine lstepB rfl rfl rfl (by first | exact run_pick_true (.tmp rfl) .const | exact run_pick_false (.tmp rfl) (.tmp rfl)) ?_
              refine lstepB rfl rfl rfl (run_move (.tmp rfl)) ?_
              refine lyes rfl rfl rfl rfl ?_
              refine gstepB rfl rfl (run_move (.tmp rfl)) ?_
              refine lyes rfl rfl rfl rfl ?_
              refine gstepB rfl rfl (run_move (.tmp rfl)) ?_
              refine lyes rfl rfl rfl rfl ?_
              refine gstepB rfl rfl (run_neq (.tmp rfl) (.tmp rfl) (decide_eq_false (fun h => h rfl))) ?_
              refine lstepB rfl rfl rfl (by first | exact run_pick_true (.tmp rfl) .const | exact run_pick_false (.tmp rfl) (.tmp rfl)) ?_
              refine lstepB rfl rfl rfl (run_move (.tmp rfl)) ?_
              refine lyes rfl rfl rfl rfl ?_
              refine gstepB rfl rfl (run_move (.tmp rfl)) ?_
              refine lyes rfl rfl rfl rfl ?_
              refine gstepB rfl rfl (run_move (.tmp rfl)) ?_
              refine lyes rfl rfl rfl rfl ?_
              refine gstepB rfl rfl (run_neq (.tmp rfl) (.tmp rfl) (decide_eq_false (fun h => h rfl))) ?_
              refine lstepB rfl rfl rfl (by first | exact run_pick_true (.tmp rfl) .const | exact run_pick_false (.tmp rfl) (.tmp rfl)) ?_
              refine lstepB rfl rfl rfl (run_move (.tmp rfl)) ?_
              refine lyes rfl rfl rfl rfl ?_
              refine gstepB rfl rfl (run_move (.tmp rfl)) ?_
              refine lyes rfl rfl rfl rfl ?_
              refine gstepB rfl rfl (run_move (.tmp rfl)) ?_
              refine lyes rfl rfl rfl rfl ?_
              refine gstepB rfl rfl (run_neq (.tmp rfl) (.tmp rfl) (decide_eq_false (fun h => h rfl))) ?_
              refine lstepB rfl rfl rfl (by first | exact run_pick_true (.tmp rfl) .const | exact run_pick_false (.tmp rfl) (.tmp rfl)) ?_
              refine lstepB rfl rfl rfl (run_move (.tmp rfl)) ?_
              refine lyes rfl rfl rfl rfl ?_
              refine gstepB rfl rfl (run_move (.tmp rfl)) ?_
              refine lyes rfl rfl rfl rfl ?_
              refine gstepB rfl rfl (run_call1 cb32 (.cons (.tmp rfl) .nil) (fun w2 hS => rmostKn s2 hs4 (by omega) hs5 (hs6.trans (by rw [hbe])) _ _ w2 (intsAt_cells (hS.mem (b := gT) (by repeat (first | exact List.Mem.head _ | apply List.Mem.tail)))))) ?_
              refine lyes rfl rfl rfl rfl ?_
              refine gstepB rfl rfl (run_move (.tmp rfl)) ?_
              refine lyes rfl rfl rfl rfl ?_
              refine gstepB rfl rfl (run_call1 cb32 (.cons (.tmp rfl) .nil) (fun w2 hS => rmostKn s1 hs1 (by omega) hs2 hs3 _ _ w2 (intsAt_cells (hS.mem (b := gS) (by repeat (first | exact List.Mem.head _ | apply List.Mem.tail)))))) ?_
              refine lyes rfl rfl rfl rfl ?_
              refine gstepB rfl rfl (run_neq (.tmp rfl) (.tmp rfl) (decide_eq_false (fun h => h rfl))) ?_
              refine lstepB rfl rfl rfl (by first | exact run_pick_true (.tmp rfl) .const | exact run_pick_false (.tmp rfl) (.tmp rfl)) ?_
              refine lstepB rfl rfl rfl (run_move (.tmp rfl)) ?_
              refine lyes rfl rfl rfl rfl ?_
              refine gstepB rfl rfl (run_loadN (.tmp rfl) kd28 sz28 (by repeat (first | exact List.Mem.head _ | apply List.Mem.tail)) (by repeat (first | exact Sub.done | apply Sub.take | apply Sub.skip))) ?_
              refine lyes rfl rfl rfl rfl ?_
              refine gstepB rfl rfl (run_loadN (.tmp rfl) kd28 sz28 (by repeat (first | exact List.Mem.head _ | apply List.Mem.tail)) (by repeat (first | exact Sub.done | apply Sub.take | apply Sub.skip))) ?_
              refine lyes rfl rfl rfl rfl ?_
              refine gstepB rfl rfl (run_eql_agg (.tmp rfl) (.tmp rfl) eg28 (neq28 (r := false) (by simp))) ?_
              refine lstepB rfl rfl rfl (by first | exact run_pick_true (.tmp rfl) .const | exact run_pick_false (.tmp rfl) (.tmp rfl)) ?_
              refine lstepB rfl rfl rfl (run_move (.tmp rfl)) ?_
              refine lyes rfl rfl rfl rfl ?_
              refine gstepB rfl rfl (run_move (.tmp rfl)) ?_
              refine lyes rfl rfl rfl rfl ?_
              refine gstepB rfl rfl (run_move (.tmp rfl)) ?_
              refine lyes rfl rfl rfl rfl ?_
              refine gstepB rfl rfl (run_neq (.tmp rfl) (.tmp rfl) (decide_eq_false (fun h => h rfl))) ?_
              refine lstepB rfl rfl rfl (by first | exact run_pick_true (.tmp rfl) .const | exact run_pick_false (.tmp rfl) (.tmp rfl)) ?_
              refine lstepB rfl rfl rfl (run_move (.tmp rfl)) ?_
              refine lyes rfl rfl rfl rfl ?_
              refine gstepB rfl rfl (run_move (.tmp rfl)) ?_
              refine lyes rfl rfl rfl rfl ?_
              refine gstepB rfl rfl (run_move (.tmp rfl)) ?_
              refine lyes rfl rfl rfl rfl ?_
              refine gstepB rfl rfl (run_neq (.tmp rfl) (.tmp rfl) (decide_eq_false (fun h => h rfl))) ?_
              refine lstepB rfl rfl rfl (by first | exact run_pick_true (.tmp rfl) .const | exact run_pick_false (.tmp rfl) (.tmp rfl)) ?_
              refine lnil ?_
              refine xw_then ?_
              refine cw_cond_false (.tmp rfl) ?_
              refine cw_skip ?_
              refine xw_then ?_
              refine cw_seq ?_
              refine cw_seq ?_
              refine cw_region ?_
              refine lstepB rfl rfl rfl (run_move (.tmp rfl)) ?_
              refine lstepB rfl rfl rfl (run_eql (.tmp rfl) .const (decide_eq_false (by decide))) ?_
              refine lstepB rfl rfl rfl (run_move (.tmp rfl)) ?_
              refine lskip rfl rfl rfl rfl rfl rfl rfl ?_
              refine lskip rfl rfl rfl rfl rfl rfl rfl ?_
              refine lskip rfl rfl rfl rfl rfl rfl rfl ?_
              refine lstepB rfl rfl rfl (by first | exact run_pick_true (.tmp rfl) (.tmp rfl) | exact run_pick_false (.tmp rfl) .const) ?_
              refine lstepB rfl rfl rfl (run_move (.tmp rfl)) ?_
              refine lyes rfl rfl rfl rfl ?_
              refine gstepB rfl rfl (run_move (.tmp rfl)) ?_
              refine lyes rfl rfl rfl rfl ?_
              refine gstepB rfl rfl (run_eql (.tmp rfl) .const (decide_eq_false (by decide))) ?_
              refine lyes rfl rfl rfl rfl ?_
              refine gstepB rfl rfl (run_move (.tmp rfl)) ?_
              refine lskip rfl rfl rfl rfl rfl rfl rfl ?_
              refine lskip rfl rfl rfl rfl rfl rfl rfl ?_
              refine lskip rfl rfl rfl rfl rfl rfl rfl ?_
              refine lskip rfl rfl rfl rfl rfl rfl rfl ?_
              refine lskip rfl rfl rfl rfl rfl rfl rfl ?_
              refine lskip rfl rfl rfl rfl rfl rfl rfl ?_
              refine lskip rfl rfl rfl rfl rfl rfl rfl ?_
              refine lskip rfl rfl rfl rfl rfl rfl rfl ?_
              refine lskip rfl rfl rfl rfl rfl rfl rfl ?_
              refine lskip rfl rfl rfl rfl rfl rfl rfl ?_
              refine lskip rfl rfl rfl rfl rfl rfl rfl ?_
              refine lskip rfl rfl rfl rfl rfl rfl rfl ?_
              refine lskip rfl rfl rfl rfl rfl rfl rfl ?_
              refine lyes rfl rfl rfl rfl ?_
              refine gstepB rfl rfl (by first | exact run_pick_true (.tmp rfl) (.tmp rfl) | exact run_pick_false (.tmp rfl) .const) ?_
              refine lstepB rfl rfl rfl (by first | exact run_pick_true (.tmp rfl) .const | exact run_pick_false (.tmp rfl) (.tmp rfl)) ?_
              refine lnil ?_
              refine xw_then ?_
              refine cw_cond_false (.tmp rfl) ?_
              refine cw_skip ?_
              refine xw_then ?_
              refine cw_seq ?_
              refine cw_region ?_
              refine lstepB rfl rfl rfl (run_load1 (.tmp rfl) kd3 (by repeat (first | exact List.Mem.head _ | apply List.Mem.tail)) (by exact rfl)) ?_
              refine lstepB rfl rfl rfl (run_move .const) ?_
              refine lnil ?_
              refine xw_then ?_
              refine cw_block ?_
              refine cw_loop (S := Nat) (fun j => [(333, .int .i64 (j : Int))]) [(1, _), (4, _), (9, _), (16, _), (17, _), (18, _), (19, _), (20, _), (21, _), (22, _), (23, _), (24, _), (25, _), (26, _), (27, _), (28, _), (29, _), (30, _), (211, _), (212, _), (213, _), (332, _)] (fun j => (gS, Obj.cells (intsV s1).toArray 3 (0, 0)) :: (b211, Obj.cells [.slice none 0 0, .slice wa f.wids.length wc, .slice da f.deps.length dc, .slice none 0 0, .slice wa f.wids.length wc, .slice da f.deps.length dc, .slice none 0 0, .slice none 0 0, .slice none 0 0].toArray 24 (0, 0)) :: (b18, Obj.cells (spanC (bendT f.offs)).toArray 28 (0, 0)) :: (b27, Obj.cells (spanC (soilS f)).toArray 28 (0, 0)) :: (b9, Obj.cells [.int .i64 (f.offs.length : Int)].toArray 3 (0, 0)) :: (b4, Obj.cells (furrowC f oa wa da oc wc dc).toArray 24 (0, 0)) :: (b30, Obj.cells [.slice none 0 0, .slice wa f.wids.length wc, .slice da f.deps.length dc].toArray 24 (0, 0)) :: []) (fun j => j ≤ f.offs.length) (fun j => f.offs.length - j) 0 (Nat.zero_le _) (by repeat (first | exact Less.nil | refine Less.cons rfl ?_)) (by repeat (first | exact Pick.nil | (apply Pick.cons; focus (repeat (first | exact Del.here | apply Del.there))))) ?_
              intro j hj
              refine cw_seq ?_
              refine cw_region ?_
              refine lstepB rfl rfl rfl (run_lss (.tmp rfl) (.tmp rfl) rfl) ?_
              refine lnil ?_
              refine xw_then ?_
              refine cw_seq ?_
              refine cw_cond_p (.tmp rfl) (fun hl4 => ?_) (fun hl4 => ?_)
              ·
                have hjn : j < f.offs.length := by omega
                obtain ⟨as_, ae, hat⟩ : ∃ as_ ae, atR f (j : Int) = (as_, ae) := ⟨_, _, rfl⟩
                have hat2 : atR x (j : Int) = (as_, ae) := by rw [← hat]; exact at_same hv hvq tx (fun _ => rfl) (fun h => inner_len tx.len.symm h)
                refine cw_skip ?_
                refine xw_then ?_
                refine cw_seq ?_
                refine cw_block ?_
                refine cw_seq ?_
                refine cw_region ?_
                refine lstepB rfl rfl rfl (run_move (.tmp rfl)) ?_
                refine lstepB rfl rfl rfl (run_assign (.tmp rfl)) ?_
                refine lnil ?_
                refine xw_then ?_
                refine cw_seq ?_
                refine cw_region ?_
                refine lstepB rfl rfl rfl (run_loadN (.tmp rfl) kd24 sz24 (by repeat (first | exact List.Mem.head _ | apply List.Mem.tail)) (by repeat (first | exact Sub.done | apply Sub.take | apply Sub.skip))) ?_
                refine lstepB rfl rfl rfl (run_move (.tmp rfl)) ?_
                refine lstepB rfl rfl rfl (run_call1 cb16 (.cons (.tmp rfl) (.cons (.tmp rfl) .nil)) (fun w2 hS => atQn2 f rfl rfl rfl (j : Int) w2 hm (hf.kept hS.kept) hat)) ?_
                refine lstepB rfl rfl rfl (run_move (.tmp rfl)) ?_
                refine lstepB rfl rfl rfl (run_extract (.tmp rfl) rfl) ?_
                refine lstepB rfl rfl rfl (run_extract (.tmp rfl) rfl) ?_
                refine lstep rfl rfl rfl (run_alloc zr28) ?_
                intro b43 _
                refine lstep0 rfl rfl (run_storeN (.tmp rfl) (.tmp rfl) rfl sz28 rfl (by repeat (first | exact Upd.here | apply Upd.there)) (by repeat (first | exact Put.done | apply Put.put | apply Put.skip))) ?_
                refine lstepB rfl rfl rfl (run_assign (.tmp rfl)) ?_
                refine lnil ?_
                refine xw_then ?_
                refine cw_seq ?_
                refine cw_region ?_
                refine lstepB rfl rfl rfl (run_move (.tmp rfl)) ?_
                refine lstepB rfl rfl rfl (run_assign (.tmp rfl)) ?_
                refine lnil ?_
                refine xw_then ?_
                refine cw_seq ?_
                refine cw_seq ?_
                refine cw_region ?_
                refine lstepB rfl rfl rfl (run_move (.tmp rfl)) ?_
                refine lstepB rfl rfl rfl (run_eql (.tmp rfl) .const (decide_eq_false (by decide))) ?_
                refine lnil ?_
                refine xw_then ?_
                refine cw_cond_false (.tmp rfl) ?_
                refine cw_skip ?_
                refine xw_then ?_
                refine cw_seq ?_
                refine cw_region ?_
                refine lstepB rfl rfl rfl (run_loadN (.tmp rfl) kd24 sz24 (by repeat (first | exact List.Mem.head _ | apply List.Mem.tail)) (by repeat (first | exact Sub.done | apply Sub.take | apply Sub.skip))) ?_
                refine lstepB rfl rfl rfl (run_move (.tmp rfl)) ?_
                refine lstepB rfl rfl rfl (run_call1 cb16 (.cons (.tmp rfl) (.cons (.tmp rfl) .nil)) (fun w2 hS => atQn2 x lx1 lx2 lx3 (j : Int) w2 hmx ⟨(fun i r h => by rw [nx] at h; simp at h), (by rw [hxw]; exact hf.wids.kept hS.kept), (by rw [hxd]; exact hf.deps.kept hS.kept)⟩ hat2)) ?_
                refine lstepB rfl rfl rfl (run_move (.tmp rfl)) ?_
                refine lstepB rfl rfl rfl (run_extract (.tmp rfl) rfl) ?_
                refine lstepB rfl rfl rfl (run_extract (.tmp rfl) rfl) ?_
                refine lstep rfl rfl rfl (run_alloc zr28) ?_
                intro b46 _
                refine lstep0 rfl rfl (run_storeN (.tmp rfl) (.tmp rfl) rfl sz28 rfl (by repeat (first | exact Upd.here | apply Upd.there)) (by repeat (first | exact Put.done | apply Put.put | apply Put.skip))) ?_
                refine lstepB rfl rfl rfl (run_assign (.tmp rfl)) ?_
                refine lnil ?_
                refine xw_then ?_
                refine cw_seq ?_
                refine cw_region ?_
                refine lstepB rfl rfl rfl (run_loadN (.tmp rfl) kd28 sz28 (by repeat (first | exact List.Mem.head _ | apply List.Mem.tail)) (by repeat (first | exact Sub.done | apply Sub.take | apply Sub.skip))) ?_
                refine lstepB rfl rfl rfl (run_loadN (.tmp rfl) kd28 sz28 (by repeat (first | exact List.Mem.head _ | apply List.Mem.tail)) (by repeat (first | exact Sub.done | apply Sub.take | apply Sub.skip))) ?_
                refine lstepB rfl rfl rfl (run_eql_agg (.tmp rfl) (.tmp rfl) eg28 (neq28 (r := false) (by simp))) ?_
                refine lstepB rfl rfl rfl (run_move (.tmp rfl)) ?_
                refine lyes rfl rfl rfl rfl ?_
                refine gstepB rfl rfl (run_move (.tmp rfl)) ?_
                refine lyes rfl rfl rfl rfl ?_
                refine gstepB rfl rfl (run_move (.tmp rfl)) ?_
                refine lyes rfl rfl rfl rfl ?_
                refine gstepB rfl rfl (run_neq (.tmp rfl) (.tmp rfl) (decide_eq_false (fun h => h rfl))) ?_
                refine lstepB rfl rfl rfl (by first | exact run_pick_true (.tmp rfl) .const | exact run_pick_false (.tmp rfl) (.tmp rfl)) ?_
                refine lnil ?_
                refine xw_then ?_
                refine cw_cond_false (.tmp rfl) ?_
                refine cw_skip ?_
                refine xw_in ?_
                refine xw_then ?_
                refine cw_region ?_
                refine lstepB rfl rfl rfl (run_add (.tmp rfl) .const (by first | exact IntWalk.i64_in _ (by omega) | exact rfl)) ?_
                refine lstepB rfl rfl rfl (run_move (.tmp rfl)) ?_
                refine lnil ?_
                exact xw_round (j + 1) (by show j + 1 ≤ _; omega) (by show f.offs.length - (j + 1) < f.offs.length - j; omega) (by repeat (first | exact Less.nil | refine Less.cons rfl ?_)) (by repeat (first | exact Pick.nil | (apply Pick.cons; focus (repeat (first | exact Del.here | apply Del.there)))))
              ·
                refine cw_exit ?_
                refine xw_then_exit ?_
                refine xw_then_exit ?_
                refine xw_in_exit ?_
                refine xw_in ?_
                refine xw_then ?_
                refine cw_region ?_
                refine lstepB rfl rfl rfl (run_add (.tmp rfl) .const (by first | exact IntWalk.i64_in _ (by omega) | exact rfl)) ?_
                refine lstepB rfl rfl rfl (run_move (.tmp rfl)) ?_
                refine lnil ?_
                exact xw_round 1 (.inr (.inl rfl)) (by show 3 - 1 < 3 - 0; omega) (by repeat (first | exact Less.nil | refine Less.cons rfl ?_)) (by repeat (first | exact Pick.nil | (apply Pick.cons; focus (repeat (first | exact Del.here | apply Del.there)))))
          · as_aux_lemma =>
            refine cw_seq ?_
            refine cw_region ?_
            refine lstepB rfl rfl rfl (run_lss (.tmp rfl) (.tmp rfl) (decide_eq_true (by decide))) ?_
            refine lnil ?_
            refine xw_then ?_
            refine cw_seq ?_
            refine cw_cond_true (.tmp rfl) ?_
            clear sx tx hmx lx1 lx2 lx3 hxw hxd sz tz rz rzw rzd hmz lz1 lz2 lz3
            cases hvq : validB y
            ·
              refine cw_skip ?_
              refine xw_then ?_
              refine cw_seq ?_
              refine cw_block ?_
              refine cw_seq ?_
              refine cw_region ?_
              refine lstepB rfl rfl rfl (run_move (.tmp rfl)) ?_
              refine lstepB rfl rfl rfl (run_indexAddr (i := 1) (off' := 3) (.tmp rfl) (.tmp rfl) el62 (by decide) rfl) ?_
              refine lstepB rfl rfl rfl (run_loadN (l := [.slice none 0 0, .slice wa f.wids.length wc, .slice da f.deps.length dc]) (.tmp rfl) kd24 sz24 (by repeat (first | exact List.Mem.head _ | apply List.Mem.tail)) (by repeat (first | exact Sub.done | apply Sub.take | apply Sub.skip))) ?_
              refine lstep rfl rfl rfl (run_alloc zr24) ?_
              intro b30 _
              refine lstepB rfl rfl rfl (run_assign (.tmp rfl)) ?_
              refine lstep0 rfl rfl (run_storeN (.tmp rfl) (.tmp rfl) rfl sz24 rfl (by repeat (first | exact Upd.here | apply Upd.there)) (by repeat (first | exact Put.done | apply Put.put | apply Put.skip))) ?_
              refine lnil ?_
              refine xw_then ?_
              refine cw_seq ?_
              refine cw_seq ?_
              refine cw_region ?_
              refine lstepB rfl rfl rfl (run_loadN (.tmp rfl) kd24 sz24 (by repeat (first | exact List.Mem.head _ | apply List.Mem.tail)) (by repeat (first | exact Sub.done | apply Sub.take | apply Sub.skip))) ?_
              refine lstepB rfl rfl rfl (run_call1 cb35 (.cons (.tmp rfl) .nil) (fun w2 hS => rFurrowQn y ly1 ly2 ly3 w2 hmy ⟨(fun i r h => by rw [ny0] at h; simp at h), (by rw [hyw]; exact hf.wids.kept hS.kept), (by rw [hyd]; exact hf.deps.kept hS.kept)⟩ hvq)) ?_
              refine lstepB rfl rfl rfl (run_not (.tmp rfl) (by first | exact Bool.not_true | exact Bool.not_false | exact rfl)) ?_
              refine lnil ?_
              refine xw_then ?_
              refine cw_cond_true (.tmp rfl) ?_
              refine cw_exit ?_
              refine xw_then_exit ?_
              refine xw_in_exit ?_
              refine xw_then ?_
              refine cw_region ?_
              refine lstepB rfl rfl rfl (run_add (.tmp rfl) .const (by first | exact IntWalk.i64_in _ (by omega) | exact rfl)) ?_
              refine lstepB rfl rfl rfl (run_move (.tmp rfl)) ?_
              refine lnil ?_
              exact xw_round 2 (.inr (.inr (.inl rfl))) (by show 3 - 2 < 3 - 1; omega) (by repeat (first | exact Less.nil | refine Less.cons rfl ?_)) (by repeat (first | exact Pick.nil | (apply Pick.cons; focus (repeat (first | exact Del.here | apply Del.there)))))
            ·
              refine cw_skip ?_
              refine xw_then ?_
              refine cw_seq ?_
              refine cw_block ?_
              refine cw_seq ?_
              refine cw_region ?_
              refine lstepB rfl rfl rfl (run_move (.tmp rfl)) ?_
              refine lstepB rfl rfl rfl (run_indexAddr (i := 1) (off' := 3) (.tmp rfl) (.tmp rfl) el62 (by decide) rfl) ?_
              refine lstepB rfl rfl rfl (run_loadN (l := [.slice none 0 0, .slice wa f.wids.length wc, .slice da f.deps.length dc]) (.tmp rfl) kd24 sz24 (by repeat (first | exact List.Mem.head _ | apply List.Mem.tail)) (by repeat (first | exact Sub.done | apply Sub.take | apply Sub.skip))) ?_
              refine lstep rfl rfl rfl (run_alloc zr24) ?_
              intro b30 _
              refine lstepB rfl rfl rfl (run_assign (.tmp rfl)) ?_
              refine lstep0 rfl rfl (run_storeN (.tmp rfl) (.tmp rfl) rfl sz24 rfl (by repeat (first | exact Upd.here | apply Upd.there)) (by repeat (first | exact Put.done | apply Put.put | apply Put.skip))) ?_
              refine lnil ?_
              refine xw_then ?_
              refine cw_seq ?_
              refine cw_seq ?_
              refine cw_region ?_
              refine lstepB rfl rfl rfl (run_loadN (.tmp rfl) kd24 sz24 (by repeat (first | exact List.Mem.head _ | apply List.Mem.tail)) (by repeat (first | exact Sub.done | apply Sub.take | apply Sub.skip))) ?_
              refine lstepB rfl rfl rfl (run_call1 cb35 (.cons (.tmp rfl) .nil) (fun w2 hS => rFurrowQn y ly1 ly2 ly3 w2 hmy ⟨(fun i r h => by rw [ny0] at h; simp at h), (by rw [hyw]; exact hf.wids.kept hS.kept), (by rw [hyd]; exact hf.deps.kept hS.kept)⟩ hvq)) ?_
              refine lstepB rfl rfl rfl (run_not (.tmp rfl) (by first | exact Bool.not_true | exact Bool.not_false | exact rfl)) ?_
              refine lnil ?_
              refine xw_then ?_
              refine cw_cond_false (.tmp rfl) ?_
              have hbe := ty.bend hfine (validF hvq).fine
              obtain ⟨hsu, hca⟩ := same_sets hv hvq ty
              have hwq : wrongR y most = (ws, we) := by rw [← hws]; unfold wrongR; rw [hv, hvq, neg_wrong ny]
              refine cw_skip ?_
              refine xw_then ?_
              refine cw_seq ?_
              refine cw_region ?_
              refine lstepB rfl rfl rfl (run_loadN (.tmp rfl) kd24 sz24 (by repeat (first | exact List.Mem.head _ | apply List.Mem.tail)) (by repeat (first | exact Sub.done | apply Sub.take | apply Sub.skip))) ?_
              refine lstepB rfl rfl rfl (run_call1 cb14 (.cons (.tmp rfl) .nil) (fun w2 hS => (bendQn y ly1 ly2 ly3 w2 hmy ⟨(fun i r h => by rw [ny0] at h; simp at h), (by rw [hyw]; exact hf.wids.kept hS.kept), (by rw [hyd]; exact hf.deps.kept hS.kept)⟩ hvq).as (show _ = Value.tuple #[spanV (bendT f.offs), .int .i64 0] from by rw [hbe]))) ?_
              refine lstepB rfl rfl rfl (run_move (.tmp rfl)) ?_
              refine lstepB rfl rfl rfl (run_extract (.tmp rfl) rfl) ?_
              refine lstepB rfl rfl rfl (run_extract (.tmp rfl) rfl) ?_
              refine lstep rfl rfl rfl (run_alloc zr28) ?_
              intro b31 _
              refine lstep0 rfl rfl (run_storeN (.tmp rfl) (.tmp rfl) rfl sz28 rfl (by repeat (first | exact Upd.here | apply Upd.there)) (by repeat (first | exact Put.done | apply Put.put | apply Put.skip))) ?_
              refine lstepB rfl rfl rfl (run_assign (.tmp rfl)) ?_
              refine lnil ?_
              refine xw_then ?_
              refine cw_seq ?_
              refine cw_region ?_
              refine lstepB rfl rfl rfl (run_loadN (.tmp rfl) kd24 sz24 (by repeat (first | exact List.Mem.head _ | apply List.Mem.tail)) (by repeat (first | exact Sub.done | apply Sub.take | apply Sub.skip))) ?_
              refine lstepB rfl rfl rfl (run_call1 cb20 (.cons (.tmp rfl) .nil) (fun w2 hS => (worstQn y ly1 ly2 ly3 w2 hmy ⟨(fun i r h => by rw [ny0] at h; simp at h), (by rw [hyw]; exact hf.wids.kept hS.kept), (by rw [hyd]; exact hf.deps.kept hS.kept)⟩ hvq).as (show _ = Value.tuple #[.int .i64 ((sureN f.offs : Nat) : Int), .int .i64 ((canN f.offs : Nat) : Int), .int .i64 0] from by rw [hsu, hca]))) ?_
              refine lstepB rfl rfl rfl (run_move (.tmp rfl)) ?_
              refine lstepB rfl rfl rfl (run_extract (.tmp rfl) rfl) ?_
              refine lstepB rfl rfl rfl (run_extract (.tmp rfl) rfl) ?_
              refine lstepB rfl rfl rfl (run_extract (.tmp rfl) rfl) ?_
              refine lstepB rfl rfl rfl (run_assign (.tmp rfl)) ?_
              refine lstepB rfl rfl rfl (run_assign (.tmp rfl)) ?_
              refine lstepB rfl rfl rfl (run_assign (.tmp rfl)) ?_
              refine lnil ?_
              refine xw_then ?_
              refine cw_seq ?_
              refine cw_region ?_
              refine lstepB rfl rfl rfl (run_loadN (.tmp rfl) kd24 sz24 (by repeat (first | exact List.Mem.head _ | apply List.Mem.tail)) (by repeat (first | exact Sub.done | apply Sub.take | apply Sub.skip))) ?_
              refine lstep rfl rfl rfl (LR.runs (R := []) (A := []) (lr_gives cb18 (.cons (.tmp rfl) .nil) (fun w2 hS => straightQn y ly1 ly2 ly3 w2 hmy ⟨(fun i r h => by rw [ny0] at h; simp at h), (by rw [hyw]; exact hf.wids.kept hS.kept), (by rw [hyd]; exact hf.deps.kept hS.kept)⟩ hvq)) (by repeat (first | exact Pick.nil | (apply Pick.cons; focus (repeat (first | exact Del.here | apply Del.there))))) (by repeat (first | exact Dels.nil | (apply Dels.cons; focus (repeat (first | exact Del.here | apply Del.there)))))) ?_
              intro ⟨gT, s2⟩ ⟨hs4, hs5, hs6⟩
              dsimp only at hs4 hs5 hs6 ⊢
              refine lstepB rfl rfl rfl (run_move (.tmp rfl)) ?_
              refine lstepB rfl rfl rfl (run_extract (.tmp rfl) rfl) ?_
              refine lstepB rfl rfl rfl (run_extract (.tmp rfl) rfl) ?_
              refine lstepB rfl rfl rfl (run_assign (.tmp rfl)) ?_
              refine lstepB rfl rfl rfl (run_assign (.tmp rfl)) ?_
              refine lnil ?_
              refine xw_then ?_
              refine cw_seq ?_
              refine cw_region ?_
              refine lstepB rfl rfl rfl (run_loadN (.tmp rfl) kd24 sz24 (by repeat (first | exact List.Mem.head _ | apply List.Mem.tail)) (by repeat (first | exact Sub.done | apply Sub.take | apply Sub.skip))) ?_
              refine lstepB rfl rfl rfl (run_move (.tmp rfl)) ?_
              refine lstepB rfl rfl rfl (run_call1 cb23 (.cons (.tmp rfl) (.cons (.tmp rfl) .nil)) (fun w2 hS => wrongQn y ly1 ly2 ly3 most w2 hmy ⟨(fun i r h => by rw [ny0] at h; simp at h), (by rw [hyw]; exact hf.wids.kept hS.kept), (by rw [hyd]; exact hf.deps.kept hS.kept)⟩ hwq)) ?_
              refine lstepB rfl rfl rfl (run_move (.tmp rfl)) ?_
              refine lstepB rfl rfl rfl (run_extract (.tmp rfl) rfl) ?_
              refine lstepB rfl rfl rfl (run_extract (.tmp rfl) rfl) ?_
              refine lstepB rfl rfl rfl (run_assign (.tmp rfl)) ?_
              refine lstepB rfl rfl rfl (run_assign (.tmp rfl)) ?_
              refine lnil ?_
              refine xw_then ?_
              refine cw_seq ?_
              refine cw_region ?_
              refine lstepB rfl rfl rfl (run_loadN (.tmp rfl) kd24 sz24 (by repeat (first | exact List.Mem.head _ | apply List.Mem.tail)) (by repeat (first | exact Sub.done | apply Sub.take | apply Sub.skip))) ?_
              refine lstepB rfl rfl rfl (run_call1 cb27 (.cons (.tmp rfl) .nil) (fun w2 hS => (soilQn y ly1 ly2 ly3 w2 hmy ⟨(fun i r h => by rw [ny0] at h; simp at h), (by rw [hyw]; exact hf.wids.kept hS.kept), (by rw [hyd]; exact hf.deps.kept hS.kept)⟩ hvq).as (show _ = Value.tuple #[spanV (soilS f), .int .i64 0] from by rw [sy]))) ?_
              refine lstepB rfl rfl rfl (run_move (.tmp rfl)) ?_
              refine lstepB rfl rfl rfl (run_extract (.tmp rfl) rfl) ?_
              refine lstepB rfl rfl rfl (run_extract (.tmp rfl) rfl) ?_
              refine lstep rfl rfl rfl (run_alloc zr28) ?_
              intro b40 _
              refine lstep0 rfl rfl (run_storeN (.tmp rfl) (.tmp rfl) rfl sz28 rfl (by repeat (first | exact Upd.here | apply Upd.there)) (by repeat (first | exact Put.done | apply Put.put | apply Put.skip))) ?_
              refine lstepB rfl rfl rfl (run_assign (.tmp rfl)) ?_
              refine lnil ?_
              refine xw_then ?_
              refine cw_seq ?_
              refine cw_seq ?_
              refine cw_region ?_
              refine lstepB rfl rfl rfl (run_move (.tmp rfl)) ?_
              refine lstepB rfl rfl rfl (run_eql (.tmp rfl) .const (decide_eq_false (by decide))) ?_
              refine lnil ?_
              refine xw_then ?_
              refine cw_cond_false (.tmp rfl) ?_
              refine cw_skip ?_
              refine xw_then ?_
              refine cw_seq ?_
              refine cw_seq ?_
              refine cw_region ?_
              refine lstepB rfl rfl rfl (run_loadN (.tmp rfl) kd28 sz28 (by repeat (first | exact List.Mem.head _ | apply List.Mem.tail)) (by repeat (first | exact Sub.done | apply Sub.take | apply Sub.skip))) ?_
              refine lstepB rfl rfl rfl (run_loadN (.tmp rfl) kd28 sz28 (by repeat (first | exact List.Mem.head _ | apply List.Mem.tail)) (by repeat (first | exact Sub.done | apply Sub.take | apply Sub.skip))) ?_
              refine lstepB rfl rfl rfl (run_eql_agg (.tmp rfl) (.tmp rfl) eg28 (neq28 (r := false) (by simp))) ?_
              refine lstepB rfl rfl rfl (run_move (.tmp rfl)) ?_
              refine lyes rfl rfl rfl rfl ?_
              refine gstepB rfl rfl (run_move (.tmp rfl)) ?_
              refine lyes rfl rfl rfl rfl ?_
              refine gstepB rfl rfl (run_move (.tmp rfl)) ?_
              refine lyes rfl rfl rfl rfl ?_
              refine gstepB rfl rfl (run_neq (.tmp rfl) (.tmp rfl) (decide_eq_false (fun h => h rfl))) ?_
              refine lstepB rfl rfl rfl (by first | exact run_pick_true (.tmp rfl) .const | exact run_pick_false (.tmp rfl) (.tmp rfl)) ?_
              refine lstepB rfl rfl rfl (run_move (.tmp rfl)) ?_
              refine lyes rfl rfl rfl rfl ?_
              refine gstepB rfl rfl (run_move (.tmp rfl)) ?_
              refine lyes rfl rfl rfl rfl ?_
              refine gstepB rfl rfl (run_move (.tmp rfl)) ?_
              refine lyes rfl rfl rfl rfl ?_
              refine gstepB rfl rfl (run_neq (.tmp rfl) (.tmp rfl) (decide_eq_false (fun h => h rfl))) ?_
              refine lstepB rfl rfl rfl (by first | exact run_pick_true (.tmp rfl) .const | exact run_pick_false (.tmp rfl) (.tmp rfl)) ?_
              refine lstepB rfl rfl rfl (run_move (.tmp rfl)) ?_
              refine lyes rfl rfl rfl rfl ?_
              refine gstepB rfl rfl (run_move (.tmp rfl)) ?_
              refine lyes rfl rfl rfl rfl ?_
              refine gstepB rfl rfl (run_move (.tmp rfl)) ?_
              refine lyes rfl rfl rfl rfl ?_
              refine gstepB rfl rfl (run_neq (.tmp rfl) (.tmp rfl) (decide_eq_false (fun h => h rfl))) ?_
              refine lstepB rfl rfl rfl (by first | exact run_pick_true (.tmp rfl) .const | exact run_pick_false (.tmp rfl) (.tmp rfl)) ?_
              refine lstepB rfl rfl rfl (run_move (.tmp rfl)) ?_
              refine lyes rfl rfl rfl rfl ?_
              refine gstepB rfl rfl (run_move (.tmp rfl)) ?_
              refine lyes rfl rfl rfl rfl ?_
              refine gstepB rfl rfl (run_move (.tmp rfl)) ?_
              refine lyes rfl rfl rfl rfl ?_
              refine gstepB rfl rfl (run_neq (.tmp rfl) (.tmp rfl) (decide_eq_false (fun h => h rfl))) ?_
              refine lstepB rfl rfl rfl (by first | exact run_pick_true (.tmp rfl) .const | exact run_pick_false (.tmp rfl) (.tmp rfl)) ?_
              refine lstepB rfl rfl rfl (run_move (.tmp rfl)) ?_
              refine lyes rfl rfl rfl rfl ?_
              refine gstepB rfl rfl (run_move (.tmp rfl)) ?_
              refine lyes rfl rfl rfl rfl ?_
              refine gstepB rfl rfl (run_move (.tmp rfl)) ?_
              refine lyes rfl rfl rfl rfl ?_
              refine gstepB rfl rfl (run_neq (.tmp rfl) (.tmp rfl) (decide_eq_false (fun h => h rfl))) ?_
              refine lstepB rfl rfl rfl (by first | exact run_pick_true (.tmp rfl) .const | exact run_pick_false (.tmp rfl) (.tmp rfl)) ?_
              refine lstepB rfl rfl rfl (run_move (.tmp rfl)) ?_
              refine lyes rfl rfl rfl rfl ?_
              refine gstepB rfl rfl (run_move (.tmp rfl)) ?_
              refine lyes rfl rfl rfl rfl ?_
              refine gstepB rfl rfl (run_call1 cb32 (.cons (.tmp rfl) .nil) (fun w2 hS => rmostKn s2 hs4 (by omega) hs5 (hs6.trans (by rw [hbe])) _ _ w2 (intsAt_cells (hS.mem (b := gT) (by repeat (first | exact List.Mem.head _ | apply List.Mem.tail)))))) ?_
              refine lyes rfl rfl rfl rfl ?_
              refine gstepB rfl rfl (run_move (.tmp rfl)) ?_
              refine lyes rfl rfl rfl rfl ?_
              refine gstepB rfl rfl (run_call1 cb32 (.cons (.tmp rfl) .nil) (fun w2 hS => rmostKn s1 hs1 (by omega) hs2 hs3 _ _ w2 (intsAt_cells (hS.mem (b := gS) (by repeat (first | exact List.Mem.head _ | apply List.Mem.tail)))))) ?_
              refine lyes rfl rfl rfl rfl ?_
              refine gstepB rfl rfl (run_neq (.tmp rfl) (.tmp rfl) (decide_eq_false (fun h => h rfl))) ?_
              refine lstepB rfl rfl rfl (by first | exact run_pick_true (.tmp rfl) .const | exact run_pick_false (.tmp rfl) (.tmp rfl)) ?_
              refine lstepB rfl rfl rfl (run_move (.tmp rfl)) ?_
              refine lyes rfl rfl rfl rfl ?_
              refine gstepB rfl rfl (run_loadN (.tmp rfl) kd28 sz28 (by repeat (first | exact List.Mem.head _ | apply List.Mem.tail)) (by repeat (first | exact Sub.done | apply Sub.take | apply Sub.skip))) ?_
              refine lyes rfl rfl rfl rfl ?_
              refine gstepB rfl rfl (run_loadN (.tmp rfl) kd28 sz28 (by repeat (first | exact List.Mem.head _ | apply List.Mem.tail)) (by repeat (first | exact Sub.done | apply Sub.take | apply Sub.skip))) ?_
              refine lyes rfl rfl rfl rfl ?_
              refine gstepB rfl rfl (run_eql_agg (.tmp rfl) (.tmp rfl) eg28 (neq28 (r := false) (by simp))) ?_
              refine lstepB rfl rfl rfl (by first | exact run_pick_true (.tmp rfl) .const | exact run_pick_false (.tmp rfl) (.tmp rfl)) ?_
              refine lstepB rfl rfl rfl (run_move (.tmp rfl)) ?_
              refine lyes rfl rfl rfl rfl ?_
              refine gstepB rfl rfl (run_move (.tmp rfl)) ?_
              refine lyes rfl rfl rfl rfl ?_
              refine gstepB rfl rfl (run_move (.tmp rfl)) ?_
              refine lyes rfl rfl rfl rfl ?_
              refine gstepB rfl rfl (run_neq (.tmp rfl) (.tmp rfl) (decide_eq_false (fun h => h rfl))) ?_
              refine lstepB rfl rfl rfl (by first | exact run_pick_true (.tmp rfl) .const | exact run_pick_false (.tmp rfl) (.tmp rfl)) ?_
              refine lstepB rfl rfl rfl (run_move (.tmp rfl)) ?_
              refine lyes rfl rfl rfl rfl ?_
              refine gstepB rfl rfl (run_move (.tmp rfl)) ?_
              refine lyes rfl rfl rfl rfl ?_
              refine gstepB rfl rfl (run_move (.tmp rfl)) ?_
              refine lyes rfl rfl rfl rfl ?_
              refine gstepB rfl rfl (run_neq (.tmp rfl) (.tmp rfl) (decide_eq_false (fun h => h rfl))) ?_
              refine lstepB rfl rfl rfl (by first | exact run_pick_true (.tmp rfl) .const | exact run_pick_false (.tmp rfl) (.tmp rfl)) ?_
              refine lnil ?_
              refine xw_then ?_
              refine cw_cond_false (.tmp rfl) ?_
              refine cw_skip ?_
              refine xw_then ?_
              refine cw_seq ?_
              refine cw_seq ?_
              refine cw_region ?_
              refine lstepB rfl rfl rfl (run_move (.tmp rfl)) ?_
              refine lstepB rfl rfl rfl (run_eql (.tmp rfl) .const (decide_eq_true (by decide))) ?_
              refine lstepB rfl rfl rfl (run_move (.tmp rfl)) ?_
              refine lyes rfl rfl rfl rfl ?_
              refine gstepB rfl rfl (run_move (.tmp rfl)) ?_
              refine lyes rfl rfl rfl rfl ?_
              refine gstepB rfl rfl (run_move (.tmp rfl)) ?_
              refine lyes rfl rfl rfl rfl ?_
              refine gstepB rfl rfl (run_neq (.tmp rfl) (.tmp rfl) (decide_eq_false (fun h => h rfl))) ?_
              refine lstepB rfl rfl rfl (by first | exact run_pick_true (.tmp rfl) (.tmp rfl) | exact run_pick_false (.tmp rfl) .const) ?_
              refine lstepB rfl rfl rfl (run_move (.tmp rfl)) ?_
              refine lyes rfl rfl rfl rfl ?_
              refine gstepB rfl rfl (run_move (.tmp rfl)) ?_
              refine lyes rfl rfl rfl rfl ?_
              refine gstepB rfl rfl (run_eql (.tmp rfl) .const (decide_eq_false (by decide))) ?_
              refine lyes rfl rfl rfl rfl ?_
              refine gstepB rfl rfl (run_move (.tmp rfl)) ?_
              refine lskip rfl rfl rfl rfl rfl rfl rfl ?_
              refine lskip rfl rfl rfl rfl rfl rfl rfl ?_
              refine lskip rfl rfl rfl rfl rfl rfl rfl ?_
              refine lskip rfl rfl rfl rfl rfl rfl rfl ?_
              refine lskip rfl rfl rfl rfl rfl rfl rfl ?_
              refine lskip rfl rfl rfl rfl rfl rfl rfl ?_
              refine lskip rfl rfl rfl rfl rfl rfl rfl ?_
              refine lskip rfl rfl rfl rfl rfl rfl rfl ?_
              refine lskip rfl rfl rfl rfl rfl rfl rfl ?_
              refine lskip rfl rfl rfl rfl rfl rfl rfl ?_
              refine lskip rfl rfl rfl rfl rfl rfl rfl ?_
              refine lskip rfl rfl rfl rfl rfl rfl rfl ?_
              refine lskip rfl rfl rfl rfl rfl rfl rfl ?_
              refine lyes rfl rfl rfl rfl ?_
              refine gstepB rfl rfl (by first | exact run_pick_true (.tmp rfl) (.tmp rfl) | exact run_pick_false (.tmp rfl) .const) ?_
              refine lstepB rfl rfl rfl (by first | exact run_pick_true (.tmp rfl) .const | exact run_pick_false (.tmp rfl) (.tmp rfl)) ?_
              refine lnil ?_
              refine xw_then ?_
              refine cw_cond_false (.tmp rfl) ?_
              refine cw_skip ?_
              refine xw_then ?_
              refine cw_seq ?_
              refine cw_region ?_
              refine lstepB rfl rfl rfl (run_load1 (.tmp rfl) kd3 (by repeat (first | exact List.Mem.head _ | apply List.Mem.tail)) (by exact rfl)) ?_
              refine lstepB rfl rfl rfl (run_move .const) ?_
              refine lnil ?_
              refine xw_then ?_
              refine cw_block ?_
              refine cw_loop (S := Nat) (fun j => [(333, .int .i64 (j : Int))]) [(1, _), (4, _), (9, _), (16, _), (17, _), (18, _), (19, _), (20, _), (21, _), (22, _), (23, _), (24, _), (25, _), (26, _), (27, _), (28, _), (29, _), (30, _), (211, _), (212, _), (213, _), (332, _)] (fun j => (gS, Obj.cells (intsV s1).toArray 3 (0, 0)) :: (b211, Obj.cells [.slice none 0 0, .slice wa f.wids.length wc, .slice da f.deps.length dc, .slice none 0 0, .slice wa f.wids.length wc, .slice da f.deps.length dc, .slice none 0 0, .slice none 0 0, .slice none 0 0].toArray 24 (0, 0)) :: (b18, Obj.cells (spanC (bendT f.offs)).toArray 28 (0, 0)) :: (b27, Obj.cells (spanC (soilS f)).toArray 28 (0, 0)) :: (b9, Obj.cells [.int .i64 (f.offs.length : Int)].toArray 3 (0, 0)) :: (b4, Obj.cells (furrowC f oa wa da oc wc dc).toArray 24 (0, 0)) :: (b30, Obj.cells [.slice none 0 0, .slice wa f.wids.length wc, .slice da f.deps.length dc].toArray 24 (0, 0)) :: []) (fun j => j ≤ f.offs.length) (fun j => f.offs.length - j) 0 (Nat.zero_le _) (by repeat (first | exact Less.nil | refine Less.cons rfl ?_)) (by repeat (first | exact Pick.nil | (apply Pick.cons; focus (repeat (first | exact Del.here | apply Del.there))))) ?_
              intro j hj
              refine cw_seq ?_
              refine cw_region ?_
              refine lstepB rfl rfl rfl (run_lss (.tmp rfl) (.tmp rfl) rfl) ?_
              refine lnil ?_
              refine xw_then ?_
              refine cw_seq ?_
              refine cw_cond_p (.tmp rfl) (fun hl4 => ?_) (fun hl4 => ?_)
              ·
                have hjn : j < f.offs.length := by omega
                obtain ⟨as_, ae, hat⟩ : ∃ as_ ae, atR f (j : Int) = (as_, ae) := ⟨_, _, rfl⟩
                have hat2 : atR y (j : Int) = (as_, ae) := by rw [← hat]; exact at_same hv hvq ty (fun _ => rfl) (fun h => inner_len ty.len.symm h)
                refine cw_skip ?_
                refine xw_then ?_
                refine cw_seq ?_
                refine cw_block ?_
                refine cw_seq ?_
                refine cw_region ?_
                refine lstepB rfl rfl rfl (run_move (.tmp rfl)) ?_
                refine lstepB rfl rfl rfl (run_assign (.tmp rfl)) ?_
                refine lnil ?_
                refine xw_then ?_
                refine cw_seq ?_
                refine cw_region ?_
                refine lstepB rfl rfl rfl (run_loadN (.tmp rfl) kd24 sz24 (by repeat (first | exact List.Mem.head _ | apply List.Mem.tail)) (by repeat (first | exact Sub.done | apply Sub.take | apply Sub.skip))) ?_
                refine lstepB rfl rfl rfl (run_move (.tmp rfl)) ?_
                refine lstepB rfl rfl rfl (run_call1 cb16 (.cons (.tmp rfl) (.cons (.tmp rfl) .nil)) (fun w2 hS => atQn2 f rfl rfl rfl (j : Int) w2 hm (hf.kept hS.kept) hat)) ?_
                refine lstepB rfl rfl rfl (run_move (.tmp rfl)) ?_
                refine lstepB rfl rfl rfl (run_extract (.tmp rfl) rfl) ?_
                refine lstepB rfl rfl rfl (run_extract (.tmp rfl) rfl) ?_
                refine lstep rfl rfl rfl (run_alloc zr28) ?_
                intro b43 _
                refine lstep0 rfl rfl (run_storeN (.tmp rfl) (.tmp rfl) rfl sz28 rfl (by repeat (first | exact Upd.here | apply Upd.there)) (by repeat (first | exact Put.done | apply Put.put | apply Put.skip))) ?_
                refine lstepB rfl rfl rfl (run_assign (.tmp rfl)) ?_
                refine lnil ?_
                refine xw_then ?_
                refine cw_seq ?_
                refine cw_region ?_
                refine lstepB rfl rfl rfl (run_move (.tmp rfl)) ?_
                refine lstepB rfl rfl rfl (run_assign (.tmp rfl)) ?_
                refine lnil ?_
                refine xw_then ?_
                refine cw_seq ?_
                refine cw_seq ?_
                refine cw_region ?_
                refine lstepB rfl rfl rfl (run_move (.tmp rfl)) ?_
                refine lstepB rfl rfl rfl (run_eql (.tmp rfl) .const (decide_eq_false (by decide))) ?_
                refine lnil ?_
                refine xw_then ?_
                refine cw_cond_false (.tmp rfl) ?_
                refine cw_skip ?_
                refine xw_then ?_
                refine cw_seq ?_
                refine cw_region ?_
                refine lstepB rfl rfl rfl (run_loadN (.tmp rfl) kd24 sz24 (by repeat (first | exact List.Mem.head _ | apply List.Mem.tail)) (by repeat (first | exact Sub.done | apply Sub.take | apply Sub.skip))) ?_
                refine lstepB rfl rfl rfl (run_move (.tmp rfl)) ?_
                refine lstepB rfl rfl rfl (run_call1 cb16 (.cons (.tmp rfl) (.cons (.tmp rfl) .nil)) (fun w2 hS => atQn2 y ly1 ly2 ly3 (j : Int) w2 hmy ⟨(fun i r h => by rw [ny0] at h; simp at h), (by rw [hyw]; exact hf.wids.kept hS.kept), (by rw [hyd]; exact hf.deps.kept hS.kept)⟩ hat2)) ?_
                refine lstepB rfl rfl rfl (run_move (.tmp rfl)) ?_
                refine lstepB rfl rfl rfl (run_extract (.tmp rfl) rfl) ?_
                refine lstepB rfl rfl rfl (run_extract (.tmp rfl) rfl) ?_
                refine lstep rfl rfl rfl (run_alloc zr28) ?_
                intro b46 _
                refine lstep0 rfl rfl (run_storeN (.tmp rfl) (.tmp rfl) rfl sz28 rfl (by repeat (first | exact Upd.here | apply Upd.there)) (by repeat (first | exact Put.done | apply Put.put | apply Put.skip))) ?_
                refine lstepB rfl rfl rfl (run_assign (.tmp rfl)) ?_
                refine lnil ?_
                refine xw_then ?_
                refine cw_seq ?_
                refine cw_region ?_
                refine lstepB rfl rfl rfl (run_loadN (.tmp rfl) kd28 sz28 (by repeat (first | exact List.Mem.head _ | apply List.Mem.tail)) (by repeat (first | exact Sub.done | apply Sub.take | apply Sub.skip))) ?_
                refine lstepB rfl rfl rfl (run_loadN (.tmp rfl) kd28 sz28 (by repeat (first | exact List.Mem.head _ | apply List.Mem.tail)) (by repeat (first | exact Sub.done | apply Sub.take | apply Sub.skip))) ?_
                refine lstepB rfl rfl rfl (run_eql_agg (.tmp rfl) (.tmp rfl) eg28 (neq28 (r := false) (by simp))) ?_
                refine lstepB rfl rfl rfl (run_move (.tmp rfl)) ?_
                refine lyes rfl rfl rfl rfl ?_
                refine gstepB rfl rfl (run_move (.tmp rfl)) ?_
                refine lyes rfl rfl rfl rfl ?_
                refine gstepB rfl rfl (run_move (.tmp rfl)) ?_
                refine lyes rfl rfl rfl rfl ?_
                refine gstepB rfl rfl (run_neq (.tmp rfl) (.tmp rfl) (decide_eq_false (fun h => h rfl))) ?_
                refine lstepB rfl rfl rfl (by first | exact run_pick_true (.tmp rfl) .const | exact run_pick_false (.tmp rfl) (.tmp rfl)) ?_
                refine lnil ?_
                refine xw_then ?_
                refine cw_cond_false (.tmp rfl) ?_
                refine cw_skip ?_
                refine xw_in ?_
                refine xw_then ?_
                refine cw_region ?_
                refine lstepB rfl rfl rfl (run_add (.tmp rfl) .const (by first | exact IntWalk.i64_in _ (by omega) | exact rfl)) ?_
                refine lstepB rfl rfl rfl (run_move (.tmp rfl)) ?_
                refine lnil ?_
                exact xw_round (j + 1) (by show j + 1 ≤ _; omega) (by show f.offs.length - (j + 1) < f.offs.length - j; omega) (by repeat (first | exact Less.nil | refine Less.cons rfl ?_)) (by repeat (first | exact Pick.nil | (apply Pick.cons; focus (repeat (first | exact Del.here | apply Del.there)))))
              ·
                refine cw_exit ?_
                refine xw_then_exit ?_
                refine xw_then_exit ?_
                refine xw_in_exit ?_
                refine xw_in ?_
                refine xw_then ?_
                refine cw_region ?_
                refine lstepB rfl rfl rfl (run_add (.tmp rfl) .const (by first | exact IntWalk.i64_in _ (by omega) | exact rfl)) ?_
                refine lstepB rfl rfl rfl (run_move (.tmp rfl)) ?_
                refine lnil ?_
                exact xw_round 2 (.inr (.inr (.inl rfl))) (by show 3 - 2 < 3 - 1; omega) (by repeat (first | exact Less.nil | refine Less.cons rfl ?_)) (by repeat (first | exact Pick.nil | (apply Pick.cons; focus (repeat (first | exact Del.here | apply Del.there)))))
          · as_aux_lemma =>
            refine cw_seq ?_
            refine cw_region ?_
            refine lstepB rfl rfl rfl (run_lss (.tmp rfl) (.tmp rfl) (decide_eq_true (by decide))) ?_
            refine lnil ?_
            refine xw_then ?_
            refine cw_seq ?_
            refine cw_cond_true (.tmp rfl) ?_
            clear sx tx hmx lx1 lx2 lx3 hxw hxd sy ty ny hmy ly1 ly2 ly3 hyw hyd
            cases hvq : validB z
            ·
              refine cw_skip ?_
              refine xw_then ?_
              refine cw_seq ?_
              refine cw_block ?_
              refine cw_seq ?_
              refine cw_region ?_
              refine lstepB rfl rfl rfl (run_move (.tmp rfl)) ?_
              refine lstepB rfl rfl rfl (run_indexAddr (i := 2) (off' := 6) (.tmp rfl) (.tmp rfl) el62 (by decide) rfl) ?_
              refine lstepB rfl rfl rfl (run_loadN (l := [.slice none 0 0, .slice none 0 0, .slice none 0 0]) (.tmp rfl) kd24 sz24 (by repeat (first | exact List.Mem.head _ | apply List.Mem.tail)) (by repeat (first | exact Sub.done | apply Sub.take | apply Sub.skip))) ?_
              refine lstep rfl rfl rfl (run_alloc zr24) ?_
              intro b30 _
              refine lstepB rfl rfl rfl (run_assign (.tmp rfl)) ?_
              refine lstep0 rfl rfl (run_storeN (.tmp rfl) (.tmp rfl) rfl sz24 rfl (by repeat (first | exact Upd.here | apply Upd.there)) (by repeat (first | exact Put.done | apply Put.put | apply Put.skip))) ?_
              refine lnil ?_
              refine xw_then ?_
              refine cw_seq ?_
              refine cw_seq ?_
              refine cw_region ?_
              refine lstepB rfl rfl rfl (run_loadN (.tmp rfl) kd24 sz24 (by repeat (first | exact List.Mem.head _ | apply List.Mem.tail)) (by repeat (first | exact Sub.done | apply Sub.take | apply Sub.skip))) ?_
              refine lstepB rfl rfl rfl (run_call1 cb35 (.cons (.tmp rfl) .nil) (fun w2 hS => rFurrowQn z lz1 lz2 lz3 w2 hmz ⟨(fun i r h => by rw [nz] at h; simp at h), (fun i r h => by rw [nzw] at h; simp at h), (fun i r h => by rw [nzd] at h; simp at h)⟩ hvq)) ?_
              refine lstepB rfl rfl rfl (run_not (.tmp rfl) (by first | exact Bool.not_true | exact Bool.not_false | exact rfl)) ?_
              refine lnil ?_
              refine xw_then ?_
              refine cw_cond_true (.tmp rfl) ?_
              refine cw_exit ?_
              refine xw_then_exit ?_
              refine xw_in_exit ?_
              refine xw_then ?_
              refine cw_region ?_
              refine lstepB rfl rfl rfl (run_add (.tmp rfl) .const (by first | exact IntWalk.i64_in _ (by omega) | exact rfl)) ?_
              refine lstepB rfl rfl rfl (run_move (.tmp rfl)) ?_
              refine lnil ?_
              exact xw_round 3 (.inr (.inr (.inr rfl))) (by show 3 - 3 < 3 - 2; omega) (by repeat (first | exact Less.nil | refine Less.cons rfl ?_)) (by repeat (first | exact Pick.nil | (apply Pick.cons; focus (repeat (first | exact Del.here | apply Del.there)))))
            ·
              refine cw_skip ?_
              refine xw_then ?_
              refine cw_seq ?_
              refine cw_block ?_
              refine cw_seq ?_
              refine cw_region ?_
              refine lstepB rfl rfl rfl (run_move (.tmp rfl)) ?_
              refine lstepB rfl rfl rfl (run_indexAddr (i := 2) (off' := 6) (.tmp rfl) (.tmp rfl) el62 (by decide) rfl) ?_
              refine lstepB rfl rfl rfl (run_loadN (l := [.slice none 0 0, .slice none 0 0, .slice none 0 0]) (.tmp rfl) kd24 sz24 (by repeat (first | exact List.Mem.head _ | apply List.Mem.tail)) (by repeat (first | exact Sub.done | apply Sub.take | apply Sub.skip))) ?_
              refine lstep rfl rfl rfl (run_alloc zr24) ?_
              intro b30 _
              refine lstepB rfl rfl rfl (run_assign (.tmp rfl)) ?_
              refine lstep0 rfl rfl (run_storeN (.tmp rfl) (.tmp rfl) rfl sz24 rfl (by repeat (first | exact Upd.here | apply Upd.there)) (by repeat (first | exact Put.done | apply Put.put | apply Put.skip))) ?_
              refine lnil ?_
              refine xw_then ?_
              refine cw_seq ?_
              refine cw_seq ?_
              refine cw_region ?_
              refine lstepB rfl rfl rfl (run_loadN (.tmp rfl) kd24 sz24 (by repeat (first | exact List.Mem.head _ | apply List.Mem.tail)) (by repeat (first | exact Sub.done | apply Sub.take | apply Sub.skip))) ?_
              refine lstepB rfl rfl rfl (run_call1 cb35 (.cons (.tmp rfl) .nil) (fun w2 hS => rFurrowQn z lz1 lz2 lz3 w2 hmz ⟨(fun i r h => by rw [nz] at h; simp at h), (fun i r h => by rw [nzw] at h; simp at h), (fun i r h => by rw [nzd] at h; simp at h)⟩ hvq)) ?_
              refine lstepB rfl rfl rfl (run_not (.tmp rfl) (by first | exact Bool.not_true | exact Bool.not_false | exact rfl)) ?_
              refine lnil ?_
              refine xw_then ?_
              refine cw_cond_false (.tmp rfl) ?_
              have hbe := tz.bend hfine (validF hvq).fine
              obtain ⟨hsu, hca⟩ := rev_sets hv hvq rz
              have wz32 := worstN_small z.offs (k := z.offs.length - 2) (by omega)
              obtain ⟨v1, v2, ve, hv1, hv2, hv1l, hv2l, hvs⟩ : ∃ (v1 v2 : Nat) (ve : Int), wrongR f most = ((v1 : Int), ve) ∧ wrongR z most = ((v2 : Int), ve) ∧ v1 < 256 ∧ v2 < 256 ∧ sizeN v1 = sizeN v2 := rev_wrongR hvf hvq rz hn6 most
              obtain ⟨rfl, rfl⟩ : ws = (v1 : Int) ∧ we = ve := by rw [hws] at hv1; exact ⟨congrArg Prod.fst hv1, congrArg Prod.snd hv1⟩
              refine cw_skip ?_
              refine xw_then ?_
              refine cw_seq ?_
              refine cw_region ?_
              refine lstepB rfl rfl rfl (run_loadN (.tmp rfl) kd24 sz24 (by repeat (first | exact List.Mem.head _ | apply List.Mem.tail)) (by repeat (first | exact Sub.done | apply Sub.take | apply Sub.skip))) ?_
              refine lstepB rfl rfl rfl (run_call1 cb14 (.cons (.tmp rfl) .nil) (fun w2 hS => (bendQn z lz1 lz2 lz3 w2 hmz ⟨(fun i r h => by rw [nz] at h; simp at h), (fun i r h => by rw [nzw] at h; simp at h), (fun i r h => by rw [nzd] at h; simp at h)⟩ hvq).as (show _ = Value.tuple #[spanV (bendT f.offs), .int .i64 0] from by rw [hbe]))) ?_
              refine lstepB rfl rfl rfl (run_move (.tmp rfl)) ?_
              refine lstepB rfl rfl rfl (run_extract (.tmp rfl) rfl) ?_
              refine lstepB rfl rfl rfl (run_extract (.tmp rfl) rfl) ?_
              refine lstep rfl rfl rfl (run_alloc zr28) ?_
              intro b31 _
              refine lstep0 rfl rfl (run_storeN (.tmp rfl) (.tmp rfl) rfl sz28 rfl (by repeat (first | exact Upd.here | apply Upd.there)) (by repeat (first | exact Put.done | apply Put.put | apply Put.skip))) ?_
              refine lstepB rfl rfl rfl (run_assign (.tmp rfl)) ?_
              refine lnil ?_
              refine xw_then ?_
              refine cw_seq ?_
              refine cw_region ?_
              refine lstepB rfl rfl rfl (run_loadN (.tmp rfl) kd24 sz24 (by repeat (first | exact List.Mem.head _ | apply List.Mem.tail)) (by repeat (first | exact Sub.done | apply Sub.take | apply Sub.skip))) ?_
              refine lstepB rfl rfl rfl (run_call1 cb20 (.cons (.tmp rfl) .nil) (fun w2 hS => worstQn z lz1 lz2 lz3 w2 hmz ⟨(fun i r h => by rw [nz] at h; simp at h), (fun i r h => by rw [nzw] at h; simp at h), (fun i r h => by rw [nzd] at h; simp at h)⟩ hvq)) ?_
              refine lstepB rfl rfl rfl (run_move (.tmp rfl)) ?_
              refine lstepB rfl rfl rfl (run_extract (.tmp rfl) rfl) ?_
              refine lstepB rfl rfl rfl (run_extract (.tmp rfl) rfl) ?_
              refine lstepB rfl rfl rfl (run_extract (.tmp rfl) rfl) ?_
              refine lstepB rfl rfl rfl (run_assign (.tmp rfl)) ?_
              refine lstepB rfl rfl rfl (run_assign (.tmp rfl)) ?_
              refine lstepB rfl rfl rfl (run_assign (.tmp rfl)) ?_
              refine lnil ?_
              refine xw_then ?_
              refine cw_seq ?_
              refine cw_region ?_
              refine lstepB rfl rfl rfl (run_loadN (.tmp rfl) kd24 sz24 (by repeat (first | exact List.Mem.head _ | apply List.Mem.tail)) (by repeat (first | exact Sub.done | apply Sub.take | apply Sub.skip))) ?_
              refine lstep rfl rfl rfl (LR.runs (R := []) (A := []) (lr_gives cb18 (.cons (.tmp rfl) .nil) (fun w2 hS => straightQn z lz1 lz2 lz3 w2 hmz ⟨(fun i r h => by rw [nz] at h; simp at h), (fun i r h => by rw [nzw] at h; simp at h), (fun i r h => by rw [nzd] at h; simp at h)⟩ hvq)) (by repeat (first | exact Pick.nil | (apply Pick.cons; focus (repeat (first | exact Del.here | apply Del.there))))) (by repeat (first | exact Dels.nil | (apply Dels.cons; focus (repeat (first | exact Del.here | apply Del.there)))))) ?_
              intro ⟨gT, s2⟩ ⟨hs4, hs5, hs6⟩
              dsimp only at hs4 hs5 hs6 ⊢
              refine lstepB rfl rfl rfl (run_move (.tmp rfl)) ?_
              refine lstepB rfl rfl rfl (run_extract (.tmp rfl) rfl) ?_
              refine lstepB rfl rfl rfl (run_extract (.tmp rfl) rfl) ?_
              refine lstepB rfl rfl rfl (run_assign (.tmp rfl)) ?_
              refine lstepB rfl rfl rfl (run_assign (.tmp rfl)) ?_
              refine lnil ?_
              refine xw_then ?_
              refine cw_seq ?_
              refine cw_region ?_
              refine lstepB rfl rfl rfl (run_loadN (.tmp rfl) kd24 sz24 (by repeat (first | exact List.Mem.head _ | apply List.Mem.tail)) (by repeat (first | exact Sub.done | apply Sub.take | apply Sub.skip))) ?_
              refine lstepB rfl rfl rfl (run_move (.tmp rfl)) ?_
              refine lstepB rfl rfl rfl (run_call1 cb23 (.cons (.tmp rfl) (.cons (.tmp rfl) .nil)) (fun w2 hS => wrongQn z lz1 lz2 lz3 most w2 hmz ⟨(fun i r h => by rw [nz] at h; simp at h), (fun i r h => by rw [nzw] at h; simp at h), (fun i r h => by rw [nzd] at h; simp at h)⟩ hv2)) ?_
              refine lstepB rfl rfl rfl (run_move (.tmp rfl)) ?_
              refine lstepB rfl rfl rfl (run_extract (.tmp rfl) rfl) ?_
              refine lstepB rfl rfl rfl (run_extract (.tmp rfl) rfl) ?_
              refine lstepB rfl rfl rfl (run_assign (.tmp rfl)) ?_
              refine lstepB rfl rfl rfl (run_assign (.tmp rfl)) ?_
              refine lnil ?_
              refine xw_then ?_
              refine cw_seq ?_
              refine cw_region ?_
              refine lstepB rfl rfl rfl (run_loadN (.tmp rfl) kd24 sz24 (by repeat (first | exact List.Mem.head _ | apply List.Mem.tail)) (by repeat (first | exact Sub.done | apply Sub.take | apply Sub.skip))) ?_
              refine lstepB rfl rfl rfl (run_call1 cb27 (.cons (.tmp rfl) .nil) (fun w2 hS => (soilQn z lz1 lz2 lz3 w2 hmz ⟨(fun i r h => by rw [nz] at h; simp at h), (fun i r h => by rw [nzw] at h; simp at h), (fun i r h => by rw [nzd] at h; simp at h)⟩ hvq).as (show _ = Value.tuple #[spanV (soilS f), .int .i64 0] from by rw [sz]))) ?_
              refine lstepB rfl rfl rfl (run_move (.tmp rfl)) ?_
              refine lstepB rfl rfl rfl (run_extract (.tmp rfl) rfl) ?_
              refine lstepB rfl rfl rfl (run_extract (.tmp rfl) rfl) ?_
              refine lstep rfl rfl rfl (run_alloc zr28) ?_
              intro b40 _
              refine lstep0 rfl rfl (run_storeN (.tmp rfl) (.tmp rfl) rfl sz28 rfl (by repeat (first | exact Upd.here | apply Upd.there)) (by repeat (first | exact Put.done | apply Put.put | apply Put.skip))) ?_
              refine lstepB rfl rfl rfl (run_assign (.tmp rfl)) ?_
              refine lnil ?_
              refine xw_then ?_
              refine cw_seq ?_
              refine cw_seq ?_
              refine cw_region ?_
              refine lstepB rfl rfl rfl (run_move (.tmp rfl)) ?_
              refine lstepB rfl rfl rfl (run_eql (.tmp rfl) .const (decide_eq_true (by decide))) ?_
              refine lnil ?_
              refine xw_then ?_
              refine cw_cond_true (.tmp rfl) ?_
              refine cw_region ?_
              refine lstepB rfl rfl rfl (run_move (.tmp rfl)) ?_
              refine lstepB rfl rfl rfl (run_move (.tmp rfl)) ?_
              refine lstepB rfl rfl rfl (run_callv1 cb39 (.tmp rfl) (.cons (.tmp rfl) .nil) rfl (fun w2 hS => (turnK (sureN z.offs) f.offs.length b9 wz32.1 (by omega) w2 (own_cell0 (hS.mem (b := b9) (by repeat (first | exact List.Mem.head _ | apply List.Mem.tail))))).as (congrArg (fun n : Nat => Value.int .i64 (n : Int)) hsu))) ?_
              refine lstepB rfl rfl rfl (run_move (.tmp rfl)) ?_
              refine lstepB rfl rfl rfl (run_move (.tmp rfl)) ?_
              refine lstepB rfl rfl rfl (run_callv1 cb39 (.tmp rfl) (.cons (.tmp rfl) .nil) rfl (fun w2 hS => (turnK (canN z.offs) f.offs.length b9 wz32.2 (by omega) w2 (own_cell0 (hS.mem (b := b9) (by repeat (first | exact List.Mem.head _ | apply List.Mem.tail))))).as (congrArg (fun n : Nat => Value.int .i64 (n : Int)) hca))) ?_
              refine lstepB rfl rfl rfl (run_assign (.tmp rfl)) ?_
              refine lstepB rfl rfl rfl (run_assign (.tmp rfl)) ?_
              refine lnil ?_
              refine xw_then ?_
              refine cw_seq ?_
              refine cw_seq ?_
              refine cw_region ?_
              refine lstepB rfl rfl rfl (run_loadN (.tmp rfl) kd28 sz28 (by repeat (first | exact List.Mem.head _ | apply List.Mem.tail)) (by repeat (first | exact Sub.done | apply Sub.take | apply Sub.skip))) ?_
              refine lstepB rfl rfl rfl (run_loadN (.tmp rfl) kd28 sz28 (by repeat (first | exact List.Mem.head _ | apply List.Mem.tail)) (by repeat (first | exact Sub.done | apply Sub.take | apply Sub.skip))) ?_
              refine lstepB rfl rfl rfl (run_eql_agg (.tmp rfl) (.tmp rfl) eg28 (neq28 (r := false) (by simp))) ?_
              refine lstepB rfl rfl rfl (run_move (.tmp rfl)) ?_
              refine lyes rfl rfl rfl rfl ?_
              refine gstepB rfl rfl (run_move (.tmp rfl)) ?_
              refine lyes rfl rfl rfl rfl ?_
              refine gstepB rfl rfl (run_move (.tmp rfl)) ?_
              refine lyes rfl rfl rfl rfl ?_
              refine gstepB rfl rfl (run_neq (.tmp rfl) (.tmp rfl) (decide_eq_false (fun h => h rfl))) ?_
              refine lstepB rfl rfl rfl (by first | exact run_pick_true (.tmp rfl) .const | exact run_pick_false (.tmp rfl) (.tmp rfl)) ?_
              refine lstepB rfl rfl rfl (run_move (.tmp rfl)) ?_
              refine lyes rfl rfl rfl rfl ?_
              refine gstepB rfl rfl (run_move (.tmp rfl)) ?_
              refine lyes rfl rfl rfl rfl ?_
              refine gstepB rfl rfl (run_move (.tmp rfl)) ?_
              refine lyes rfl rfl rfl rfl ?_
              refine gstepB rfl rfl (run_neq (.tmp rfl) (.tmp rfl) (decide_eq_false (fun h => h rfl))) ?_
              refine lstepB rfl rfl rfl (by first | exact run_pick_true (.tmp rfl) .const | exact run_pick_false (.tmp rfl) (.tmp rfl)) ?_
              refine lstepB rfl rfl rfl (run_move (.tmp rfl)) ?_
              refine lyes rfl rfl rfl rfl ?_
              refine gstepB rfl rfl (run_move (.tmp rfl)) ?_
              refine lyes rfl rfl rfl rfl ?_
              refine gstepB rfl rfl (run_move (.tmp rfl)) ?_
              refine lyes rfl rfl rfl rfl ?_
              refine gstepB rfl rfl (run_neq (.tmp rfl) (.tmp rfl) (decide_eq_false (fun h => h rfl))) ?_
              refine lstepB rfl rfl rfl (by first | exact run_pick_true (.tmp rfl) .const | exact run_pick_false (.tmp rfl) (.tmp rfl)) ?_
              refine lstepB rfl rfl rfl (run_move (.tmp rfl)) ?_
              refine lyes rfl rfl rfl rfl ?_
              refine gstepB rfl rfl (run_move (.tmp rfl)) ?_
              refine lyes rfl rfl rfl rfl ?_
              refine gstepB rfl rfl (run_move (.tmp rfl)) ?_
              refine lyes rfl rfl rfl rfl ?_
              refine gstepB rfl rfl (run_neq (.tmp rfl) (.tmp rfl) (decide_eq_false (fun h => h rfl))) ?_
              refine lstepB rfl rfl rfl (by first | exact run_pick_true (.tmp rfl) .const | exact run_pick_false (.tmp rfl) (.tmp rfl)) ?_
              refine lstepB rfl rfl rfl (run_move (.tmp rfl)) ?_
              refine lyes rfl rfl rfl rfl ?_
              refine gstepB rfl rfl (run_move (.tmp rfl)) ?_
              refine lyes rfl rfl rfl rfl ?_
              refine gstepB rfl rfl (run_move (.tmp rfl)) ?_
              refine lyes rfl rfl rfl rfl ?_
              refine gstepB rfl rfl (run_neq (.tmp rfl) (.tmp rfl) (decide_eq_false (fun h => h rfl))) ?_
              refine lstepB rfl rfl rfl (by first | exact run_pick_true (.tmp rfl) .const | exact run_pick_false (.tmp rfl) (.tmp rfl)) ?_
              refine lstepB rfl rfl rfl (run_move (.tmp rfl)) ?_
              refine lyes rfl rfl rfl rfl ?_
              refine gstepB rfl rfl (run_move (.tmp rfl)) ?_
              refine lyes rfl rfl rfl rfl ?_
              refine gstepB rfl rfl (run_call1 cb32 (.cons (.tmp rfl) .nil) (fun w2 hS => rmostKn s2 hs4 (by omega) hs5 (hs6.trans (by rw [hbe])) _ _ w2 (intsAt_cells (hS.mem (b := gT) (by repeat (first | exact List.Mem.head _ | apply List.Mem.tail)))))) ?_
              refine lyes rfl rfl rfl rfl ?_
              refine gstepB rfl rfl (run_move (.tmp rfl)) ?_
              refine lyes rfl rfl rfl rfl ?_
              refine gstepB rfl rfl (run_call1 cb32 (.cons (.tmp rfl) .nil) (fun w2 hS => rmostKn s1 hs1 (by omega) hs2 hs3 _ _ w2 (intsAt_cells (hS.mem (b := gS) (by repeat (first | exact List.Mem.head _ | apply List.Mem.tail)))))) ?_
              refine lyes rfl rfl rfl rfl ?_
              refine gstepB rfl rfl (run_neq (.tmp rfl) (.tmp rfl) (decide_eq_false (fun h => h rfl))) ?_
              refine lstepB rfl rfl rfl (by first | exact run_pick_true (.tmp rfl) .const | exact run_pick_false (.tmp rfl) (.tmp rfl)) ?_
              refine lstepB rfl rfl rfl (run_move (.tmp rfl)) ?_
              refine lyes rfl rfl rfl rfl ?_
              refine gstepB rfl rfl (run_loadN (.tmp rfl) kd28 sz28 (by repeat (first | exact List.Mem.head _ | apply List.Mem.tail)) (by repeat (first | exact Sub.done | apply Sub.take | apply Sub.skip))) ?_
              refine lyes rfl rfl rfl rfl ?_
              refine gstepB rfl rfl (run_loadN (.tmp rfl) kd28 sz28 (by repeat (first | exact List.Mem.head _ | apply List.Mem.tail)) (by repeat (first | exact Sub.done | apply Sub.take | apply Sub.skip))) ?_
              refine lyes rfl rfl rfl rfl ?_
              refine gstepB rfl rfl (run_eql_agg (.tmp rfl) (.tmp rfl) eg28 (neq28 (r := false) (by simp))) ?_
              refine lstepB rfl rfl rfl (by first | exact run_pick_true (.tmp rfl) .const | exact run_pick_false (.tmp rfl) (.tmp rfl)) ?_
              refine lstepB rfl rfl rfl (run_move (.tmp rfl)) ?_
              refine lyes rfl rfl rfl rfl ?_
              refine gstepB rfl rfl (run_move (.tmp rfl)) ?_
              refine lyes rfl rfl rfl rfl ?_
              refine gstepB rfl rfl (run_move (.tmp rfl)) ?_
              refine lyes rfl rfl rfl rfl ?_
              refine gstepB rfl rfl (run_neq (.tmp rfl) (.tmp rfl) (decide_eq_false (fun h => h rfl))) ?_
              refine lstepB rfl rfl rfl (by first | exact run_pick_true (.tmp rfl) .const | exact run_pick_false (.tmp rfl) (.tmp rfl)) ?_
              refine lstepB rfl rfl rfl (run_move (.tmp rfl)) ?_
              refine lyes rfl rfl rfl rfl ?_
              refine gstepB rfl rfl (run_move (.tmp rfl)) ?_
              refine lyes rfl rfl rfl rfl ?_
              refine gstepB rfl rfl (run_move (.tmp rfl)) ?_
              refine lyes rfl rfl rfl rfl ?_
              refine gstepB rfl rfl (run_neq (.tmp rfl) (.tmp rfl) (decide_eq_false (fun h => h rfl))) ?_
              refine lstepB rfl rfl rfl (by first | exact run_pick_true (.tmp rfl) .const | exact run_pick_false (.tmp rfl) (.tmp rfl)) ?_
              refine lnil ?_
              refine xw_then ?_
              refine cw_cond_false (.tmp rfl) ?_
              refine cw_skip ?_
              refine xw_then ?_
              refine cw_seq ?_
              refine cw_seq ?_
              refine cw_region ?_
              refine lstepB rfl rfl rfl (run_move (.tmp rfl)) ?_
              refine lstepB rfl rfl rfl (run_eql (.tmp rfl) .const (decide_eq_false (by decide))) ?_
              refine lstepB rfl rfl rfl (run_move (.tmp rfl)) ?_
              refine lskip rfl rfl rfl rfl rfl rfl rfl ?_
              refine lskip rfl rfl rfl rfl rfl rfl rfl ?_
              refine lskip rfl rfl rfl rfl rfl rfl rfl ?_
              refine lstepB rfl rfl rfl (by first | exact run_pick_true (.tmp rfl) (.tmp rfl) | exact run_pick_false (.tmp rfl) .const) ?_
              refine lstepB rfl rfl rfl (run_move (.tmp rfl)) ?_
              refine lyes rfl rfl rfl rfl ?_
              refine gstepB rfl rfl (run_move (.tmp rfl)) ?_
              refine lyes rfl rfl rfl rfl ?_
              refine gstepB rfl rfl (run_eql (.tmp rfl) .const (decide_eq_true (by decide))) ?_
              refine lyes rfl rfl rfl rfl ?_
              refine gstepB rfl rfl (run_move (.tmp rfl)) ?_
              refine lyes rfl rfl rfl rfl ?_
              refine gstepB rfl rfl (run_move (.tmp rfl)) ?_
              refine lyes rfl rfl rfl rfl ?_
              refine gstepB rfl rfl (run_lss (.tmp rfl) .const (decide_eq_false (Int.not_lt.2 (Int.natCast_nonneg _)))) ?_
              refine lyes rfl rfl rfl rfl ?_
              refine gstepB rfl rfl (run_move (.tmp rfl)) ?_
              refine lyes rfl rfl rfl rfl ?_
              refine gstepB rfl rfl (run_move (.tmp rfl)) ?_
              refine lyes rfl rfl rfl rfl ?_
              refine gstepB rfl rfl (run_lss (.tmp rfl) .const (decide_eq_false (Int.not_lt.2 (Int.natCast_nonneg _)))) ?_
              refine lyes rfl rfl rfl rfl ?_
              refine gstepB rfl rfl (by first | exact run_pick_true (.tmp rfl) .const | exact run_pick_false (.tmp rfl) (.tmp rfl)) ?_
              refine lyes rfl rfl rfl rfl ?_
              refine gstepB rfl rfl (run_move (.tmp rfl)) ?_
              refine lyes rfl rfl rfl rfl ?_
              refine gstepB rfl rfl (run_move (.tmp rfl)) ?_
              refine lyes rfl rfl rfl rfl ?_
              refine gstepB rfl rfl (run_call1 cb36 (.cons (.tmp rfl) .nil) (fun w2 _ => sizeK v2 hv2l w2)) ?_
              refine lyes rfl rfl rfl rfl ?_
              refine gstepB rfl rfl (run_move (.tmp rfl)) ?_
              refine lyes rfl rfl rfl rfl ?_
              refine gstepB rfl rfl (run_call1 cb36 (.cons (.tmp rfl) .nil) (fun w2 _ => sizeK v1 hv1l w2)) ?_
              refine lyes rfl rfl rfl rfl ?_
              refine gstepB rfl rfl (run_neq (.tmp rfl) (.tmp rfl) (decide_eq_false (fun h => h (by rw [hvs])))) ?_
              refine lyes rfl rfl rfl rfl ?_
              refine gstepB rfl rfl (by first | exact run_pick_true (.tmp rfl) .const | exact run_pick_false (.tmp rfl) (.tmp rfl)) ?_
              refine lyes rfl rfl rfl rfl ?_
              refine gstepB rfl rfl (by first | exact run_pick_true (.tmp rfl) (.tmp rfl) | exact run_pick_false (.tmp rfl) .const) ?_
              refine lstepB rfl rfl rfl (by first | exact run_pick_true (.tmp rfl) .const | exact run_pick_false (.tmp rfl) (.tmp rfl)) ?_
              refine lnil ?_
              refine xw_then ?_
              refine cw_cond_false (.tmp rfl) ?_
              refine cw_skip ?_
              refine xw_then ?_
              refine cw_seq ?_
              refine cw_region ?_
              refine lstepB rfl rfl rfl (run_load1 (.tmp rfl) kd3 (by repeat (first | exact List.Mem.head _ | apply List.Mem.tail)) (by exact rfl)) ?_
              refine lstepB rfl rfl rfl (run_move .const) ?_
              refine lnil ?_
              refine xw_then ?_
              refine cw_block ?_
              refine cw_loop (S := Nat) (fun j => [(333, .int .i64 (j : Int))]) [(1, _), (4, _), (9, _), (16, _), (17, _), (18, _), (19, _), (20, _), (21, _), (22, _), (23, _), (24, _), (25, _), (26, _), (27, _), (28, _), (29, _), (30, _), (211, _), (212, _), (213, _), (332, _)] (fun j => (gS, Obj.cells (intsV s1).toArray 3 (0, 0)) :: (b211, Obj.cells [.slice none 0 0, .slice wa f.wids.length wc, .slice da f.deps.length dc, .slice none 0 0, .slice wa f.wids.length wc, .slice da f.deps.length dc, .slice none 0 0, .slice none 0 0, .slice none 0 0].toArray 24 (0, 0)) :: (b18, Obj.cells (spanC (bendT f.offs)).toArray 28 (0, 0)) :: (b27, Obj.cells (spanC (soilS f)).toArray 28 (0, 0)) :: (b9, Obj.cells [.int .i64 (f.offs.length : Int)].toArray 3 (0, 0)) :: (b4, Obj.cells (furrowC f oa wa da oc wc dc).toArray 24 (0, 0)) :: (b30, Obj.cells [.slice none 0 0, .slice none 0 0, .slice none 0 0].toArray 24 (0, 0)) :: []) (fun j => j ≤ f.offs.length) (fun j => f.offs.length - j) 0 (Nat.zero_le _) (by repeat (first | exact Less.nil | refine Less.cons rfl ?_)) (by repeat (first | exact Pick.nil | (apply Pick.cons; focus (repeat (first | exact Del.here | apply Del.there))))) ?_
              intro j hj
              refine cw_seq ?_
              refine cw_region ?_
              refine lstepB rfl rfl rfl (run_lss (.tmp rfl) (.tmp rfl) rfl) ?_
              refine lnil ?_
              refine xw_then ?_
              refine cw_seq ?_
              refine cw_cond_p (.tmp rfl) (fun hl4 => ?_) (fun hl4 => ?_)
              ·
                have hjn : j < f.offs.length := by omega
                obtain ⟨as_, ae, hat⟩ : ∃ as_ ae, atR f (j : Int) = (as_, ae) := ⟨_, _, rfl⟩
                have hat2 : atR z ((f.offs.length - 1 - j : Nat) : Int) = (as_, ae) := by rw [← hat]; exact at_same hv hvq tz (fun _ => rfl) (fun h => by have := tz.len; unfold Inner at h ⊢; omega)
                refine cw_skip ?_
                refine xw_then ?_
                refine cw_seq ?_
                refine cw_block ?_
                refine cw_seq ?_
                refine cw_region ?_
                refine lstepB rfl rfl rfl (run_move (.tmp rfl)) ?_
                refine lstepB rfl rfl rfl (run_assign (.tmp rfl)) ?_
                refine lnil ?_
                refine xw_then ?_
                refine cw_seq ?_
                refine cw_region ?_
                refine lstepB rfl rfl rfl (run_loadN (.tmp rfl) kd24 sz24 (by repeat (first | exact List.Mem.head _ | apply List.Mem.tail)) (by repeat (first | exact Sub.done | apply Sub.take | apply Sub.skip))) ?_
                refine lstepB rfl rfl rfl (run_move (.tmp rfl)) ?_
                refine lstepB rfl rfl rfl (run_call1 cb16 (.cons (.tmp rfl) (.cons (.tmp rfl) .nil)) (fun w2 hS => atQn2 f rfl rfl rfl (j : Int) w2 hm (hf.kept hS.kept) hat)) ?_
                refine lstepB rfl rfl rfl (run_move (.tmp rfl)) ?_
                refine lstepB rfl rfl rfl (run_extract (.tmp rfl) rfl) ?_
                refine lstepB rfl rfl rfl (run_extract (.tmp rfl) rfl) ?_
                refine lstep rfl rfl rfl (run_alloc zr28) ?_
                intro b43 _
                refine lstep0 rfl rfl (run_storeN (.tmp rfl) (.tmp rfl) rfl sz28 rfl (by repeat (first | exact Upd.here | apply Upd.there)) (by repeat (first | exact Put.done | apply Put.put | apply Put.skip))) ?_
                refine lstepB rfl rfl rfl (run_assign (.tmp rfl)) ?_
                refine lnil ?_
                refine xw_then ?_
                refine cw_seq ?_
                refine cw_region ?_
                refine lstepB rfl rfl rfl (run_move (.tmp rfl)) ?_
                refine lstepB rfl rfl rfl (run_assign (.tmp rfl)) ?_
                refine lnil ?_
                refine xw_then ?_
                refine cw_seq ?_
                refine cw_seq ?_
                refine cw_region ?_
                refine lstepB rfl rfl rfl (run_move (.tmp rfl)) ?_
                refine lstepB rfl rfl rfl (run_eql (.tmp rfl) .const (decide_eq_true (by decide))) ?_
                refine lnil ?_
                refine xw_then ?_
                refine cw_cond_true (.tmp rfl) ?_
                refine cw_region ?_
                refine lstepB rfl rfl rfl (run_load1 (.tmp rfl) kd3 (by repeat (first | exact List.Mem.head _ | apply List.Mem.tail)) (by exact rfl)) ?_
                refine lstepB rfl rfl rfl (run_sub (.tmp rfl) .const (by first | exact IntWalk.i64_in _ (by omega) | exact rfl)) ?_
                refine lstepB rfl rfl rfl (run_move (.tmp rfl)) ?_
                refine lstepB rfl rfl rfl (run_sub (c := ((f.offs.length - 1 - j : Nat) : Int)) (.tmp rfl) (.tmp rfl) (by rw [show (f.offs.length : Int) - 1 - (j : Int) = ((f.offs.length - 1 - j : Nat) : Int) by omega]; exact IntWalk.i64_in _ (by omega))) ?_
                refine lstepB rfl rfl rfl (run_assign (.tmp rfl)) ?_
                refine lnil ?_
                refine xw_then ?_
                refine cw_seq ?_
                refine cw_region ?_
                refine lstepB rfl rfl rfl (run_loadN (.tmp rfl) kd24 sz24 (by repeat (first | exact List.Mem.head _ | apply List.Mem.tail)) (by repeat (first | exact Sub.done | apply Sub.take | apply Sub.skip))) ?_
                refine lstepB rfl rfl rfl (run_move (.tmp rfl)) ?_
                refine lstepB rfl rfl rfl (run_call1 cb16 (.cons (.tmp rfl) (.cons (.tmp rfl) .nil)) (fun w2 hS => atQn2 z lz1 lz2 lz3 ((f.offs.length - 1 - j : Nat) : Int) w2 hmz ⟨(fun i r h => by rw [nz] at h; simp at h), (fun i r h => by rw [nzw] at h; simp at h), (fun i r h => by rw [nzd] at h; simp at h)⟩ hat2)) ?_
                refine lstepB rfl rfl rfl (run_move (.tmp rfl)) ?_
                refine lstepB rfl rfl rfl (run_extract (.tmp rfl) rfl) ?_
                refine lstepB rfl rfl rfl (run_extract (.tmp rfl) rfl) ?_
                refine lstep rfl rfl rfl (run_alloc zr28) ?_
                intro b46 _
                refine lstep0 rfl rfl (run_storeN (.tmp rfl) (.tmp rfl) rfl sz28 rfl (by repeat (first | exact Upd.here | apply Upd.there)) (by repeat (first | exact Put.done | apply Put.put | apply Put.skip))) ?_
                refine lstepB rfl rfl rfl (run_assign (.tmp rfl)) ?_
                refine lnil ?_
                refine xw_then ?_
                refine cw_seq ?_
                refine cw_region ?_
                refine lstepB rfl rfl rfl (run_loadN (.tmp rfl) kd28 sz28 (by repeat (first | exact List.Mem.head _ | apply List.Mem.tail)) (by repeat (first | exact Sub.done | apply Sub.take | apply Sub.skip))) ?_
                refine lstepB rfl rfl rfl (run_loadN (.tmp rfl) kd28 sz28 (by repeat (first | exact List.Mem.head _ | apply List.Mem.tail)) (by repeat (first | exact Sub.done | apply Sub.take | apply Sub.skip))) ?_
                refine lstepB rfl rfl rfl (run_eql_agg (.tmp rfl) (.tmp rfl) eg28 (neq28 (r := false) (by simp))) ?_
                refine lstepB rfl rfl rfl (run_move (.tmp rfl)) ?_
                refine lyes rfl rfl rfl rfl ?_
                refine gstepB rfl rfl (run_move (.tmp rfl)) ?_
                refine lyes rfl rfl rfl rfl ?_
                refine gstepB rfl rfl (run_move (.tmp rfl)) ?_
                refine lyes rfl rfl rfl rfl ?_
                refine gstepB rfl rfl (run_neq (.tmp rfl) (.tmp rfl) (decide_eq_false (fun h => h rfl))) ?_
                refine lstepB rfl rfl rfl (by first | exact run_pick_true (.tmp rfl) .const | exact run_pick_false (.tmp rfl) (.tmp rfl)) ?_
                refine lnil ?_
                refine xw_then ?_
                refine cw_cond_false (.tmp rfl) ?_
                refine cw_skip ?_
                refine xw_in ?_
                refine xw_then ?_
                refine cw_region ?_
                refine lstepB rfl rfl rfl (run_add (.tmp rfl) .const (by first | exact IntWalk.i64_in _ (by omega) | exact rfl)) ?_
                refine lstepB rfl rfl rfl (run_move (.tmp rfl)) ?_
                refine lnil ?_
                exact xw_round (j + 1) (by show j + 1 ≤ _; omega) (by show f.offs.length - (j + 1) < f.offs.length - j; omega) (by repeat (first | exact Less.nil | refine Less.cons rfl ?_)) (by repeat (first | exact Pick.nil | (apply Pick.cons; focus (repeat (first | exact Del.here | apply Del.there)))))
              ·
                refine cw_exit ?_
                refine xw_then_exit ?_
                refine xw_then_exit ?_
                refine xw_in_exit ?_
                refine xw_in ?_
                refine xw_then ?_
                refine cw_region ?_
                refine lstepB rfl rfl rfl (run_add (.tmp rfl) .const (by first | exact IntWalk.i64_in _ (by omega) | exact rfl)) ?_
                refine lstepB rfl rfl rfl (run_move (.tmp rfl)) ?_
                refine lnil ?_
                exact xw_round 3 (.inr (.inr (.inr rfl))) (by show 3 - 3 < 3 - 2; omega) (by repeat (first | exact Less.nil | refine Less.cons rfl ?_)) (by repeat (first | exact Pick.nil | (apply Pick.cons; focus (repeat (first | exact Del.here | apply Del.there)))))
          · as_aux_lemma =>
            refine cw_seq ?_
            refine cw_region ?_
            refine lstepB rfl rfl rfl (run_lss (.tmp rfl) (.tmp rfl) (decide_eq_false (by decide))) ?_
            refine lnil ?_
            refine xw_then ?_
            refine cw_seq ?_
            refine cw_cond_false (.tmp rfl) ?_
            refine cw_exit ?_
            refine xw_then_exit ?_
            refine xw_then_exit ?_
            refine xw_in_exit ?_
            refine xw_then ?_
            refine cw_seq ?_
            refine cw_seq ?_
            refine cw_region ?_
            refine lstepB rfl rfl rfl (run_move (.tmp rfl)) ?_
            refine lstepB rfl rfl rfl (run_len (.tmp rfl) sl22) ?_
            refine lstepB rfl rfl rfl (run_move .const) ?_
            refine lnil ?_
            refine xw_then ?_
            refine cw_block ?_
            refine cw_loop (S := Nat) (fun j => [(367, .int .i64 (j : Int))]) [(4, _), (16, _), (365, _), (366, _)] (fun j => (b4, Obj.cells (furrowC f oa wa da oc wc dc).toArray 24 (0, 0)) :: []) (fun j => j = 0) (fun j => 0) 0 rfl (by repeat (first | exact Less.nil | refine Less.cons rfl ?_)) (by repeat (first | exact Pick.nil | (apply Pick.cons; focus (repeat (first | exact Del.here | apply Del.there))))) ?_
            intro j hj
            refine cw_seq ?_
            refine cw_region ?_
            refine lstepB rfl rfl rfl (run_lss (.tmp rfl) (.tmp rfl) (decide_eq_false (by omega))) ?_
            refine lnil ?_
            refine xw_then ?_
            refine cw_seq ?_
            refine cw_cond_false (.tmp rfl) ?_
            refine cw_exit ?_
            refine xw_then_exit ?_
            refine xw_then_exit ?_
            refine xw_in_exit ?_
            refine xw_then ?_
            refine cw_seq ?_
            refine cw_region ?_
            refine lstepB rfl rfl rfl (run_call1 cb13 .nil (fun w _ => aliveK w)) ?_
            refine lstepB rfl rfl rfl (run_assign (.tmp rfl)) ?_
            refine lnil ?_
            refine xw_then ?_
            refine cw_ret ?_
            refine xw_ret1 Try.results11 rfl (fun w hS => ⟨rfl, hS.kept⟩)
      case five qX qY qO qW qD =>
        obtain ⟨gX, cX, rX⟩ := qX
        obtain ⟨gY, cY, rY⟩ := qY
        obtain ⟨gO, cO, rO⟩ := qO
        obtain ⟨gW, cW, rW⟩ := qW
        obtain ⟨gD, cD, rD⟩ := qD
        dsimp only at hrows ⊢
        obtain ⟨kpos, hX, hY, hO, hW, hD⟩ := hrows
        refine cw_seq ?_
        refine cw_region ?_
        refine lstepB rfl rfl rfl (run_lss (.tmp rfl) (.tmp rfl) rfl) ?_
        refine lnil ?_
        refine xw_then ?_
        refine cw_seq ?_
        refine cw_cond_p (.tmp rfl) (fun hl => ?_) (fun hl => ?_)
        ·
          have hkn : k < f.offs.length := by omega
          obtain ⟨bo, oo, hoa, hbo, hco⟩ := hf.offs.span (by omega)
          subst hoa
          obtain ⟨bw, ow, hwa, hbw, hcw⟩ := hf.wids.span (by omega)
          subst hwa
          obtain ⟨bd, od, hda, hbd, hcd⟩ := hf.deps.span (by omega)
          subst hda
          obtain ⟨sp, hsp⟩ : ∃ sp, sp = f.offs.getD k default := ⟨_, rfl⟩
          have hsk : f.offs[k]? = some sp := by rw [hsp]; exact getD_some hkn
          have hst := (hvf.st hkn).1
          rw [← hsp] at hst
          obtain ⟨so, hso⟩ : ∃ so, so = f.offs.getD (f.offs.length - 1 - k) default := ⟨_, rfl⟩
          have hsok : f.offs[f.offs.length - 1 - k]? = some so := by rw [hso]; exact getD_some (by omega)
          obtain ⟨sw, hsw⟩ : ∃ sw, sw = f.wids.getD (f.offs.length - 1 - k) default := ⟨_, rfl⟩
          have hswk : f.wids[f.offs.length - 1 - k]? = some sw := by rw [hsw]; exact getD_some (by omega)
          obtain ⟨sd, hsd⟩ : ∃ sd, sd = f.deps.getD (f.offs.length - 1 - k) default := ⟨_, rfl⟩
          have hsdk : f.deps[f.offs.length - 1 - k]? = some sd := by rw [hsd]; exact getD_some (by omega)
          have hmb1 : ((k : Nat) : Int) * (st_.tmod 4) ≤ ((k : Nat) : Int) * 3 := Int.mul_le_mul_of_nonneg_left hb4.2 (by omega)
          have hmb2 : ((k : Nat) : Int) * (-3) ≤ ((k : Nat) : Int) * (st_.tmod 4) := Int.mul_le_mul_of_nonneg_left hb4.1 (by omega)
          obtain ⟨far, hfar⟩ : ∃ far, far = farI (by_.tmod 10) (st_.tmod 4) k := ⟨_, rfl⟩
          have hfe : far = (by_.tmod 10) + ((k : Nat) : Int) * (st_.tmod 4) := hfar
          have hsub : (f.offs.length : Int) - 1 - ((k : Nat) : Int) = ((f.offs.length - 1 - k : Nat) : Int) := by omega
          refine cw_skip ?_
          refine xw_then ?_
          refine cw_seq ?_
          refine cw_block ?_
          refine cw_seq ?_
          refine cw_region ?_
          refine lstepB rfl rfl rfl (run_move (.tmp rfl)) ?_
          refine lstepB rfl rfl rfl (run_indexAddr (i := k) (off' := oo + k * 2) (.tmp rfl) (.tmp rfl) el22 (by omega) rfl) ?_
          refine lstepB rfl rfl rfl (run_loadN_at (l := spanC sp) (.tmp rfl) kd28 sz28 rfl (fun w' hS j v hj => hS.old_cell (fun h => h) (hco k sp hsk j v hj))) ?_
          refine lstep rfl rfl rfl (run_alloc zr28) ?_
          intro b14 _
          refine lstepB rfl rfl rfl (run_assign (.tmp rfl)) ?_
          refine lstep0 rfl rfl (run_storeN (.tmp rfl) (.tmp rfl) rfl sz28 rfl (by repeat (first | exact Upd.here | apply Upd.there)) (by repeat (first | exact Put.done | apply Put.put | apply Put.skip))) ?_
          refine lnil ?_
          refine xw_then ?_
          refine cw_seq ?_
          refine cw_region ?_
          refine lstepB rfl rfl rfl (run_move (.tmp rfl)) ?_
          refine lstepB rfl rfl rfl (run_convert_at (.tmp rfl) (fun w => cv61_3 (c := by_) (IntWalk.i64_in _ (by omega)) w)) ?_
          refine lstepB rfl rfl rfl (run_remT (.tmp rfl) .const (by omega)) ?_
          refine lstepB rfl rfl rfl (run_move (.tmp rfl)) ?_
          refine lstepB rfl rfl rfl (run_move (.tmp rfl)) ?_
          refine lstepB rfl rfl rfl (run_convert_at (.tmp rfl) (fun w => cv61_3 (c := st_) (IntWalk.i64_in _ (by omega)) w)) ?_
          refine lstepB rfl rfl rfl (run_remT (.tmp rfl) .const (by omega)) ?_
          refine lstepB rfl rfl rfl (run_mul (c := ((k : Nat) : Int) * (st_.tmod 4)) (.tmp rfl) (.tmp rfl) (IntWalk.i64_in _ (by omega))) ?_
          refine lstepB rfl rfl rfl (run_add (c := far) (.tmp rfl) (.tmp rfl) (by rw [hfe]; exact IntWalk.i64_in _ (by omega))) ?_
          refine lstepB rfl rfl rfl (run_assign (.tmp rfl)) ?_
          refine lnil ?_
          refine xw_then ?_
          refine cw_seq ?_
          refine cw_chain2 (σ := [0, 1, 2, 3, 4, 5, 6, 7, 8, 9, 10, 13, 14, 15, 16, 17, 18, 19, 20, 11, 12, 21, 24, 22, 23, 25, 26, 27]) [⟨0, [], [], [], 0⟩, ⟨0, [6], [], [], 1⟩, ⟨0, [], [], [], 0⟩, ⟨0, [0], [], [], 4⟩, ⟨0, [], [], [], 0⟩, ⟨0, [], [], [], 28⟩, ⟨0, [], [], [], 0⟩, ⟨0, [0], [], [], 64⟩, ⟨0, [], [], [], 0⟩, ⟨0, [], [], [], 448⟩, ⟨0, [], [], [], 1020⟩, ⟨2, [], [], [11], 2044⟩, ⟨1, [11], [1], [1], 4095⟩, ⟨0, [], [], [], 0⟩, ⟨0, [7], [], [], 8192⟩, ⟨0, [], [], [], 0⟩, ⟨0, [0], [], [], 32768⟩, ⟨0, [], [], [], 98304⟩, ⟨0, [], [], [], 0⟩, ⟨0, [0], [], [], 262144⟩, ⟨0, [], [], [], 786432⟩, ⟨0, [], [], [], 2072575⟩, ⟨2, [], [], [12], 4169727⟩, ⟨1, [12], [2], [2], 8388607⟩, ⟨0, [], [], [], 8191⟩, ⟨0, [], [6], [6], 33554431⟩, ⟨0, [], [], [], 67108863⟩, ⟨0, [], [7], [7], 134217727⟩] [(0, _), (1, _), (2, _), (3, _), (4, _), (5, _), (6, _), (7, _), (8, _), (9, _), (10, _)] (by kernel_rfl) (by kernel_rfl) rfl ?_
          refine .det (B := []) rfl rfl (.inl rfl) .nil .nil rfl (RunB.lr (run_fieldAddr (.tmp rfl) fa24_0 (by first | exact Nat.zero_add _ | exact rfl))) ?_
          refine .det (B := []) rfl rfl (.inl rfl) (.cons rfl .nil) .nil rfl (RunB.lr (run_load1 (.tmp rfl) kd22 (by repeat (first | exact List.Mem.head _ | apply List.Mem.tail)) (by exact rfl))) ?_
          refine .det (B := []) rfl rfl (.inl rfl) .nil .nil rfl (RunB.lr (run_fieldAddr (.tmp rfl) fa28_0 (by first | exact Nat.zero_add _ | exact rfl))) ?_
          refine .det (B := []) rfl rfl (.inl rfl) (.cons rfl .nil) .nil rfl (RunB.lr (run_load1 (.tmp rfl) kd3 (by repeat (first | exact List.Mem.head _ | apply List.Mem.tail)) (by exact rfl))) ?_
          refine .det (B := []) rfl rfl (.inl rfl) .nil .nil rfl (RunB.lr (run_move (.tmp rfl))) ?_
          refine .det (B := []) rfl rfl (.inl rfl) .nil .nil rfl (RunB.lr (run_add (.tmp rfl) (.tmp rfl) (by first | exact IntWalk.i64_in _ (by omega) | exact rfl))) ?_
          refine .det (B := []) rfl rfl (.inl rfl) .nil .nil rfl (RunB.lr (run_fieldAddr (.tmp rfl) fa28_1 (by first | exact Nat.zero_add _ | exact rfl))) ?_
          refine .det (B := []) rfl rfl (.inl rfl) (.cons rfl .nil) .nil rfl (RunB.lr (run_load1 (.tmp rfl) kd3 (by repeat (first | exact List.Mem.head _ | apply List.Mem.tail)) (by exact rfl))) ?_
          refine .det (B := []) rfl rfl (.inl rfl) .nil .nil rfl (RunB.lr (run_move (.tmp rfl))) ?_
          refine .det (B := []) rfl rfl (.inl rfl) .nil .nil rfl (RunB.lr (run_add (.tmp rfl) (.tmp rfl) (by first | exact IntWalk.i64_in _ (by omega) | exact rfl))) ?_
          refine .det (B := []) rfl rfl (.inl rfl) .nil .nil rfl (RunB.lr (run_call1 cb30 (.cons (.tmp rfl) (.cons (.tmp rfl) .nil)) (fun w _ => spanLK _ _ w))) ?_
          refine .det (B := []) rfl rfl (.inl rfl) .nil .nil rfl (RunB.lr (run_fieldAddr (.tmp rfl) fa24_0 (by first | exact Nat.zero_add _ | exact rfl))) ?_
          refine .det (B := []) rfl rfl (.inl rfl) (.cons rfl .nil) .nil rfl (RunB.lr (run_load1 (.tmp rfl) kd22 (by repeat (first | exact List.Mem.head _ | apply List.Mem.tail)) (by exact rfl))) ?_
          refine .det (B := []) rfl rfl (.inl rfl) .nil .nil rfl (RunB.lr (run_fieldAddr (.tmp rfl) fa28_1 (by first | exact Nat.zero_add _ | exact rfl))) ?_
          refine .det (B := []) rfl rfl (.inl rfl) (.cons rfl .nil) .nil rfl (RunB.lr (run_load1 (.tmp rfl) kd3 (by repeat (first | exact List.Mem.head _ | apply List.Mem.tail)) (by exact rfl))) ?_
          refine .det (B := []) rfl rfl (.inl rfl) .nil .nil rfl (RunB.lr (run_neg (.tmp rfl) (by first | exact IntWalk.i64_in _ (by omega) | exact rfl))) ?_
          refine .det (B := []) rfl rfl (.inl rfl) .nil .nil rfl (RunB.lr (run_fieldAddr (.tmp rfl) fa28_0 (by first | exact Nat.zero_add _ | exact rfl))) ?_
          refine .det (B := []) rfl rfl (.inl rfl) (.cons rfl .nil) .nil rfl (RunB.lr (run_load1 (.tmp rfl) kd3 (by repeat (first | exact List.Mem.head _ | apply List.Mem.tail)) (by exact rfl))) ?_
          refine .det (B := []) rfl rfl (.inl rfl) .nil .nil rfl (RunB.lr (run_neg (.tmp rfl) (by first | exact IntWalk.i64_in _ (by omega) | exact rfl))) ?_
          refine .flo rfl rfl rfl (.lit rfl (.cons (.tmp rfl) .nil) (fun w => bs22_1_0 w)) trivial rfl rfl rfl ?_
          intro b93
          refine .ext (B := fun q => [(1, (q.1, _))]) rfl rfl (.inl rfl) (.cons rfl .nil) (.cons rfl .nil) (fun _ => rfl) (inrow_some (by rw [List.length_append, spansC_length, alongL_length]; simp only [List.length_cons, List.length_nil]; omega) (by unfold maxLen; omega)) (lr_append_row ap22 (.tmp rfl) hX (.tmp rfl) (news := spanC ⟨sp.lo + far, sp.hi + far⟩) rfl rfl (by omega) (by unfold maxLen; omega) (news_own (by repeat (first | exact List.Mem.head _ | apply List.Mem.tail)))) ?_
          rintro ⟨mX, cX2, rX2⟩ hX2
          refine .det (B := []) rfl rfl (.inl rfl) .nil .nil rfl (RunB.lr (run_call1 cb30 (.cons (.tmp rfl) (.cons (.tmp rfl) .nil)) (fun w _ => spanLK _ _ w))) ?_
          refine .det (B := []) rfl rfl (.inl rfl) .nil .nil rfl (RunB.lr (run_fieldAddr (.tmp rfl) fa24_0 (by first | exact Nat.zero_add _ | exact rfl))) ?_
          refine .flo rfl rfl rfl (.lit rfl (.cons (.tmp rfl) .nil) (fun w => bs22_1_0 w)) trivial rfl rfl rfl ?_
          intro b104
          refine .ext (B := fun q => [(2, (q.1, _))]) rfl rfl (.inl rfl) (.cons rfl .nil) (.cons rfl .nil) (fun _ => rfl) (inrow_some (by rw [List.length_append, spansC_length, alongL_length]; simp only [List.length_cons, List.length_nil]; omega) (by unfold maxLen; omega)) (lr_append_row ap22 (.tmp rfl) hY (.tmp rfl) (news := spanC ⟨-sp.hi, -sp.lo⟩) rfl rfl (by omega) (by unfold maxLen; omega) (news_own (by repeat (first | exact List.Mem.head _ | apply List.Mem.tail)))) ?_
          rintro ⟨mY, cY2, rY2⟩ hY2
          refine .det (B := [(6, (_, _))]) rfl rfl (.inl rfl) .nil (.cons rfl .nil) rfl (lr_store1 (.tmp rfl) (.tmp rfl) rfl sz22 (by repeat (first | exact Put.done | apply Put.put | apply Put.skip))) ?_
          refine .det (B := []) rfl rfl (.inl rfl) .nil .nil rfl (RunB.lr (run_fieldAddr (.tmp rfl) fa24_0 (by first | exact Nat.zero_add _ | exact rfl))) ?_
          refine .det (B := [(7, (_, _))]) rfl rfl (.inl rfl) .nil (.cons rfl .nil) rfl (lr_store1 (.tmp rfl) (.tmp rfl) rfl sz22 (by repeat (first | exact Put.done | apply Put.put | apply Put.skip))) ?_
          refine chain_nil (ts := [0, 1, 2, 3, 4, 5, 6, 7, 8, 9, 10]) (.cons rfl (.cons rfl (.cons rfl (.cons rfl (.cons rfl (.cons rfl (.cons rfl (.cons rfl (.cons rfl (.cons rfl (.cons rfl .nil))))))))))) (by decide) ?_
          dsimp only at hX2 hY2 ⊢
          refine xw_then ?_
          refine cw_chain2 (σ := [0, 1, 2, 3, 4, 5, 6, 7, 8, 9, 12, 13, 14, 15, 16, 17, 18, 19, 20, 21, 24, 25, 26, 27, 28, 29, 30, 31, 32, 33, 10, 11, 36, 22, 23, 34, 35, 37, 38, 39, 40, 41]) [⟨0, [], [], [], 0⟩, ⟨0, [8], [], [], 1⟩, ⟨0, [], [], [], 0⟩, ⟨0, [10], [], [], 4⟩, ⟨0, [9], [], [], 0⟩, ⟨0, [], [], [], 16⟩, ⟨0, [], [], [], 0⟩, ⟨0, [], [], [], 112⟩, ⟨0, [], [], [], 252⟩, ⟨0, [], [], [], 508⟩, ⟨2, [], [], [11], 1020⟩, ⟨1, [11], [3], [3], 2047⟩, ⟨0, [], [], [], 0⟩, ⟨0, [8], [], [], 4096⟩, ⟨0, [], [], [], 0⟩, ⟨0, [10], [], [], 16384⟩, ⟨0, [9], [], [], 0⟩, ⟨0, [], [], [], 65536⟩, ⟨0, [], [], [], 0⟩, ⟨0, [], [], [], 458752⟩, ⟨0, [], [], [], 1032192⟩, ⟨0, [], [], [], 2080768⟩, ⟨2, [], [], [12], 4177920⟩, ⟨1, [12], [4], [4], 8388607⟩, ⟨0, [], [], [], 0⟩, ⟨0, [8], [], [], 16777216⟩, ⟨0, [], [], [], 0⟩, ⟨0, [10], [], [], 67108864⟩, ⟨0, [9], [], [], 0⟩, ⟨0, [], [], [], 268435456⟩, ⟨0, [], [], [], 0⟩, ⟨0, [], [], [], 1879048192⟩, ⟨0, [], [], [], 4227858432⟩, ⟨0, [], [], [], 8522825728⟩, ⟨2, [], [], [13], 17112760320⟩, ⟨1, [13], [5], [5], 34359738367⟩, ⟨0, [], [], [], 50348031⟩, ⟨0, [], [8], [8], 137438953471⟩, ⟨0, [], [], [], 274877906943⟩, ⟨0, [], [8], [8], 549755813887⟩, ⟨0, [], [], [], 1099511627775⟩, ⟨0, [], [8], [8], 2199023255551⟩] [(0, _), (1, _), (2, _), (3, _), (4, _), (5, _), (6, _), (7, _), (8, _), (9, _), (10, _)] (by kernel_rfl) (by kernel_rfl) rfl ?_
          refine .det (B := []) rfl rfl (.inl rfl) .nil .nil rfl (RunB.lr (run_fieldAddr (.tmp rfl) fa24_0 (by first | exact Nat.zero_add _ | exact rfl))) ?_
          refine .det (B := []) rfl rfl (.inl rfl) (.cons rfl .nil) .nil rfl (RunB.lr (run_load1 (.tmp rfl) kd22 (by repeat (first | exact List.Mem.head _ | apply List.Mem.tail)) (by exact rfl))) ?_
          refine .det (B := []) rfl rfl (.inl rfl) .nil .nil rfl (RunB.lr (run_fieldAddr (.tmp rfl) fa24_0 (by first | exact Nat.zero_add _ | exact rfl))) ?_
          refine .det (B := []) rfl rfl (.inl rfl) (.cons rfl .nil) .nil rfl (RunB.lr (run_load1 (.tmp rfl) kd22 (by repeat (first | exact List.Mem.head _ | apply List.Mem.tail)) (by exact rfl))) ?_
          refine .det (B := []) rfl rfl (.inl rfl) (.cons rfl .nil) .nil rfl (RunB.lr (run_load1 (.tmp rfl) kd3 (by repeat (first | exact List.Mem.head _ | apply List.Mem.tail)) (by exact rfl))) ?_
          refine .det (B := []) rfl rfl (.inl rfl) .nil .nil rfl (RunB.lr (run_sub (.tmp rfl) .const (by first | exact IntWalk.i64_in _ (by omega) | exact rfl))) ?_
          refine .det (B := []) rfl rfl (.inl rfl) .nil .nil rfl (RunB.lr (run_move (.tmp rfl))) ?_
          refine .det (B := []) rfl rfl (.inl rfl) .nil .nil rfl (RunB.lr (run_sub (c := ((f.offs.length - 1 - k : Nat) : Int)) (.tmp rfl) (.tmp rfl) (by rw [hsub]; exact IntWalk.i64_in _ (by omega)))) ?_
          refine .det (B := []) rfl rfl (.inl rfl) .nil .nil rfl (RunB.lr (run_indexAddr (i := f.offs.length - 1 - k) (off' := oo + (f.offs.length - 1 - k) * 2) (.tmp rfl) (.tmp rfl) el22 (by omega) rfl)) ?_
          refine .det (B := []) rfl rfl (.inl rfl) .nil .nil rfl (RunB.lr (run_loadN_at (l := spanC so) (.tmp rfl) kd28 sz28 rfl (fun w' hS j v hj => hS.old_cell (fun h => h) (hco (f.offs.length - 1 - k) so hsok j v hj)))) ?_
          refine .det (B := []) rfl rfl (.inl rfl) .nil .nil rfl (RunB.lr (run_fieldAddr (.tmp rfl) fa24_1 (by first | exact Nat.zero_add _ | exact rfl))) ?_
          refine .det (B := []) rfl rfl (.inl rfl) (.cons rfl .nil) .nil rfl (RunB.lr (run_load1 (.tmp rfl) kd22 (by repeat (first | exact List.Mem.head _ | apply List.Mem.tail)) (by exact rfl))) ?_
          refine .det (B := []) rfl rfl (.inl rfl) .nil .nil rfl (RunB.lr (run_fieldAddr (.tmp rfl) fa24_1 (by first | exact Nat.zero_add _ | exact rfl))) ?_
          refine .det (B := []) rfl rfl (.inl rfl) (.cons rfl .nil) .nil rfl (RunB.lr (run_load1 (.tmp rfl) kd22 (by repeat (first | exact List.Mem.head _ | apply List.Mem.tail)) (by exact rfl))) ?_
          refine .det (B := []) rfl rfl (.inl rfl) (.cons rfl .nil) .nil rfl (RunB.lr (run_load1 (.tmp rfl) kd3 (by repeat (first | exact List.Mem.head _ | apply List.Mem.tail)) (by exact rfl))) ?_
          refine .det (B := []) rfl rfl (.inl rfl) .nil .nil rfl (RunB.lr (run_sub (.tmp rfl) .const (by first | exact IntWalk.i64_in _ (by omega) | exact rfl))) ?_
          refine .det (B := []) rfl rfl (.inl rfl) .nil .nil rfl (RunB.lr (run_move (.tmp rfl))) ?_
          refine .det (B := []) rfl rfl (.inl rfl) .nil .nil rfl (RunB.lr (run_sub (c := ((f.offs.length - 1 - k : Nat) : Int)) (.tmp rfl) (.tmp rfl) (by rw [hsub]; exact IntWalk.i64_in _ (by omega)))) ?_
          refine .det (B := []) rfl rfl (.inl rfl) .nil .nil rfl (RunB.lr (run_indexAddr (i := f.offs.length - 1 - k) (off' := ow + (f.offs.length - 1 - k) * 2) (.tmp rfl) (.tmp rfl) el22 (by omega) rfl)) ?_
          refine .det (B := []) rfl rfl (.inl rfl) .nil .nil rfl (RunB.lr (run_loadN_at (l := spanC sw) (.tmp rfl) kd28 sz28 rfl (fun w' hS j v hj => hS.old_cell (fun h => h) (hcw (f.offs.length - 1 - k) sw hswk j v hj)))) ?_
          refine .det (B := []) rfl rfl (.inl rfl) .nil .nil rfl (RunB.lr (run_fieldAddr (.tmp rfl) fa24_2 (by first | exact Nat.zero_add _ | exact rfl))) ?_
          refine .det (B := []) rfl rfl (.inl rfl) (.cons rfl .nil) .nil rfl (RunB.lr (run_load1 (.tmp rfl) kd22 (by repeat (first | exact List.Mem.head _ | apply List.Mem.tail)) (by exact rfl))) ?_
          refine .det (B := []) rfl rfl (.inl rfl) .nil .nil rfl (RunB.lr (run_fieldAddr (.tmp rfl) fa24_2 (by first | exact Nat.zero_add _ | exact rfl))) ?_
          refine .det (B := []) rfl rfl (.inl rfl) (.cons rfl .nil) .nil rfl (RunB.lr (run_load1 (.tmp rfl) kd22 (by repeat (first | exact List.Mem.head _ | apply List.Mem.tail)) (by exact rfl))) ?_
          refine .det (B := []) rfl rfl (.inl rfl) (.cons rfl .nil) .nil rfl (RunB.lr (run_load1 (.tmp rfl) kd3 (by repeat (first | exact List.Mem.head _ | apply List.Mem.tail)) (by exact rfl))) ?_
          refine .det (B := []) rfl rfl (.inl rfl) .nil .nil rfl (RunB.lr (run_sub (.tmp rfl) .const (by first | exact IntWalk.i64_in _ (by omega) | exact rfl))) ?_
          refine .det (B := []) rfl rfl (.inl rfl) .nil .nil rfl (RunB.lr (run_move (.tmp rfl))) ?_
          refine .det (B := []) rfl rfl (.inl rfl) .nil .nil rfl (RunB.lr (run_sub (c := ((f.offs.length - 1 - k : Nat) : Int)) (.tmp rfl) (.tmp rfl) (by rw [hsub]; exact IntWalk.i64_in _ (by omega)))) ?_
          refine .det (B := []) rfl rfl (.inl rfl) .nil .nil rfl (RunB.lr (run_indexAddr (i := f.offs.length - 1 - k) (off' := od + (f.offs.length - 1 - k) * 2) (.tmp rfl) (.tmp rfl) el22 (by omega) rfl)) ?_
          refine .det (B := []) rfl rfl (.inl rfl) .nil .nil rfl (RunB.lr (run_loadN_at (l := spanC sd) (.tmp rfl) kd28 sz28 rfl (fun w' hS j v hj => hS.old_cell (fun h => h) (hcd (f.offs.length - 1 - k) sd hsdk j v hj)))) ?_
          refine .flo rfl rfl rfl (.lit rfl (.cons (.tmp rfl) .nil) (fun w => bs22_1_0 w)) trivial rfl rfl rfl ?_
          intro b118
          refine .ext (B := fun q => [(3, (q.1, _))]) rfl rfl (.inl rfl) (.cons rfl .nil) (.cons rfl .nil) (fun _ => rfl) (inrow_some (by rw [List.length_append, spansC_length, alongL_length]; simp only [List.length_cons, List.length_nil]; omega) (by unfold maxLen; omega)) (lr_append_row ap22 (.tmp rfl) hO (.tmp rfl) (news := spanC so) rfl rfl (by omega) (by unfold maxLen; omega) (news_own (by repeat (first | exact List.Mem.head _ | apply List.Mem.tail)))) ?_
          rintro ⟨mO, cO2, rO2⟩ hO2
          refine .det (B := []) rfl rfl (.inl rfl) .nil .nil rfl (RunB.lr (run_fieldAddr (.tmp rfl) fa24_0 (by first | exact Nat.zero_add _ | exact rfl))) ?_
          refine .flo rfl rfl rfl (.lit rfl (.cons (.tmp rfl) .nil) (fun w => bs22_1_0 w)) trivial rfl rfl rfl ?_
          intro b130
          refine .ext (B := fun q => [(4, (q.1, _))]) rfl rfl (.inl rfl) (.cons rfl .nil) (.cons rfl .nil) (fun _ => rfl) (inrow_some (by rw [List.length_append, spansC_length, alongL_length]; simp only [List.length_cons, List.length_nil]; omega) (by unfold maxLen; omega)) (lr_append_row ap22 (.tmp rfl) hW (.tmp rfl) (news := spanC sw) rfl rfl (by omega) (by unfold maxLen; omega) (news_own (by repeat (first | exact List.Mem.head _ | apply List.Mem.tail)))) ?_
          rintro ⟨mW, cW2, rW2⟩ hW2
          refine .flo rfl rfl rfl (.lit rfl (.cons (.tmp rfl) .nil) (fun w => bs22_1_0 w)) trivial rfl rfl rfl ?_
          intro b142
          refine .ext (B := fun q => [(5, (q.1, _))]) rfl rfl (.inl rfl) (.cons rfl .nil) (.cons rfl .nil) (fun _ => rfl) (inrow_some (by rw [List.length_append, spansC_length, alongL_length]; simp only [List.length_cons, List.length_nil]; omega) (by unfold maxLen; omega)) (lr_append_row ap22 (.tmp rfl) hD (.tmp rfl) (news := spanC sd) rfl rfl (by omega) (by unfold maxLen; omega) (news_own (by repeat (first | exact List.Mem.head _ | apply List.Mem.tail)))) ?_
          rintro ⟨mD, cD2, rD2⟩ hD2
          refine .det (B := [(8, (_, _))]) rfl rfl (.inl rfl) .nil (.cons rfl .nil) rfl (lr_store1 (.tmp rfl) (.tmp rfl) rfl sz22 (by repeat (first | exact Put.done | apply Put.put | apply Put.skip))) ?_
          refine .det (B := []) rfl rfl (.inl rfl) .nil .nil rfl (RunB.lr (run_fieldAddr (.tmp rfl) fa24_1 (by first | exact Nat.zero_add _ | exact rfl))) ?_
          refine .det (B := [(8, (_, _))]) rfl rfl (.inl rfl) .nil (.cons rfl .nil) rfl (lr_store1 (.tmp rfl) (.tmp rfl) rfl sz22 (by repeat (first | exact Put.done | apply Put.put | apply Put.skip))) ?_
          refine .det (B := []) rfl rfl (.inl rfl) .nil .nil rfl (RunB.lr (run_fieldAddr (.tmp rfl) fa24_2 (by first | exact Nat.zero_add _ | exact rfl))) ?_
          refine .det (B := [(8, (_, _))]) rfl rfl (.inl rfl) .nil (.cons rfl .nil) rfl (lr_store1 (.tmp rfl) (.tmp rfl) rfl sz22 (by repeat (first | exact Put.done | apply Put.put | apply Put.skip))) ?_
          refine chain_nil (ts := [0, 1, 2, 3, 4, 5, 6, 7, 8, 9, 10]) (.cons rfl (.cons rfl (.cons rfl (.cons rfl (.cons rfl (.cons rfl (.cons rfl (.cons rfl (.cons rfl (.cons rfl (.cons rfl .nil))))))))))) (by decide) ?_
          dsimp only at hO2 hW2 hD2 ⊢
          refine xw_in ?_
          refine xw_then ?_
          refine cw_region ?_
          refine lstepB rfl rfl rfl (run_add (.tmp rfl) .const (by first | exact IntWalk.i64_in _ (by omega) | exact rfl)) ?_
          refine lstepB rfl rfl rfl (run_move (.tmp rfl)) ?_
          refine lnil ?_
          exact xw_round ⟨k + 1, (.five (mX, cX2, rX2) (mY, cY2, rY2) (mO, cO2, rO2) (mW, cW2, rW2) (mD, cD2, rD2))⟩ ⟨by simp only; omega, ⟨by simp only; omega, along_row (n := k) (G := (fun k => ⟨(f.offs.getD k default).lo + farI (by_.tmod 10) (st_.tmod 4) k, (f.offs.getD k default).hi + farI (by_.tmod 10) (st_.tmod 4) k⟩)) (by rw [hsp, hfar]) hX2, along_row (n := k) (G := (fun k => ⟨-(f.offs.getD k default).hi, -(f.offs.getD k default).lo⟩)) (by rw [hsp]) hY2, along_row (n := k) (G := (fun k => f.offs.getD (f.offs.length - 1 - k) default)) hso hO2, along_row (n := k) (G := (fun k => f.wids.getD (f.offs.length - 1 - k) default)) hsw hW2, along_row (n := k) (G := (fun k => f.deps.getD (f.offs.length - 1 - k) default)) hsd hD2⟩⟩ (by simp only; omega) (by repeat (first | exact Less.nil | refine Less.cons rfl ?_)) (by repeat (first | exact Pick.nil | (apply Pick.cons; focus (repeat (first | exact Del.here | apply Del.there)))))
        ·
          obtain rfl : k = f.offs.length := by omega
          obtain ⟨x, hx⟩ : ∃ x, x = xF f (by_.tmod 10) (st_.tmod 4) := ⟨_, rfl⟩
          obtain ⟨y, hy⟩ : ∃ y, y = yF f := ⟨_, rfl⟩
          obtain ⟨z, hz⟩ : ∃ z, z = zF f := ⟨_, rfl⟩
          have lx1 : x.offs.length = f.offs.length := by rw [hx]; exact alongL_length _ _
          have lx2 : x.wids.length = f.wids.length := by rw [hx]; rfl
          have lx3 : x.deps.length = f.deps.length := by rw [hx]; rfl
          have ly1 : y.offs.length = f.offs.length := by rw [hy]; exact alongL_length _ _
          have ly2 : y.wids.length = f.wids.length := by rw [hy]; rfl
          have ly3 : y.deps.length = f.deps.length := by rw [hy]; rfl
          have lz1 : z.offs.length = f.offs.length := by rw [hz]; exact alongL_length _ _
          have lz2 : z.wids.length = f.offs.length := by rw [hz]; exact alongL_length _ _
          have lz3 : z.deps.length = f.offs.length := by rw [hz]; exact alongL_length _ _
          have tx : Twin f.offs x.offs fun k => k := by rw [hx]; exact twin_shift (xF_shift f _ _) (far_lin _ _)
          have ny : IsNeg f.offs y.offs := by rw [hy]; exact yF_neg f
          have ty := twin_neg ny
          have rz : IsRev f.offs z.offs := by rw [hz]; exact zF_rev f
          have tz := twin_rev rz
          have rzw : IsRev f.wids z.wids := ⟨by rw [hz]; simp only [zF, alongL_length]; omega, fun k hk => by rw [hz, show f.wids.length = f.offs.length by omega]; exact alongL_getD (by omega)⟩
          have rzd : IsRev f.deps z.deps := ⟨by rw [hz]; simp only [zF, alongL_length]; omega, fun k hk => by rw [hz, show f.deps.length = f.offs.length by omega]; exact alongL_getD (by omega)⟩
          have sx : soilS x = soilS f := soil_same tx.len (by rw [hx]; rfl) (by rw [hx]; rfl)
          have sy : soilS y = soilS f := soil_same ty.len (by rw [hy]; rfl) (by rw [hy]; rfl)
          have sz : soilS z = soilS f := soil_rev hvf rz rzw rzd
          have hmx : Lens x := ⟨by have := hm.all; omega⟩
          have hmy : Lens y := ⟨by have := hm.all; omega⟩
          have hmz : Lens z := ⟨by have := hm.all; omega⟩
          have wf32 := worstN_small f.offs (k := f.offs.length - 2) (by omega)
          obtain ⟨ws, we, hws⟩ : ∃ ws we, wrongR f most = (ws, we) := ⟨_, _, rfl⟩
          have iX : InRow 2 f.offs.length cX rX (spansC x.offs) := by rw [hx]; exact hX
          have iY : InRow 2 f.offs.length cY rY (spansC y.offs) := by rw [hy]; exact hY
          have iO : InRow 2 f.offs.length cO rO (spansC z.offs) := by rw [hz]; exact hO
          have iW : InRow 2 f.offs.length cW rW (spansC z.wids) := by rw [hz]; exact hW
          have iD : InRow 2 f.offs.length cD rD (spansC z.deps) := by rw [hz]; exact hD
          obtain ⟨bo, oo, hoa, hbo, hco⟩ := hf.offs.span (by omega)
          subst hoa
          have hxw : x.wids = f.wids := by rw [hx]; rfl
          have hxd : x.deps = f.deps := by rw [hx]; rfl
          have hyw : y.wids = f.wids := by rw [hy]; rfl
          have hyd : y.deps = f.deps := by rw [hy]; rfl
          refine cw_exit ?_
          refine xw_then_exit ?_
          refine xw_then_exit ?_
          refine xw_in_exit ?_
          refine xw_then ?_
          refine cw_seq ?_
          refine cw_region ?_
          refine lstep rfl rfl rfl (LR.runs (lr_buildSlice_at .nil (fun w => bs22_0_ w)) (by repeat (first | exact Pick.nil | (apply Pick.cons; focus (repeat (first | exact Del.here | apply Del.there))))) (by repeat (first | exact Dels.nil | (apply Dels.cons; focus (repeat (first | exact Del.here | apply Del.there)))))) ?_
          intro b148 _
          refine lstepB rfl rfl rfl (run_fieldAddr (.tmp rfl) fa24_0 (by first | exact Nat.zero_add _ | exact rfl)) ?_
          refine lstepB rfl rfl rfl (run_load1 (.tmp rfl) kd22 (by repeat (first | exact List.Mem.head _ | apply List.Mem.tail)) (by exact rfl)) ?_
          refine lstep rfl rfl rfl (LR.runs (R := []) (A := [(b148, _)]) (lr_append_row ap22 (.tmp rfl) (xs := []) ⟨Nat.le_refl _, Nat.zero_le _, rfl, rfl⟩ (.tmp rfl) (news := spansC f.offs) (spansC_length _) (spans_plain _) (by omega) (by unfold maxLen; omega) (fun w' hS => spans_flat (fun i s hi j v hj => hS.old_cell (fun h => h) (hco i s hi j v hj)))) (by repeat (first | exact Pick.nil | (apply Pick.cons; focus (repeat (first | exact Del.here | apply Del.there))))) (by repeat (first | exact Dels.nil | (apply Dels.cons; focus (repeat (first | exact Del.here | apply Del.there)))))) ?_
          intro ⟨gK, cK, rK⟩ hK
          dsimp only at hK ⊢
          rw [Nat.zero_add, List.nil_append] at hK
          simp only [Nat.zero_add]
          refine lstepB rfl rfl rfl (run_assign (.tmp rfl)) ?_
          refine lnil ?_
          refine xw_then ?_
          refine cw_seq ?_
          refine cw_region ?_
          refine lstepB rfl rfl rfl (En.run_makeFunc .nil (.cons (.tmp rfl) .nil)) ?_
          refine lstepB rfl rfl rfl (run_assign (.tmp rfl)) ?_
          refine lnil ?_
          refine xw_then ?_
          refine cw_seq ?_
          refine cw_region ?_
          refine lstepB rfl rfl rfl (run_loadN (.tmp rfl) kd24 sz24 (by repeat (first | exact List.Mem.head _ | apply List.Mem.tail)) (by repeat (first | exact Sub.done | apply Sub.take | apply Sub.skip))) ?_
          refine lstepB rfl rfl rfl (run_call1 cb14 (.cons (.tmp rfl) .nil) (fun w2 hS => bendQn f rfl rfl rfl w2 hm (hf.kept hS.kept) hv)) ?_
          refine lstepB rfl rfl rfl (run_move (.tmp rfl)) ?_
          refine lstepB rfl rfl rfl (run_extract (.tmp rfl) rfl) ?_
          refine lstepB rfl rfl rfl (run_extract (.tmp rfl) rfl) ?_
          refine lstep rfl rfl rfl (run_alloc zr28) ?_
          intro b18 _
          refine lstep0 rfl rfl (run_storeN (.tmp rfl) (.tmp rfl) rfl sz28 rfl (by repeat (first | exact Upd.here | apply Upd.there)) (by repeat (first | exact Put.done | apply Put.put | apply Put.skip))) ?_
          refine lstepB rfl rfl rfl (run_assign (.tmp rfl)) ?_
          refine lnil ?_
          refine xw_then ?_
          refine cw_seq ?_
          refine cw_region ?_
          refine lstepB rfl rfl rfl (run_loadN (.tmp rfl) kd24 sz24 (by repeat (first | exact List.Mem.head _ | apply List.Mem.tail)) (by repeat (first | exact Sub.done | apply Sub.take | apply Sub.skip))) ?_
          refine lstepB rfl rfl rfl (run_call1 cb20 (.cons (.tmp rfl) .nil) (fun w2 hS => worstQn f rfl rfl rfl w2 hm (hf.kept hS.kept) hv)) ?_
          refine lstepB rfl rfl rfl (run_move (.tmp rfl)) ?_
          refine lstepB rfl rfl rfl (run_extract (.tmp rfl) rfl) ?_
          refine lstepB rfl rfl rfl (run_extract (.tmp rfl) rfl) ?_
          refine lstepB rfl rfl rfl (run_extract (.tmp rfl) rfl) ?_
          refine lstepB rfl rfl rfl (run_assign (.tmp rfl)) ?_
          refine lstepB rfl rfl rfl (run_assign (.tmp rfl)) ?_
          refine lstepB rfl rfl rfl (run_assign (.tmp rfl)) ?_
          refine lnil ?_
          refine xw_then ?_
          refine cw_seq ?_
          refine cw_region ?_
          refine lstepB rfl rfl rfl (run_loadN (.tmp rfl) kd24 sz24 (by repeat (first | exact List.Mem.head _ | apply List.Mem.tail)) (by repeat (first | exact Sub.done | apply Sub.take | apply Sub.skip))) ?_
          refine lstep rfl rfl rfl (LR.runs (R := []) (A := []) (lr_gives cb18 (.cons (.tmp rfl) .nil) (fun w2 hS => straightQn f rfl rfl rfl w2 hm (hf.kept hS.kept) hv)) (by repeat (first | exact Pick.nil | (apply Pick.cons; focus (repeat (first | exact Del.here | apply Del.there))))) (by repeat (first | exact Dels.nil | (apply Dels.cons; focus (repeat (first | exact Del.here | apply Del.there)))))) ?_
          intro ⟨gS, s1⟩ ⟨hs1, hs2, hs3⟩
          dsimp only at hs1 hs2 hs3 ⊢
          refine lstepB rfl rfl rfl (run_move (.tmp rfl)) ?_
          refine lstepB rfl rfl rfl (run_extract (.tmp rfl) rfl) ?_
          refine lstepB rfl rfl rfl (run_extract (.tmp rfl) rfl) ?_
          refine lstepB rfl rfl rfl (run_assign (.tmp rfl)) ?_
          refine lstepB rfl rfl rfl (run_assign (.tmp rfl)) ?_
          refine lnil ?_
          refine xw_then ?_
          refine cw_seq ?_
          refine cw_region ?_
          refine lstepB rfl rfl rfl (run_loadN (.tmp rfl) kd24 sz24 (by repeat (first | exact List.Mem.head _ | apply List.Mem.tail)) (by repeat (first | exact Sub.done | apply Sub.take | apply Sub.skip))) ?_
          refine lstepB rfl rfl rfl (run_move (.tmp rfl)) ?_
          refine lstepB rfl rfl rfl (run_call1 cb23 (.cons (.tmp rfl) (.cons (.tmp rfl) .nil)) (fun w2 hS => wrongQn f rfl rfl rfl most w2 hm (hf.kept hS.kept) hws)) ?_
          refine lstepB rfl rfl rfl (run_move (.tmp rfl)) ?_
          refine lstepB rfl rfl rfl (run_extract (.tmp rfl) rfl) ?_
          refine lstepB rfl rfl rfl (run_extract (.tmp rfl) rfl) ?_
          refine lstepB rfl rfl rfl (run_assign (.tmp rfl)) ?_
          refine lstepB rfl rfl rfl (run_assign (.tmp rfl)) ?_
          refine lnil ?_
          refine xw_then ?_
          refine cw_seq ?_
          refine cw_region ?_
          refine lstepB rfl rfl rfl (run_loadN (.tmp rfl) kd24 sz24 (by repeat (first | exact List.Mem.head _ | apply List.Mem.tail)) (by repeat (first | exact Sub.done | apply Sub.take | apply Sub.skip))) ?_
          refine lstepB rfl rfl rfl (run_call1 cb27 (.cons (.tmp rfl) .nil) (fun w2 hS => soilQn f rfl rfl rfl w2 hm (hf.kept hS.kept) hv)) ?_
          refine lstepB rfl rfl rfl (run_move (.tmp rfl)) ?_
          refine lstepB rfl rfl rfl (run_extract (.tmp rfl) rfl) ?_
          refine lstepB rfl rfl rfl (run_extract (.tmp rfl) rfl) ?_
          refine lstep rfl rfl rfl (run_alloc zr28) ?_
          intro b27 _
          refine lstep0 rfl rfl (run_storeN (.tmp rfl) (.tmp rfl) rfl sz28 rfl (by repeat (first | exact Upd.here | apply Upd.there)) (by repeat (first | exact Put.done | apply Put.put | apply Put.skip))) ?_
          refine lstepB rfl rfl rfl (run_assign (.tmp rfl)) ?_
          refine lnil ?_
          refine xw_then ?_
          refine cw_seq ?_
          refine cw_seq ?_
          refine cw_region ?_
          refine lstepB rfl rfl rfl (run_move (.tmp rfl)) ?_
          refine lstepB rfl rfl rfl (run_neq (.tmp rfl) .const (decide_eq_false (fun h => h rfl))) ?_
          refine lstepB rfl rfl rfl (run_move (.tmp rfl)) ?_
          refine lyes rfl rfl rfl rfl ?_
          refine gstepB rfl rfl (run_move (.tmp rfl)) ?_
          refine lyes rfl rfl rfl rfl ?_
          refine gstepB rfl rfl (run_neq (.tmp rfl) .const (decide_eq_false (fun h => h rfl))) ?_
          refine lstepB rfl rfl rfl (by first | exact run_pick_true (.tmp rfl) .const | exact run_pick_false (.tmp rfl) (.tmp rfl)) ?_
          refine lstepB rfl rfl rfl (run_move (.tmp rfl)) ?_
          refine lyes rfl rfl rfl rfl ?_
          refine gstepB rfl rfl (run_move (.tmp rfl)) ?_
          refine lyes rfl rfl rfl rfl ?_
          refine gstepB rfl rfl (run_neq (.tmp rfl) .const (decide_eq_false (fun h => h rfl))) ?_
          refine lstepB rfl rfl rfl (by first | exact run_pick_true (.tmp rfl) .const | exact run_pick_false (.tmp rfl) (.tmp rfl)) ?_
          refine lstepB rfl rfl rfl (run_move (.tmp rfl)) ?_
          refine lyes rfl rfl rfl rfl ?_
          refine gstepB rfl rfl (run_move (.tmp rfl)) ?_
          refine lyes rfl rfl rfl rfl ?_
          refine gstepB rfl rfl (run_neq (.tmp rfl) .const (decide_eq_false (fun h => h rfl))) ?_
          refine lstepB rfl rfl rfl (by first | exact run_pick_true (.tmp rfl) .const | exact run_pick_false (.tmp rfl) (.tmp rfl)) ?_
          refine lstepB rfl rfl rfl (run_move (.tmp rfl)) ?_
          refine lyes rfl rfl rfl rfl ?_
          refine gstepB rfl rfl (run_move (.tmp rfl)) ?_
          refine lyes rfl rfl rfl rfl ?_
          refine gstepB rfl rfl (run_lss (.tmp rfl) .const (decide_eq_false (Int.not_lt.2 (Int.natCast_nonneg _)))) ?_
          refine lstepB rfl rfl rfl (by first | exact run_pick_true (.tmp rfl) .const | exact run_pick_false (.tmp rfl) (.tmp rfl)) ?_
          refine lstepB rfl rfl rfl (run_move (.tmp rfl)) ?_
          refine lyes rfl rfl rfl rfl ?_
          refine gstepB rfl rfl (run_move (.tmp rfl)) ?_
          refine lyes rfl rfl rfl rfl ?_
          refine gstepB rfl rfl (run_lss (.tmp rfl) .const (decide_eq_false (Int.not_lt.2 (Int.natCast_nonneg _)))) ?_
          refine lstepB rfl rfl rfl (by first | exact run_pick_true (.tmp rfl) .const | exact run_pick_false (.tmp rfl) (.tmp rfl)) ?_
          refine lstepB rfl rfl rfl (run_move (.tmp rfl)) ?_
          refine lyes rfl rfl rfl rfl ?_
          refine gstepB rfl rfl (run_move (.tmp rfl)) ?_
          refine lyes rfl rfl rfl rfl ?_
          refine gstepB rfl rfl (run_len (.tmp rfl) sl33) ?_
          refine lyes rfl rfl rfl rfl ?_
          refine gstepB rfl rfl (run_load1 (.tmp rfl) kd3 (by repeat (first | exact List.Mem.head _ | apply List.Mem.tail)) (by exact rfl)) ?_
          refine lyes rfl rfl rfl rfl ?_
          refine gstepB rfl rfl (run_neq (.tmp rfl) (.tmp rfl) (decide_eq_false (fun h => h rfl))) ?_
          refine lstepB rfl rfl rfl (by first | exact run_pick_true (.tmp rfl) .const | exact run_pick_false (.tmp rfl) (.tmp rfl)) ?_
          refine lnil ?_
          refine xw_then ?_
          refine cw_cond_false (.tmp rfl) ?_
          refine cw_skip ?_
          refine xw_then ?_
          refine cw_seq ?_
          refine cw_seq ?_
          refine cw_region ?_
          refine lstepB rfl rfl rfl (run_loadN (.tmp rfl) kd24 sz24 (by repeat (first | exact List.Mem.head _ | apply List.Mem.tail)) (by repeat (first | exact Sub.done | apply Sub.take | apply Sub.skip))) ?_
          refine lstepB rfl rfl rfl (run_loadN (.tmp rfl) kd24 sz24 (by repeat (first | exact List.Mem.head _ | apply List.Mem.tail)) (by repeat (first | exact Sub.done | apply Sub.take | apply Sub.skip))) ?_
          refine lstepB rfl rfl rfl (run_loadN (.tmp rfl) kd24 sz24 (by repeat (first | exact List.Mem.head _ | apply List.Mem.tail)) (by repeat (first | exact Sub.done | apply Sub.take | apply Sub.skip))) ?_
          refine lstep rfl rfl rfl (LR.runs (lr_buildSlice_at (.cons (.tmp rfl) (.cons (.tmp rfl) (.cons (.tmp rfl) .nil))) (fun w => bs62_3_0_1_2 w)) (by repeat (first | exact Pick.nil | (apply Pick.cons; focus (repeat (first | exact Del.here | apply Del.there))))) (by repeat (first | exact Dels.nil | (apply Dels.cons; focus (repeat (first | exact Del.here | apply Del.there)))))) ?_
          intro b211 _
          refine lstepB rfl rfl rfl (run_len (.tmp rfl) sl62) ?_
          refine lstepB rfl rfl rfl (run_move .const) ?_
          refine lnil ?_
          refine xw_then ?_
          refine cw_block ?_
          refine cw_loop (S := Nat) (fun i => [(213, .int .i64 (i : Int))]) [(1, _), (4, _), (9, _), (16, _), (17, _), (18, _), (19, _), (20, _), (21, _), (22, _), (23, _), (24, _), (25, _), (26, _), (27, _), (28, _), (211, _), (212, _)] (fun i => (gX, Obj.cells rX.toArray 28 (0, 0)) :: (gY, Obj.cells rY.toArray 28 (0, 0)) :: (gO, Obj.cells rO.toArray 28 (0, 0)) :: (gW, Obj.cells rW.toArray 28 (0, 0)) :: (gD, Obj.cells rD.toArray 28 (0, 0)) :: (gK, Obj.cells rK.toArray 28 (0, 0)) :: (gS, Obj.cells (intsV s1).toArray 3 (0, 0)) :: (b211, Obj.cells [.slice (some ⟨gX, 0, none⟩) f.offs.length cX, .slice wa f.wids.length wc, .slice da f.deps.length dc, .slice (some ⟨gY, 0, none⟩) f.offs.length cY, .slice wa f.wids.length wc, .slice da f.deps.length dc, .slice (some ⟨gO, 0, none⟩) f.offs.length cO, .slice (some ⟨gW, 0, none⟩) f.offs.length cW, .slice (some ⟨gD, 0, none⟩) f.offs.length cD].toArray 24 (0, 0)) :: (b18, Obj.cells (spanC (bendT f.offs)).toArray 28 (0, 0)) :: (b27, Obj.cells (spanC (soilS f)).toArray 28 (0, 0)) :: (b9, Obj.cells [.int .i64 (f.offs.length : Int)].toArray 3 (0, 0)) :: (b4, Obj.cells (furrowC f (some ⟨bo, oo, none⟩) wa da oc wc dc).toArray 24 (0, 0)) :: []) (fun i => i = 0 ∨ i = 1 ∨ i = 2 ∨ i = 3) (fun i => 3 - i) 0 (.inl rfl) (by repeat (first | exact Less.nil | refine Less.cons rfl ?_)) (by repeat (first | exact Pick.nil | (apply Pick.cons; focus (repeat (first | exact Del.here | apply Del.there))))) ?_
          intro i hs
          rcases hs with rfl | rfl | rfl | rfl
          · as_aux_lemma =>
            refine cw_seq ?_
            refine cw_region ?_
            refine lstepB rfl rfl rfl (run_lss (.tmp rfl) (.tmp rfl) (decide_eq_true (by decide))) ?_
            refine lnil ?_
            refine xw_then ?_
            refine cw_seq ?_
            refine cw_cond_true (.tmp rfl) ?_
            clear sy ty ny hmy ly1 ly2 ly3 hyw hyd iY sz tz rz rzw rzd hmz lz1 lz2 lz3 iO iW iD
            cases hvq : validB x
            ·
              refine cw_skip ?_
              refine xw_then ?_
              refine cw_seq ?_
              refine cw_block ?_
              refine cw_seq ?_
              refine cw_region ?_
              refine lstepB rfl rfl rfl (run_move (.tmp rfl)) ?_
              refine lstepB rfl rfl rfl (run_indexAddr (i := 0) (off' := 0) (.tmp rfl) (.tmp rfl) el62 (by decide) rfl) ?_
              refine lstepB rfl rfl rfl (run_loadN (l := [.slice (some ⟨gX, 0, none⟩) f.offs.length cX, .slice wa f.wids.length wc, .slice da f.deps.length dc]) (.tmp rfl) kd24 sz24 (by repeat (first | exact List.Mem.head _ | apply List.Mem.tail)) (by repeat (first | exact Sub.done | apply Sub.take | apply Sub.skip))) ?_
              refine lstep rfl rfl rfl (run_alloc zr24) ?_
              intro b30 _
              refine lstepB rfl rfl rfl (run_assign (.tmp rfl)) ?_
              refine lstep0 rfl rfl (run_storeN (.tmp rfl) (.tmp rfl) rfl sz24 rfl (by repeat (first | exact Upd.here | apply Upd.there)) (by repeat (first | exact Put.done | apply Put.put | apply Put.skip))) ?_
              refine lnil ?_
              refine xw_then ?_
              refine cw_seq ?_
              refine cw_seq ?_
              refine cw_region ?_
              refine lstepB rfl rfl rfl (run_loadN (.tmp rfl) kd24 sz24 (by repeat (first | exact List.Mem.head _ | apply List.Mem.tail)) (by repeat (first | exact Sub.done | apply Sub.take | apply Sub.skip))) ?_
              refine lstepB rfl rfl rfl (run_call1 cb35 (.cons (.tmp rfl) .nil) (fun w2 hS => rFurrowQn x lx1 lx2 lx3 w2 hmx ⟨spansAt_row (hS.mem (b := gX) (by repeat (first | exact List.Mem.head _ | apply List.Mem.tail))) iX, (by rw [hxw]; exact hf.wids.kept hS.kept), (by rw [hxd]; exact hf.deps.kept hS.kept)⟩ hvq)) ?_
              refine lstepB rfl rfl rfl (run_not (.tmp rfl) (by first | exact Bool.not_true | exact Bool.not_false | exact rfl)) ?_
              refine lnil ?_
              refine xw_then ?_
              refine cw_cond_true (.tmp rfl) ?_
              refine cw_exit ?_
              refine xw_then_exit ?_
              refine xw_in_exit ?_
              refine xw_then ?_
              refine cw_region ?_
              refine lstepB rfl rfl rfl (run_add (.tmp rfl) .const (by first | exact IntWalk.i64_in _ (by omega) | exact rfl)) ?_
              refine lstepB rfl rfl rfl (run_move (.tmp rfl)) ?_
              refine lnil ?_
              exact xw_round 1 (.inr (.inl rfl)) (by show 3 - 1 < 3 - 0; omega) (by repeat (first | exact Less.nil | refine Less.cons rfl ?_)) (by repeat (first | exact Pick.nil | (apply Pick.cons; focus (repeat (first | exact Del.here | apply Del.there)))))
            ·
              refine cw_skip ?_
              refine xw_then ?_
              refine cw_seq ?_
              refine cw_block ?_
              refine cw_seq ?_
              refine cw_region ?_
              refine lstepB rfl rfl rfl (run_move (.tmp rfl)) ?_
              refine lstepB rfl rfl rfl (run_indexAddr (i := 0) (off' := 0) (.tmp rfl) (.tmp rfl) el62 (by decide) rfl) ?_
              refine lstepB rfl rfl rfl (run_loadN (l := [.slice (some ⟨gX, 0, none⟩) f.offs.length cX, .slice wa f.wids.length wc, .slice da f.deps.length dc]) (.tmp rfl) kd24 sz24 (by repeat (first | exact List.Mem.head _ | apply List.Mem.tail)) (by repeat (first | exact Sub.done | apply Sub.take | apply Sub.skip))) ?_
              refine lstep rfl rfl rfl (run_alloc zr24) ?_
              intro b30 _
              refine lstepB rfl rfl rfl (run_assign (.tmp rfl)) ?_
              refine lstep0 rfl rfl (run_storeN (.tmp rfl) (.tmp rfl) rfl sz24 rfl (by repeat (first | exact Upd.here | apply Upd.there)) (by repeat (first | exact Put.done | apply Put.put | apply Put.skip))) ?_
              refine lnil ?_
              refine xw_then ?_
              refine cw_seq ?_
              refine cw_seq ?_
              refine cw_region ?_
              refine lstepB rfl rfl rfl (run_loadN (.tmp rfl) kd24 sz24 (by repeat (first | exact List.Mem.head _ | apply List.Mem.tail)) (by repeat (first | exact Sub.done | apply Sub.take | apply Sub.skip))) ?_
              refine lstepB rfl rfl rfl (run_call1 cb35 (.cons (.tmp rfl) .nil) (fun w2 hS => rFurrowQn x lx1 lx2 lx3 w2 hmx ⟨spansAt_row (hS.mem (b := gX) (by repeat (first | exact List.Mem.head _ | apply List.Mem.tail))) iX, (by rw [hxw]; exact hf.wids.kept hS.kept), (by rw [hxd]; exact hf.deps.kept hS.kept)⟩ hvq)) ?_
              refine lstepB rfl rfl rfl (run_not (.tmp rfl) (by first | exact Bool.not_true | exact Bool.not_false | exact rfl)) ?_
              refine lnil ?_
              refine xw_then ?_
              refine cw_cond_false (.tmp rfl) ?_
              have hbe := tx.bend hfine (validF hvq).fine
              obtain ⟨hsu, hca⟩ := same_sets hv hvq tx
              obtain ⟨wq, hwq⟩ := wrongR_err hv hvq hws
              refine cw_skip ?_
              refine xw_then ?_
              refine cw_seq ?_
              refine cw_region ?_
              refine lstepB rfl rfl rfl (run_loadN (.tmp rfl) kd24 sz24 (by repeat (first | exact List.Mem.head _ | apply List.Mem.tail)) (by repeat (first | exact Sub.done | apply Sub.take | apply Sub.skip))) ?_
              refine lstepB rfl rfl rfl (run_call1 cb14 (.cons (.tmp rfl) .nil) (fun w2 hS => (bendQn x lx1 lx2 lx3 w2 hmx ⟨spansAt_row (hS.mem (b := gX) (by repeat (first | exact List.Mem.head _ | apply List.Mem.tail))) iX, (by rw [hxw]; exact hf.wids.kept hS.kept), (by rw [hxd]; exact hf.deps.kept hS.kept)⟩ hvq).as (show _ = Value.tuple #[spanV (bendT f.offs), .int .i64 0] from by rw [hbe]))) ?_
              refine lstepB rfl rfl rfl (run_move (.tmp rfl)) ?_
              refine lstepB rfl rfl rfl (run_extract (.tmp rfl) rfl) ?_
              refine lstepB rfl rfl rfl (run_extract (.tmp rfl) rfl) ?_
              refine lstep rfl rfl rfl (run_alloc zr28) ?_
              intro b31 _
              refine lstep0 rfl rfl (run_storeN (.tmp rfl) (.tmp rfl) rfl sz28 rfl (by repeat (first | exact Upd.here | apply Upd.there)) (by repeat (first | exact Put.done | apply Put.put | apply Put.skip))) ?_
              refine lstepB rfl rfl rfl (run_assign (.tmp rfl)) ?_
              refine lnil ?_
              refine xw_then ?_
              refine cw_seq ?_
              refine cw_region ?_
              refine lstepB rfl rfl rfl (run_loadN (.tmp rfl) kd24 sz24 (by repeat (first | exact List.Mem.head _ | apply List.Mem.tail)) (by repeat (first | exact Sub.done | apply Sub.take | apply Sub.skip))) ?_
              refine lstepB rfl rfl rfl (run_call1 cb20 (.cons (.tmp rfl) .nil) (fun w2 hS => (worstQn x lx1 lx2 lx3 w2 hmx ⟨spansAt_row (hS.mem (b := gX) (by repeat (first | exact List.Mem.head _ | apply List.Mem.tail))) iX, (by rw [hxw]; exact hf.wids.kept hS.kept), (by rw [hxd]; exact hf.deps.kept hS.kept)⟩ hvq).as (show _ = Value.tuple #[.int .i64 ((sureN f.offs : Nat) : Int), .int .i64 ((canN f.offs : Nat) : Int), .int .i64 0] from by rw [hsu, hca]))) ?_
              refine lstepB rfl rfl rfl (run_move (.tmp rfl)) ?_
              refine lstepB rfl rfl rfl (run_extract (.tmp rfl) rfl) ?_
              refine lstepB rfl rfl rfl (run_extract (.tmp rfl) rfl) ?_
              refine lstepB rfl rfl rfl (run_extract (.tmp rfl) rfl) ?_
              refine lstepB rfl rfl rfl (run_assign (.tmp rfl)) ?_
              refine lstepB rfl rfl rfl (run_assign (.tmp rfl)) ?_
              refine lstepB rfl rfl rfl (run_assign (.tmp rfl)) ?_
              refine lnil ?_
              refine xw_then ?_
              refine cw_seq ?_
              refine cw_region ?_
              refine lstepB rfl rfl rfl (run_loadN (.tmp rfl) kd24 sz24 (by repeat (first | exact List.Mem.head _ | apply List.Mem.tail)) (by repeat (first | exact Sub.done | apply Sub.take | apply Sub.skip))) ?_
              refine lstep rfl rfl rfl (LR.runs (R := [(gX, Obj.cells rX.toArray 28 (0, 0))]) (A := []) (lr_gives cb18 (.cons (.tmp rfl) .nil) (fun w2 hS => straightQn x lx1 lx2 lx3 w2 hmx ⟨spansAt_row (hS.mem (b := gX) (by repeat (first | exact List.Mem.head _ | apply List.Mem.tail))) iX, (by rw [hxw]; exact hf.wids.kept hS.kept), (by rw [hxd]; exact hf.deps.kept hS.kept)⟩ hvq)) (by repeat (first | exact Pick.nil | (apply Pick.cons; focus (repeat (first | exact Del.here | apply Del.there))))) (by repeat (first | exact Dels.nil | (apply Dels.cons; focus (repeat (first | exact Del.here | apply Del.there)))))) ?_
              intro ⟨gT, s2⟩ ⟨hs4, hs5, hs6⟩
              dsimp only at hs4 hs5 hs6 ⊢
              refine lstepB rfl rfl rfl (run_move (.tmp rfl)) ?_
              refine lstepB rfl rfl rfl (run_extract (.tmp rfl) rfl) ?_
              refine lstepB rfl rfl rfl (run_extract (.tmp rfl) rfl) ?_
              refine lstepB rfl rfl rfl (run_assign (.tmp rfl)) ?_
              refine lstepB rfl rfl rfl (run_assign (.tmp rfl)) ?_
              refine lnil ?_
              refine xw_then ?_
              refine cw_seq ?_
              refine cw_region ?_
              refine lstepB rfl rfl rfl (run_loadN (.tmp rfl) kd24 sz24 (by repeat (first | exact List.Mem.head _ | apply List.Mem.tail)) (by repeat (first | exact Sub.done | apply Sub.take | apply Sub.skip))) ?_
              refine lstepB rfl rfl rfl (run_move (.tmp rfl)) ?_
              refine lstepB rfl rfl rfl (run_call1 cb23 (.cons (.tmp rfl) (.cons (.tmp rfl) .nil)) (fun w2 hS => wrongQn x lx1 lx2 lx3 most w2 hmx ⟨spansAt_row (hS.mem (b := gX) (by repeat (first | exact List.Mem.head _ | apply List.Mem.tail))) iX, (by rw [hxw]; exact hf.wids.kept hS.kept), (by rw [hxd]; exact hf.deps.kept hS.kept)⟩ hwq)) ?_
              refine lstepB rfl rfl rfl (run_move (.tmp rfl)) ?_
              refine lstepB rfl rfl rfl (run_extract (.tmp rfl) rfl) ?_
              refine lstepB rfl rfl rfl (run_extract (.tmp rfl) rfl) ?_
              refine lstepB rfl rfl rfl (run_assign (.tmp rfl)) ?_
              refine lstepB rfl rfl rfl (run_assign (.tmp rfl)) ?_
              refine lnil ?_
              refine xw_then ?_
              refine cw_seq ?_
              refine cw_region ?_
              refine lstepB rfl rfl rfl (run_loadN (.tmp rfl) kd24 sz24 (by repeat (first | exact List.Mem.head _ | apply List.Mem.tail)) (by repeat (first | exact Sub.done | apply Sub.take | apply Sub.skip))) ?_
              refine lstepB rfl rfl rfl (run_call1 cb27 (.cons (.tmp rfl) .nil) (fun w2 hS => (soilQn x lx1 lx2 lx3 w2 hmx ⟨spansAt_row (hS.mem (b := gX) (by repeat (first | exact List.Mem.head _ | apply List.Mem.tail))) iX, (by rw [hxw]; exact hf.wids.kept hS.kept), (by rw [hxd]; exact hf.deps.kept hS.kept)⟩ hvq).as (show _ = Value.tuple #[spanV (soilS f), .int .i64 0] from by rw [sx]))) ?_
              refine lstepB rfl rfl rfl (run_move (.tmp rfl)) ?_
              refine lstepB rfl rfl rfl (run_extract (.tmp rfl) rfl) ?_
              refine lstepB rfl rfl rfl (run_extract (.tmp rfl) rfl) ?_
              refine lstep rfl rfl rfl (run_alloc zr28) ?_
              intro b40 _
              refine lstep0 rfl rfl (run_storeN (.tmp rfl) (.tmp rfl) rfl sz28 rfl (by repeat (first | exact Upd.here | apply Upd.there)) (by repeat (first | exact Put.done | apply Put.put | apply Put.skip))) ?_
              refine lstepB rfl rfl rfl (run_assign (.tmp rfl)) ?_
              refine lnil ?_
              refine xw_then ?_
              refine cw_seq ?_
              refine cw_seq ?_
              refine cw_region ?_
              refine lstepB rfl rfl rfl (run_move (.tmp rfl)) ?_
              refine lstepB rfl rfl rfl (run_eql (.tmp rfl) .const (decide_eq_false (by decide))) ?_
              refine lnil ?_
              refine xw_then ?_
              refine cw_cond_false (.tmp rfl) ?_
              refine cw_skip ?_
              refine xw_then ?_
              refine cw_seq ?_
              refine cw_seq ?_
              refine cw_region ?_
              refine lstepB rfl rfl rfl (run_loadN (.tmp rfl) kd28 sz28 (by repeat (first | exact List.Mem.head _ | apply List.Mem.tail)) (by repeat (first | exact Sub.done | apply Sub.take | apply Sub.skip))) ?_
              refine lstepB rfl rfl rfl (run_loadN (.tmp rfl) kd28 sz28 (by repeat (first | exact List.Mem.head _ | apply List.Mem.tail)) (by repeat (first | exact Sub.done | apply Sub.take | apply Sub.skip))) ?_
              refine lstepB rfl rfl rfl (run_eql_agg (.tmp rfl) (.tmp rfl) eg28 (neq28 (r := false) (by simp))) ?_
              refine lstepB rfl rfl rfl (run_move (.tmp rfl)) ?_
              refine lyes rfl rfl rfl rfl ?_
              refine gstepB rfl rfl (run_move (.tmp rfl)) ?_
              refine lyes rfl rfl rfl rfl ?_
              refine gstepB rfl rfl (run_move (.tmp rfl)) ?_
              refine lyes rfl rfl rfl rfl ?_
              refine gstepB rfl rfl (run_neq (.tmp rfl) (.tmp rfl) (decide_eq_false (fun h => h rfl))) ?_
              refine lstepB rfl rfl rfl (by first | exact run_pick_true (.tmp rfl) .const | exact run_pick_false (.tmp rfl) (.tmp rfl)) ?_
              refine lstepB rfl rfl rfl (run_move (.tmp rfl)) ?_
              refine lyes rfl rfl rfl rfl ?_
              refine gstepB rfl rfl (run_move (.tmp rfl)) ?_
              refine lyes rfl rfl rfl rfl ?_
              refine gstepB rfl rfl (run_move (.tmp rfl)) ?_
              refine lyes rfl rfl rfl rfl ?_
              refine gstepB rfl rfl (run_neq (.tmp rfl) (.tmp rfl) (decide_eq_false (fun h => h rfl))) ?_
              refine lstepB rfl rfl rfl (by first | exact run_pick_true (.tmp rfl) .const | exact run_pick_false (.tmp rfl) (.tmp rfl)) ?_
              refine lstepB rfl rfl rfl (run_move (.tmp rfl)) ?_
              refine lyes rfl rfl rfl rfl ?_
              refine gstepB rfl rfl (run_move (.tmp rfl)) ?_
              refine lyes rfl rfl rfl rfl ?_
              refine gstepB rfl rfl (run_move (.tmp rfl)) ?_
              refine lyes rfl rfl rfl rfl ?_
              refine gstepB rfl rfl (run_neq (.tmp rfl) (.tmp rfl) (decide_eq_false (fun h => h rfl))) ?_
              refine lstepB rfl rfl rfl (by first | exact run_pick_true (.tmp rfl) .const | exact run_pick_false (.tmp rfl) (.tmp rfl)) ?_
              refine lstepB rfl rfl rfl (run_move (.tmp rfl)) ?_
              refine lyes rfl rfl rfl rfl ?_
              refine gstepB rfl rfl (run_move (.tmp rfl)) ?_
              refine lyes rfl rfl rfl rfl ?_
              refine gstepB rfl rfl (run_move (.tmp rfl)) ?_
              refine lyes rfl rfl rfl rfl ?_
              refine gstepB rfl rfl (run_neq (.tmp rfl) (.tmp rfl) (decide_eq_false (fun h => h rfl))) ?_
              refine lstepB rfl rfl rfl (by first | exact run_pick_true (.tmp rfl) .const | exact run_pick_false (.tmp rfl) (.tmp rfl)) ?_
              refine lstepB rfl rfl rfl (run_move (.tmp rfl)) ?_
              refine lyes rfl rfl rfl rfl ?_
              refine gstepB rfl rfl (run_move (.tmp rfl)) ?_
              refine lyes rfl rfl rfl rfl ?_
              refine gstepB rfl rfl (run_move (.tmp rfl)) ?_
              refine lyes rfl rfl rfl rfl ?_
              refine gstepB rfl rfl (run_neq (.tmp rfl) (.tmp rfl) (decide_eq_false (fun h => h rfl))) ?_
              refine lstepB rfl rfl rfl (by first | exact run_pick_true (.tmp rfl) .const | exact run_pick_false (.tmp rfl) (.tmp rfl)) ?_
              refine lstepB rfl rfl rfl (run_move (.tmp rfl)) ?_
              refine lyes rfl rfl rfl rfl ?_
              refine gstepB rfl rfl (run_move (.tmp rfl)) ?_
              refine lyes rfl rfl rfl rfl ?_
              refine gstepB rfl rfl (run_call1 cb32 (.cons (.tmp rfl) .nil) (fun w2 hS => rmostKn s2 hs4 (by omega) hs5 (hs6.trans (by rw [hbe])) _ _ w2 (intsAt_cells (hS.mem (b := gT) (by repeat (first | exact List.Mem.head _ | apply List.Mem.tail)))))) ?_
              refine lyes rfl rfl rfl rfl ?_
              refine gstepB rfl rfl (run_move (.tmp rfl)) ?_
              refine lyes rfl rfl rfl rfl ?_
              refine gstepB rfl rfl (run_call1 cb32 (.cons (.tmp rfl) .nil) (fun w2 hS => rmostKn s1 hs1 (by omega) hs2 hs3 _ _ w2 (intsAt_cells (hS.mem (b := gS) (by repeat (first | exact List.Mem.head _ | apply List.Mem.tail)))))) ?_
              refine lyes rfl rfl rfl rfl ?_
              refine gstepB rfl rfl (run_neq (.tmp rfl) (.tmp rfl) (decide_eq_false (fun h => h rfl))) ?_
              refine lstepB rfl rfl rfl (by first | exact run_pick_true (.tmp rfl) .const | exact run_pick_false (.tmp rfl) (.tmp rfl)) ?_
              refine lstepB rfl rfl rfl (run_move (.tmp rfl)) ?_
              refine lyes rfl rfl rfl rfl ?_
              refine gstepB rfl rfl (run_loadN (.tmp rfl) kd28 sz28 (by repeat (first | exact List.Mem.head _ | apply List.Mem.tail)) (by repeat (first | exact Sub.done | apply Sub.take | apply Sub.skip))) ?_
              refine lyes rfl rfl rfl rfl ?_
              refine gstepB rfl rfl (run_loadN (.tmp rfl) kd28 sz28 (by repeat (first | exact List.Mem.head _ | apply List.Mem.tail)) (by repeat (first | exact Sub.done | apply Sub.take | apply Sub.skip))) ?_
              refine lyes rfl rfl rfl rfl ?_
              refine gstepB rfl rfl (run_eql_agg (.tmp rfl) (.tmp rfl) eg28 (neq28 (r := false) (by simp))) ?_
              refine lstepB rfl rfl rfl (by first | exact run_pick_true (.tmp rfl) .const | exact run_pick_false (.tmp rfl) (.tmp rfl)) ?_
              refine lstepB rfl rfl rfl (run_move (.tmp rfl)) ?_
              refine lyes rfl rfl rfl rfl ?_
              refine gstepB rfl rfl (run_move (.tmp rfl)) ?_
              refine lyes rfl rfl rfl rfl ?_
              refine gstepB rfl rfl (run_move (.tmp rfl)) ?_
              refine lyes rfl rfl rfl rfl ?_
              refine gstepB rfl rfl (run_neq (.tmp rfl) (.tmp rfl) (decide_eq_false (fun h => h rfl))) ?_
              refine lstepB rfl rfl rfl (by first | exact run_pick_true (.tmp rfl) .const | exact run_pick_false (.tmp rfl) (.tmp rfl)) ?_
              refine lstepB rfl rfl rfl (run_move (.tmp rfl)) ?_
              refine lyes rfl rfl rfl rfl ?_
              refine gstepB rfl rfl (run_move (.tmp rfl)) ?_
              refine lyes rfl rfl rfl rfl ?_
              refine gstepB rfl rfl (run_move (.tmp rfl)) ?_
              refine lyes rfl rfl rfl rfl ?_
              refine gstepB rfl rfl (run_neq (.tmp rfl) (.tmp rfl) (decide_eq_false (fun h => h rfl))) ?_
              refine lstepB rfl rfl rfl (by first | exact run_pick_true (.tmp rfl) .const | exact run_pick_false (.tmp rfl) (.tmp rfl)) ?_
              refine lnil ?_
              refine xw_then ?_
              refine cw_cond_false (.tmp rfl) ?_
              refine cw_skip ?_
              refine xw_then ?_
              refine cw_seq ?_
              refine cw_seq ?_
              refine cw_region ?_
              refine lstepB rfl rfl rfl (run_move (.tmp rfl)) ?_
              refine lstepB rfl rfl rfl (run_eql (.tmp rfl) .const (decide_eq_false (by decide))) ?_
              refine lstepB rfl rfl rfl (run_move (.tmp rfl)) ?_
              refine lskip rfl rfl rfl rfl rfl rfl rfl ?_
              refine lskip rfl rfl rfl rfl rfl rfl rfl ?_
              refine lskip rfl rfl rfl rfl rfl rfl rfl ?_
              refine lstepB rfl rfl rfl (by first | exact run_pick_true (.tmp rfl) (.tmp rfl) | exact run_pick_false (.tmp rfl) .const) ?_
              refine lstepB rfl rfl rfl (run_move (.tmp rfl)) ?_
              refine lyes rfl rfl rfl rfl ?_
              refine gstepB rfl rfl (run_move (.tmp rfl)) ?_
              refine lyes rfl rfl rfl rfl ?_
              refine gstepB rfl rfl (run_eql (.tmp rfl) .const (decide_eq_false (by decide))) ?_
              refine lyes rfl rfl rfl rfl ?_
              refine gstepB rfl rfl (run_move (.tmp rfl)) ?_
              refine lskip rfl rfl rfl rfl rfl rfl rfl ?_
              refine lskip rfl rfl rfl rfl rfl rfl rfl ?_
              refine lskip rfl rfl rfl rfl rfl rfl rfl ?_
              refine lskip rfl rfl rfl rfl rfl rfl rfl ?_
              refine lskip rfl rfl rfl rfl rfl rfl rfl ?_
              refine lskip rfl rfl rfl rfl rfl rfl rfl ?_
              refine lskip rfl rfl rfl rfl rfl rfl rfl ?_
              refine lskip rfl rfl rfl rfl rfl rfl rfl ?_
              refine lskip rfl rfl rfl rfl rfl rfl rfl ?_
              refine lskip rfl rfl rfl rfl rfl rfl rfl ?_
              refine lskip rfl rfl rfl rfl rfl rfl rfl ?_
              refine lskip rfl rfl rfl rfl rfl rfl rfl ?_
              refine lskip rfl rfl rfl rfl rfl rfl rfl ?_
              refine lyes rfl rfl rfl rfl ?_
              refine gstepB rfl rfl (by first | exact run_pick_true (.tmp rfl) (.tmp rfl) | exact run_pick_false (.tmp rfl) .const) ?_
              refine lstepB rfl rfl rfl (by first | exact run_pick_true (.tmp rfl) .const | exact run_pick_false (.tmp rfl) (.tmp rfl)) ?_
              refine lnil ?_
              refine xw_then ?_
              refine cw_cond_false (.tmp rfl) ?_
              refine cw_skip ?_
              refine xw_then ?_
              refine cw_seq ?_
              refine cw_region ?_
              refine lstepB rfl rfl rfl (run_load1 (.tmp rfl) kd3 (by repeat (first | exact List.Mem.head _ | apply List.Mem.tail)) (by exact rfl)) ?_
              refine lstepB rfl rfl rfl (run_move .const) ?_
              refine lnil ?_
              refine xw_then ?_
              refine cw_block ?_
              refine cw_loop (S := Nat) (fun j => [(333, .int .i64 (j : Int))]) [(1, _), (4, _), (9, _), (16, _), (17, _), (18, _), (19, _), (20, _), (21, _), (22, _), (23, _), (24, _), (25, _), (26, _), (27, _), (28, _), (29, _), (30, _), (211, _), (212, _), (213, _), (332, _)] (fun j => (gX, Obj.cells rX.toArray 28 (0, 0)) :: (gY, Obj.cells rY.toArray 28 (0, 0)) :: (gO, Obj.cells rO.toArray 28 (0, 0)) :: (gW, Obj.cells rW.toArray 28 (0, 0)) :: (gD, Obj.cells rD.toArray 28 (0, 0)) :: (gK, Obj.cells rK.toArray 28 (0, 0)) :: (gS, Obj.cells (intsV s1).toArray 3 (0, 0)) :: (b211, Obj.cells [.slice (some ⟨gX, 0, none⟩) f.offs.length cX, .slice wa f.wids.length wc, .slice da f.deps.length dc, .slice (some ⟨gY, 0, none⟩) f.offs.length cY, .slice wa f.wids.length wc, .slice da f.deps.length dc, .slice (some ⟨gO, 0, none⟩) f.offs.length cO, .slice (some ⟨gW, 0, none⟩) f.offs.length cW, .slice (some ⟨gD, 0, none⟩) f.offs.length cD].toArray 24 (0, 0)) :: (b18, Obj.cells (spanC (bendT f.offs)).toArray 28 (0, 0)) :: (b27, Obj.cells (spanC (soilS f)).toArray 28 (0, 0)) :: (b9, Obj.cells [.int .i64 (f.offs.length : Int)].toArray 3 (0, 0)) :: (b4, Obj.cells (furrowC f (some ⟨bo, oo, none⟩) wa da oc wc dc).toArray 24 (0, 0)) :: (b30, Obj.cells [.slice (some ⟨gX, 0, none⟩) f.offs.length cX, .slice wa f.wids.length wc, .slice da f.deps.length dc].toArray 24 (0, 0)) :: []) (fun j => j ≤ f.offs.length) (fun j => f.offs.length - j) 0 (Nat.zero_le _) (by repeat (first | exact Less.nil | refine Less.cons rfl ?_)) (by repeat (first | exact Pick.nil | (apply Pick.cons; focus (repeat (first | exact Del.here | apply Del.there))))) ?_
              intro j hj
              refine cw_seq ?_
              refine cw_region ?_
              refine lstepB rfl rfl rfl (run_lss (.tmp rfl) (.tmp rfl) rfl) ?_
              refine lnil ?_
              refine xw_then ?_
              refine cw_seq ?_
              refine cw_cond_p (.tmp rfl) (fun hl4 => ?_) (fun hl4 => ?_)
              ·
                have hjn : j < f.offs.length := by omega
                obtain ⟨as_, ae, hat⟩ : ∃ as_ ae, atR f (j : Int) = (as_, ae) := ⟨_, _, rfl⟩
                have hat2 : atR x (j : Int) = (as_, ae) := by rw [← hat]; exact at_same hv hvq tx (fun _ => rfl) (fun h => inner_len tx.len.symm h)
                refine cw_skip ?_
                refine xw_then ?_
                refine cw_seq ?_
                refine cw_block ?_
                refine cw_seq ?_
                refine cw_region ?_
                refine lstepB rfl rfl rfl (run_move (.tmp rfl)) ?_
                refine lstepB rfl rfl rfl (run_assign (.tmp rfl)) ?_
                refine lnil ?_
                refine xw_then ?_
                refine cw_seq ?_
                refine cw_region ?_
                refine lstepB rfl rfl rfl (run_loadN (.tmp rfl) kd24 sz24 (by repeat (first | exact List.Mem.head _ | apply List.Mem.tail)) (by repeat (first | exact Sub.done | apply Sub.take | apply Sub.skip))) ?_
                refine lstepB rfl rfl rfl (run_move (.tmp rfl)) ?_
                refine lstepB rfl rfl rfl (run_call1 cb16 (.cons (.tmp rfl) (.cons (.tmp rfl) .nil)) (fun w2 hS => atQn2 f rfl rfl rfl (j : Int) w2 hm (hf.kept hS.kept) hat)) ?_
                refine lstepB rfl rfl rfl (run_move (.tmp rfl)) ?_
                refine lstepB rfl rfl rfl (run_extract (.tmp rfl) rfl) ?_
                refine lstepB rfl rfl rfl (run_extract (.tmp rfl) rfl) ?_
                refine lstep rfl rfl rfl (run_alloc zr28) ?_
                intro b43 _
                refine lstep0 rfl rfl (run_storeN (.tmp rfl) (.tmp rfl) rfl sz28 rfl (by repeat (first | exact Upd.here | apply Upd.there)) (by repeat (first | exact Put.done | apply Put.put | apply Put.skip))) ?_
                refine lstepB rfl rfl rfl (run_assign (.tmp rfl)) ?_
                refine lnil ?_
                refine xw_then ?_
                refine cw_seq ?_
                refine cw_region ?_
                refine lstepB rfl rfl rfl (run_move (.tmp rfl)) ?_
                refine lstepB rfl rfl rfl (run_assign (.tmp rfl)) ?_
                refine lnil ?_
                refine xw_then ?_
                refine cw_seq ?_
                refine cw_seq ?_
                refine cw_region ?_
                refine lstepB rfl rfl rfl (run_move (.tmp rfl)) ?_
                refine lstepB rfl rfl rfl (run_eql (.tmp rfl) .const (decide_eq_false (by decide))) ?_
                refine lnil ?_
                refine xw_then ?_
                refine cw_cond_false (.tmp rfl) ?_
                refine cw_skip ?_
                refine xw_then ?_
                refine cw_seq ?_
                refine cw_region ?_
                refine lstepB rfl rfl rfl (run_loadN (.tmp rfl) kd24 sz24 (by repeat (first | exact List.Mem.head _ | apply List.Mem.tail)) (by repeat (first | exact Sub.done | apply Sub.take | apply Sub.skip))) ?_
                refine lstepB rfl rfl rfl (run_move (.tmp rfl)) ?_
                refine lstepB rfl rfl rfl (run_call1 cb16 (.cons (.tmp rfl) (.cons (.tmp rfl) .nil)) (fun w2 hS => atQn2 x lx1 lx2 lx3 (j : Int) w2 hmx ⟨spansAt_row (hS.mem (b := gX) (by repeat (first | exact List.Mem.head _ | apply List.Mem.tail))) iX, (by rw [hxw]; exact hf.wids.kept hS.kept), (by rw [hxd]; exact hf.deps.kept hS.kept)⟩ hat2)) ?_
                refine lstepB rfl rfl rfl (run_move (.tmp rfl)) ?_
                refine lstepB rfl rfl rfl (run_extract (.tmp rfl) rfl) ?_
                refine lstepB rfl rfl rfl (run_extract (.tmp rfl) rfl) ?_
                refine lstep rfl rfl rfl (run_alloc zr28) ?_
                intro b46 _
                refine lstep0 rfl rfl (run_storeN (.tmp rfl) (.tmp rfl) rfl sz28 rfl (by repeat (first | exact Upd.here | apply Upd.there)) (by repeat (first | exact Put.done | apply Put.put | apply Put.skip))) ?_
                refine lstepB rfl rfl rfl (run_assign (.tmp rfl)) ?_
                refine lnil ?_
                refine xw_then ?_
                refine cw_seq ?_
                refine cw_region ?_
                refine lstepB rfl rfl rfl (run_loadN (.tmp rfl) kd28 sz28 (by repeat (first | exact List.Mem.head _ | apply List.Mem.tail)) (by repeat (first | exact Sub.done | apply Sub.take | apply Sub.skip))) ?_
                refine lstepB rfl rfl rfl (run_loadN (.tmp rfl) kd28 sz28 (by repeat (first | exact List.Mem.head _ | apply List.Mem.tail)) (by repeat (first | exact Sub.done | apply Sub.take | apply Sub.skip))) ?_
                refine lstepB rfl rfl rfl (run_eql_agg (.tmp rfl) (.tmp rfl) eg28 (neq28 (r := false) (by simp))) ?_
                refine lstepB rfl rfl rfl (run_move (.tmp rfl)) ?_
                refine lyes rfl rfl rfl rfl ?_
                refine gstepB rfl rfl (run_move (.tmp rfl)) ?_
                refine lyes rfl rfl rfl rfl ?_
                refine gstepB rfl rfl (run_move (.tmp rfl)) ?_
                refine lyes rfl rfl rfl rfl ?_
                refine gstepB rfl rfl (run_neq (.tmp rfl) (.tmp rfl) (decide_eq_false (fun h => h rfl))) ?_
                refine lstepB rfl rfl rfl (by first | exact run_pick_true (.tmp rfl) .const | exact run_pick_false (.tmp rfl) (.tmp rfl)) ?_
                refine lnil ?_
                refine xw_then ?_
                refine cw_cond_false (.tmp rfl) ?_
                refine cw_skip ?_
                refine xw_in ?_
                refine xw_then ?_
                refine cw_region ?_
                refine lstepB rfl rfl rfl (run_add (.tmp rfl) .const (by first | exact IntWalk.i64_in _ (by omega) | exact rfl)) ?_
                refine lstepB rfl rfl rfl (run_move (.tmp rfl)) ?_
                refine lnil ?_
                exact xw_round (j + 1) (by show j + 1 ≤ _; omega) (by show f.offs.length - (j + 1) < f.offs.length - j; omega) (by repeat (first | exact Less.nil | refine Less.cons rfl ?_)) (by repeat (first | exact Pick.nil | (apply Pick.cons; focus (repeat (first | exact Del.here | apply Del.there)))))
              ·
                refine cw_exit ?_
                refine xw_then_exit ?_
                refine xw_then_exit ?_
                refine xw_in_exit ?_
                refine xw_in ?_
                refine xw_then ?_
                refine cw_region ?_
                refine lstepB rfl rfl rfl (run_add (.tmp rfl) .const (by first | exact IntWalk.i64_in _ (by omega) | exact rfl)) ?_
                refine lstepB rfl rfl rfl (run_move (.tmp rfl)) ?_
                refine lnil ?_
                exact xw_round 1 (.inr (.inl rfl)) (by show 3 - 1 < 3 - 0; omega) (by repeat (first | exact Less.nil | refine Less.cons rfl ?_)) (by repeat (first | exact Pick.nil | (apply Pick.cons; focus (repeat (first | exact Del.here | apply Del.there)))))
          · as_aux_lemma =>
            refine cw_seq ?_
            refine cw_region ?_
            refine lstepB rfl rfl rfl (run_lss (.tmp rfl) (.tmp rfl) (decide_eq_true (by decide))) ?_
            refine lnil ?_
            refine xw_then ?_
            refine cw_seq ?_
            refine cw_cond_true (.tmp rfl) ?_
            clear sx tx hmx lx1 lx2 lx3 hxw hxd iX sz tz rz rzw rzd hmz lz1 lz2 lz3 iO iW iD
            cases hvq : validB y
            ·
              refine cw_skip ?_
              refine xw_then ?_
              refine cw_seq ?_
              refine cw_block ?_
              refine cw_seq ?_
              refine cw_region ?_
              refine lstepB rfl rfl rfl (run_move (.tmp rfl)) ?_
              refine lstepB rfl rfl rfl (run_indexAddr (i := 1) (off' := 3) (.tmp rfl) (.tmp rfl) el62 (by decide) rfl) ?_
              refine lstepB rfl rfl rfl (run_loadN (l := [.slice (some ⟨gY, 0, none⟩) f.offs.length cY, .slice wa f.wids.length wc, .slice da f.deps.length dc]) (.tmp rfl) kd24 sz24 (by repeat (first | exact List.Mem.head _ | apply List.Mem.tail)) (by repeat (first | exact Sub.done | apply Sub.take | apply Sub.skip))) ?_
              refine lstep rfl rfl rfl (run_alloc zr24) ?_
              intro b30 _
              refine lstepB rfl rfl rfl (run_assign (.tmp rfl)) ?_
              refine lstep0 rfl rfl (run_storeN (.tmp rfl) (.tmp rfl) rfl sz24 rfl (by repeat (first | exact Upd.here | apply Upd.there)) (by repeat (first | exact Put.done | apply Put.put | apply Put.skip))) ?_
              refine lnil ?_
              refine xw_then ?_
              refine cw_seq ?_
              refine cw_seq ?_
              refine cw_region ?_
              refine lstepB rfl rfl rfl (run_loadN (.tmp rfl) kd24 sz24 (by repeat (first | exact List.Mem.head _ | apply List.Mem.tail)) (by repeat (first | exact Sub.done | apply Sub.take | apply Sub.skip))) ?_
              refine lstepB rfl rfl rfl (run_call1 cb35 (.cons (.tmp rfl) .nil) (fun w2 hS => rFurrowQn y ly1 ly2 ly3 w2 hmy ⟨spansAt_row (hS.mem (b := gY) (by repeat (first | exact List.Mem.head _ | apply List.Mem.tail))) iY, (by rw [hyw]; exact hf.wids.kept hS.kept), (by rw [hyd]; exact hf.deps.kept hS.kept)⟩ hvq)) ?_
              refine lstepB rfl rfl rfl (run_not (.tmp rfl) (by first | exact Bool.not_true | exact Bool.not_false | exact rfl)) ?_
              refine lnil ?_
              refine xw_then ?_
              refine cw_cond_true (.tmp rfl) ?_
              refine cw_exit ?_
              refine xw_then_exit ?_
              refine xw_in_exit ?_
              refine xw_then ?_
              refine cw_region ?_
              refine lstepB rfl rfl rfl (run_add (.tmp rfl) .const (by first | exact IntWalk.i64_in _ (by omega) | exact rfl)) ?_
              refine lstepB rfl rfl rfl (run_move (.tmp rfl)) ?_
              refine lnil ?_
              exact xw_round 2 (.inr (.inr (.inl rfl))) (by show 3 - 2 < 3 - 1; omega) (by repeat (first | exact Less.nil | refine Less.cons rfl ?_)) (by repeat (first | exact Pick.nil | (apply Pick.cons; focus (repeat (first | exact Del.here | apply Del.there)))))
            ·
              refine cw_skip ?_
              refine xw_then ?_
              refine cw_seq ?_
              refine cw_block ?_
              refine cw_seq ?_
              refine cw_region ?_
              refine lstepB rfl rfl rfl (run_move (.tmp rfl)) ?_
              refine lstepB rfl rfl rfl (run_indexAddr (i := 1) (off' := 3) (.tmp rfl) (.tmp rfl) el62 (by decide) rfl) ?_
              refine lstepB rfl rfl rfl (run_loadN (l := [.slice (some ⟨gY, 0, none⟩) f.offs.length cY, .slice wa f.wids.length wc, .slice da f.deps.length dc]) (.tmp rfl) kd24 sz24 (by repeat (first | exact List.Mem.head _ | apply List.Mem.tail)) (by repeat (first | exact Sub.done | apply Sub.take | apply Sub.skip))) ?_
              refine lstep rfl rfl rfl (run_alloc zr24) ?_
              intro b30 _
              refine lstepB rfl rfl rfl (run_assign (.tmp rfl)) ?_
              refine lstep0 rfl rfl (run_storeN (.tmp rfl) (.tmp rfl) rfl sz24 rfl (by repeat (first | exact Upd.here | apply Upd.there)) (by repeat (first | exact Put.done | apply Put.put | apply Put.skip))) ?_
              refine lnil ?_
              refine xw_then ?_
              refine cw_seq ?_
              refine cw_seq ?_
              refine cw_region ?_
              refine lstepB rfl rfl rfl (run_loadN (.tmp rfl) kd24 sz24 (by repeat (first | exact List.Mem.head _ | apply List.Mem.tail)) (by repeat (first | exact Sub.done | apply Sub.take | apply Sub.skip))) ?_
              refine lstepB rfl rfl rfl (run_call1 cb35 (.cons (.tmp rfl) .nil) (fun w2 hS => rFurrowQn y ly1 ly2 ly3 w2 hmy ⟨spansAt_row (hS.mem (b := gY) (by repeat (first | exact List.Mem.head _ | apply List.Mem.tail))) iY, (by rw [hyw]; exact hf.wids.kept hS.kept), (by rw [hyd]; exact hf.deps.kept hS.kept)⟩ hvq)) ?_
              refine lstepB rfl rfl rfl (run_not (.tmp rfl) (by first | exact Bool.not_true | exact Bool.not_false | exact rfl)) ?_
              refine lnil ?_
              refine xw_then ?_
              refine cw_cond_false (.tmp rfl) ?_
              have hbe := ty.bend hfine (validF hvq).fine
              obtain ⟨hsu, hca⟩ := same_sets hv hvq ty
              have hwq : wrongR y most = (ws, we) := by rw [← hws]; unfold wrongR; rw [hv, hvq, neg_wrong ny]
              refine cw_skip ?_
              refine xw_then ?_
              refine cw_seq ?_
              refine cw_region ?_
              refine lstepB rfl rfl rfl (run_loadN (.tmp rfl) kd24 sz24 (by repeat (first | exact List.Mem.head _ | apply List.Mem.tail)) (by repeat (first | exact Sub.done | apply Sub.take | apply Sub.skip))) ?_
              refine lstepB rfl rfl rfl (run_call1 cb14 (.cons (.tmp rfl) .nil) (fun w2 hS => (bendQn y ly1 ly2 ly3 w2 hmy ⟨spansAt_row (hS.mem (b := gY) (by repeat (first | exact List.Mem.head _ | apply List.Mem.tail))) iY, (by rw [hyw]; exact hf.wids.kept hS.kept), (by rw [hyd]; exact hf.deps.kept hS.kept)⟩ hvq).as (show _ = Value.tuple #[spanV (bendT f.offs), .int .i64 0] from by rw [hbe]))) ?_
              refine lstepB rfl rfl rfl (run_move (.tmp rfl)) ?_
              refine lstepB rfl rfl rfl (run_extract (.tmp rfl) rfl) ?_
              refine lstepB rfl rfl rfl (run_extract (.tmp rfl) rfl) ?_
              refine lstep rfl rfl rfl (run_alloc zr28) ?_
              intro b31 _
              refine lstep0 rfl rfl (run_storeN (.tmp rfl) (.tmp rfl) rfl sz28 rfl (by repeat (first | exact Upd.here | apply Upd.there)) (by repeat (first | exact Put.done | apply Put.put | apply Put.skip))) ?_
              refine lstepB rfl rfl rfl (run_assign (.tmp rfl)) ?_
              refine lnil ?_
              refine xw_then ?_
              refine cw_seq ?_
              refine cw_region ?_
              refine lstepB rfl rfl rfl (run_loadN (.tmp rfl) kd24 sz24 (by repeat (first | exact List.Mem.head _ | apply List.Mem.tail)) (by repeat (first | exact Sub.done | apply Sub.take | apply Sub.skip))) ?_
              refine lstepB rfl rfl rfl (run_call1 cb20 (.cons (.tmp rfl) .nil) (fun w2 hS => (worstQn y ly1 ly2 ly3 w2 hmy ⟨spansAt_row (hS.mem (b := gY) (by repeat (first | exact List.Mem.head _ | apply List.Mem.tail))) iY, (by rw [hyw]; exact hf.wids.kept hS.kept), (by rw [hyd]; exact hf.deps.kept hS.kept)⟩ hvq).as (show _ = Value.tuple #[.int .i64 ((sureN f.offs : Nat) : Int), .int .i64 ((canN f.offs : Nat) : Int), .int .i64 0] from by rw [hsu, hca]))) ?_
              refine lstepB rfl rfl rfl (run_move (.tmp rfl)) ?_
              refine lstepB rfl rfl rfl (run_extract (.tmp rfl) rfl) ?_
              refine lstepB rfl rfl rfl (run_extract (.tmp rfl) rfl) ?_
              refine lstepB rfl rfl rfl (run_extract (.tmp rfl) rfl) ?_
              refine lstepB rfl rfl rfl (run_assign (.tmp rfl)) ?_
              refine lstepB rfl rfl rfl (run_assign (.tmp rfl)) ?_
              refine lstepB rfl rfl rfl (run_assign (.tmp rfl)) ?_
              refine lnil ?_
              refine xw_then ?_
              refine cw_seq ?_
              refine cw_region ?_
              refine lstepB rfl rfl rfl (run_loadN (.tmp rfl) kd24 sz24 (by repeat (first | exact List.Mem.head _ | apply List.Mem.tail)) (by repeat (first | exact Sub.done | apply Sub.take | apply Sub.skip))) ?_
              refine lstep rfl rfl rfl (LR.runs (R := [(gY, Obj.cells rY.toArray 28 (0, 0))]) (A := []) (lr_gives cb18 (.cons (.tmp rfl) .nil) (fun w2 hS => straightQn y ly1 ly2 ly3 w2 hmy ⟨spansAt_row (hS.mem (b := gY) (by repeat (first | exact List.Mem.head _ | apply List.Mem.tail))) iY, (by rw [hyw]; exact hf.wids.kept hS.kept), (by rw [hyd]; exact hf.deps.kept hS.kept)⟩ hvq)) (by repeat (first | exact Pick.nil | (apply Pick.cons; focus (repeat (first | exact Del.here | apply Del.there))))) (by repeat (first | exact Dels.nil | (apply Dels.cons; focus (repeat (first | exact Del.here | apply Del.there)))))) ?_
              intro ⟨gT, s2⟩ ⟨hs4, hs5, hs6⟩
              dsimp only at hs4 hs5 hs6 ⊢
              refine lstepB rfl rfl rfl (run_move (.tmp rfl)) ?_
              refine lstepB rfl rfl rfl (run_extract (.tmp rfl) rfl) ?_
              refine lstepB rfl rfl rfl (run_extract (.tmp rfl) rfl) ?_
              refine lstepB rfl rfl rfl (run_assign (.tmp rfl)) ?_
              refine lstepB rfl rfl rfl (run_assign (.tmp rfl)) ?_
              refine lnil ?_
              refine xw_then ?_
              refine cw_seq ?_
              refine cw_region ?_
              refine lstepB rfl rfl rfl (run_loadN (.tmp rfl) kd24 sz24 (by repeat (first | exact List.Mem.head _ | apply List.Mem.tail)) (by repeat (first | exact Sub.done | apply Sub.take | apply Sub.skip))) ?_
              refine lstepB rfl rfl rfl (run_move (.tmp rfl)) ?_
              refine lstepB rfl rfl rfl (run_call1 cb23 (.cons (.tmp rfl) (.cons (.tmp rfl) .nil)) (fun w2 hS => wrongQn y ly1 ly2 ly3 most w2 hmy ⟨spansAt_row (hS.mem (b := gY) (by repeat (first | exact List.Mem.head _ | apply List.Mem.tail))) iY, (by rw [hyw]; exact hf.wids.kept hS.kept), (by rw [hyd]; exact hf.deps.kept hS.kept)⟩ hwq)) ?_
              refine lstepB rfl rfl rfl (run_move (.tmp rfl)) ?_
              refine lstepB rfl rfl rfl (run_extract (.tmp rfl) rfl) ?_
              refine lstepB rfl rfl rfl (run_extract (.tmp rfl) rfl) ?_
              refine lstepB rfl rfl rfl (run_assign (.tmp rfl)) ?_
              refine lstepB rfl rfl rfl (run_assign (.tmp rfl)) ?_
              refine lnil ?_
              refine xw_then ?_
              refine cw_seq ?_
              refine cw_region ?_
              refine lstepB rfl rfl rfl (run_loadN (.tmp rfl) kd24 sz24 (by repeat (first | exact List.Mem.head _ | apply List.Mem.tail)) (by repeat (first | exact Sub.done | apply Sub.take | apply Sub.skip))) ?_
              refine lstepB rfl rfl rfl (run_call1 cb27 (.cons (.tmp rfl) .nil) (fun w2 hS => (soilQn y ly1 ly2 ly3 w2 hmy ⟨spansAt_row (hS.mem (b := gY) (by repeat (first | exact List.Mem.head _ | apply List.Mem.tail))) iY, (by rw [hyw]; exact hf.wids.kept hS.kept), (by rw [hyd]; exact hf.deps.kept hS.kept)⟩ hvq).as (show _ = Value.tuple #[spanV (soilS f), .int .i64 0] from by rw [sy]))) ?_
              refine lstepB rfl rfl rfl (run_move (.tmp rfl)) ?_
              refine lstepB rfl rfl rfl (run_extract (.tmp rfl) rfl) ?_
              refine lstepB rfl rfl rfl (run_extract (.tmp rfl) rfl) ?_
              refine lstep rfl rfl rfl (run_alloc zr28) ?_
              intro b40 _
              refine lstep0 rfl rfl (run_storeN (.tmp rfl) (.tmp rfl) rfl sz28 rfl (by repeat (first | exact Upd.here | apply Upd.there)) (by repeat (first | exact Put.done | apply Put.put | apply Put.skip))) ?_
              refine lstepB rfl rfl rfl (run_assign (.tmp rfl)) ?_
              refine lnil ?_
              refine xw_then ?_
              refine cw_seq ?_
              refine cw_seq ?_
              refine cw_region ?_
              refine lstepB rfl rfl rfl (run_move (.tmp rfl)) ?_
              refine lstepB rfl rfl rfl (run_eql (.tmp rfl) .const (decide_eq_false (by decide))) ?_
              refine lnil ?_
              refine xw_then ?_
              refine cw_cond_false (.tmp rfl) ?_
              refine cw_skip ?_
              refine xw_then ?_
              refine cw_seq ?_
              refine cw_seq ?_
              refine cw_region ?_
              refine lstepB rfl rfl rfl (run_loadN (.tmp rfl) kd28 sz28 (by repeat (first | exact List.Mem.head _ | apply List.Mem.tail)) (by repeat (first | exact Sub.done | apply Sub.take | apply Sub.skip))) ?_
              refine lstepB rfl rfl rfl (run_loadN (.tmp rfl) kd28 sz28 (by repeat (first | exact List.Mem.head _ | apply List.Mem.tail)) (by repeat (first | exact Sub.done | apply Sub.take | apply Sub.skip))) ?_
              refine lstepB rfl rfl rfl (run_eql_agg (.tmp rfl) (.tmp rfl) eg28 (neq28 (r := false) (by simp))) ?_
              refine lstepB rfl rfl rfl (run_move (.tmp rfl)) ?_
              refine lyes rfl rfl rfl rfl ?_
              refine gstepB rfl rfl (run_move (.tmp rfl)) ?_
              refine lyes rfl rfl rfl rfl ?_
              refine gstepB rfl rfl (run_move (.tmp rfl)) ?_
              refine lyes rfl rfl rfl rfl ?_
              refine gstepB rfl rfl (run_neq (.tmp rfl) (.tmp rfl) (decide_eq_false (fun h => h rfl))) ?_
              refine lstepB rfl rfl rfl (by first | exact run_pick_true (.tmp rfl) .const | exact run_pick_false (.tmp rfl) (.tmp rfl)) ?_
              refine lstepB rfl rfl rfl (run_move (.tmp rfl)) ?_
              refine lyes rfl rfl rfl rfl ?_
              refine gstepB rfl rfl (run_move (.tmp rfl)) ?_
              refine lyes rfl rfl rfl rfl ?_
              refine gstepB rfl rfl (run_move (.tmp rfl)) ?_
              refine lyes rfl rfl rfl rfl ?_
              refine gstepB rfl rfl (run_neq (.tmp rfl) (.tmp rfl) (decide_eq_false (fun h => h rfl))) ?_
              refine lstepB rfl rfl rfl (by first | exact run_pick_true (.tmp rfl) .const | exact run_pick_false (.tmp rfl) (.tmp rfl)) ?_
              refine lstepB rfl rfl rfl (run_move (.tmp rfl)) ?_
              refine lyes rfl rfl rfl rfl ?_
              refine gstepB rfl rfl (run_move (.tmp rfl)) ?_
              refine lyes rfl rfl rfl rfl ?_
              refine gstepB rfl rfl (run_move (.tmp rfl)) ?_
              refine lyes rfl rfl rfl rfl ?_
              refine gstepB rfl rfl (run_neq (.tmp rfl) (.tmp rfl) (decide_eq_false (fun h => h rfl))) ?_
              refine lstepB rfl rfl rfl (by first | exact run_pick_true (.tmp rfl) .const | exact run_pick_false (.tmp rfl) (.tmp rfl)) ?_
              refine lstepB rfl rfl rfl (run_move (.tmp rfl)) ?_
              refine lyes rfl rfl rfl rfl ?_
              refine gstepB rfl rfl (run_move (.tmp rfl)) ?_
              refine lyes rfl rfl rfl rfl ?_
              refine gstepB rfl rfl (run_move (.tmp rfl)) ?_
              refine lyes rfl rfl rfl rfl ?_
              refine gstepB rfl rfl (run_neq (.tmp rfl) (.tmp rfl) (decide_eq_false (fun h => h rfl))) ?_
              refine lstepB rfl rfl rfl (by first | exact run_pick_true (.tmp rfl) .const | exact run_pick_false (.tmp rfl) (.tmp rfl)) ?_
              refine lstepB rfl rfl rfl (run_move (.tmp rfl)) ?_
              refine lyes rfl rfl rfl rfl ?_
              refine gstepB rfl rfl (run_move (.tmp rfl)) ?_
              refine lyes rfl rfl rfl rfl ?_
              refine gstepB rfl rfl (run_move (.tmp rfl)) ?_
              refine lyes rfl rfl rfl rfl ?_
              refine gstepB rfl rfl (run_neq (.tmp rfl) (.tmp rfl) (decide_eq_false (fun h => h rfl))) ?_
              refine lstepB rfl rfl rfl (by first | exact run_pick_true (.tmp rfl) .const | exact run_pick_false (.tmp rfl) (.tmp rfl)) ?_
              refine lstepB rfl rfl rfl (run_move (.tmp rfl)) ?_
              refine lyes rfl rfl rfl rfl ?_
              refine gstepB rfl rfl (run_move (.tmp rfl)) ?_
              refine lyes rfl rfl rfl rfl ?_
              refine gstepB rfl rfl (run_call1 cb32 (.cons (.tmp rfl) .nil) (fun w2 hS => rmostKn s2 hs4 (by omega) hs5 (hs6.trans (by rw [hbe])) _ _ w2 (intsAt_cells (hS.mem (b := gT) (by repeat (first | exact List.Mem.head _ | apply List.Mem.tail)))))) ?_
              refine lyes rfl rfl rfl rfl ?_
              refine gstepB rfl rfl (run_move (.tmp rfl)) ?_
              refine lyes rfl rfl rfl rfl ?_
              refine gstepB rfl rfl (run_call1 cb32 (.cons (.tmp rfl) .nil) (fun w2 hS => rmostKn s1 hs1 (by omega) hs2 hs3 _ _ w2 (intsAt_cells (hS.mem (b := gS) (by repeat (first | exact List.Mem.head _ | apply List.Mem.tail)))))) ?_
              refine lyes rfl rfl rfl rfl ?_
              refine gstepB rfl rfl (run_neq (.tmp rfl) (.tmp rfl) (decide_eq_false (fun h => h rfl))) ?_
              refine lstepB rfl rfl rfl (by first | exact run_pick_true (.tmp rfl) .const | exact run_pick_false (.tmp rfl) (.tmp rfl)) ?_
              refine lstepB rfl rfl rfl (run_move (.tmp rfl)) ?_
              refine lyes rfl rfl rfl rfl ?_
              refine gstepB rfl rfl (run_loadN (.tmp rfl) kd28 sz28 (by repeat (first | exact List.Mem.head _ | apply List.Mem.tail)) (by repeat (first | exact Sub.done | apply Sub.take | apply Sub.skip))) ?_
              refine lyes rfl rfl rfl rfl ?_
              refine gstepB rfl rfl (run_loadN (.tmp rfl) kd28 sz28 (by repeat (first | exact List.Mem.head _ | apply List.Mem.tail)) (by repeat (first | exact Sub.done | apply Sub.take | apply Sub.skip))) ?_
              refine lyes rfl rfl rfl rfl ?_
              refine gstepB rfl rfl (run_eql_agg (.tmp rfl) (.tmp rfl) eg28 (neq28 (r := false) (by simp))) ?_
              refine lstepB rfl rfl rfl (by first | exact run_pick_true (.tmp rfl) .const | exact run_pick_false (.tmp rfl) (.tmp rfl)) ?_
              refine lstepB rfl rfl rfl (run_move (.tmp rfl)) ?_
              refine lyes rfl rfl rfl rfl ?_
              refine gstepB rfl rfl (run_move (.tmp rfl)) ?_
              refine lyes rfl rfl rfl rfl ?_
              refine gstepB rfl rfl (run_move (.tmp rfl)) ?_
              refine lyes rfl rfl rfl rfl ?_
              refine gstepB rfl rfl (run_neq (.tmp rfl) (.tmp rfl) (decide_eq_false (fun h => h rfl))) ?_
              refine lstepB rfl rfl rfl (by first | exact run_pick_true (.tmp rfl) .const | exact run_pick_false (.tmp rfl) (.tmp rfl)) ?_
              refine lstepB rfl rfl rfl (run_move (.tmp rfl)) ?_
              refine lyes rfl rfl rfl rfl ?_
              refine gstepB rfl rfl (run_move (.tmp rfl)) ?_
              refine lyes rfl rfl rfl rfl ?_
              refine gstepB rfl rfl (run_move (.tmp rfl)) ?_
              refine lyes rfl rfl rfl rfl ?_
              refine gstepB rfl rfl (run_neq (.tmp rfl) (.tmp rfl) (decide_eq_false (fun h => h rfl))) ?_
              refine lstepB rfl rfl rfl (by first | exact run_pick_true (.tmp rfl) .const | exact run_pick_false (.tmp rfl) (.tmp rfl)) ?_
              refine lnil ?_
              refine xw_then ?_
              refine cw_cond_false (.tmp rfl) ?_
              refine cw_skip ?_
              refine xw_then ?_
              refine cw_seq ?_
              refine cw_seq ?_
              refine cw_region ?_
              refine lstepB rfl rfl rfl (run_move (.tmp rfl)) ?_
              refine lstepB rfl rfl rfl (run_eql (.tmp rfl) .const (decide_eq_true (by decide))) ?_
              refine lstepB rfl rfl rfl (run_move (.tmp rfl)) ?_
              refine lyes rfl rfl rfl rfl ?_
              refine gstepB rfl rfl (run_move (.tmp rfl)) ?_
              refine lyes rfl rfl rfl rfl ?_
              refine gstepB rfl rfl (run_move (.tmp rfl)) ?_
              refine lyes rfl rfl rfl rfl ?_
              refine gstepB rfl rfl (run_neq (.tmp rfl) (.tmp rfl) (decide_eq_false (fun h => h rfl))) ?_
              refine lstepB rfl rfl rfl (by first | exact run_pick_true (.tmp rfl) (.tmp rfl) | exact run_pick_false (.tmp rfl) .const) ?_
              refine lstepB rfl rfl rfl (run_move (.tmp rfl)) ?_
              refine lyes rfl rfl rfl rfl ?_
              refine gstepB rfl rfl (run_move (.tmp rfl)) ?_
              refine lyes rfl rfl rfl rfl ?_
              refine gstepB rfl rfl (run_eql (.tmp rfl) .const (decide_eq_false (by decide))) ?_
              refine lyes rfl rfl rfl rfl ?_
              refine gstepB rfl rfl (run_move (.tmp rfl)) ?_
              refine lskip rfl rfl rfl rfl rfl rfl rfl ?_
              refine lskip rfl rfl rfl rfl rfl rfl rfl ?_
              refine lskip rfl rfl rfl rfl rfl rfl rfl ?_
              refine lskip rfl rfl rfl rfl rfl rfl rfl ?_
              refine lskip rfl rfl rfl rfl rfl rfl rfl ?_
              refine lskip rfl rfl rfl rfl rfl rfl rfl ?_
              refine lskip rfl rfl rfl rfl rfl rfl rfl ?_
              refine lskip rfl rfl rfl rfl rfl rfl rfl ?_
              refine lskip rfl rfl rfl rfl rfl rfl rfl ?_
              refine lskip rfl rfl rfl rfl rfl rfl rfl ?_
              refine lskip rfl rfl rfl rfl rfl rfl rfl ?_
              refine lskip rfl rfl rfl rfl rfl rfl rfl ?_
              refine lskip rfl rfl rfl rfl rfl rfl rfl ?_
              refine lyes rfl rfl rfl rfl ?_
              refine gstepB rfl rfl (by first | exact run_pick_true (.tmp rfl) (.tmp rfl) | exact run_pick_false (.tmp rfl) .const) ?_
              refine lstepB rfl rfl rfl (by first | exact run_pick_true (.tmp rfl) .const | exact run_pick_false (.tmp rfl) (.tmp rfl)) ?_
              refine lnil ?_
              refine xw_then ?_
              refine cw_cond_false (.tmp rfl) ?_
              refine cw_skip ?_
              refine xw_then ?_
              refine cw_seq ?_
              refine cw_region ?_
              refine lstepB rfl rfl rfl (run_load1 (.tmp rfl) kd3 (by repeat (first | exact List.Mem.head _ | apply List.Mem.tail)) (by exact rfl)) ?_
              refine lstepB rfl rfl rfl (run_move .const) ?_
              refine lnil ?_
              refine xw_then ?_
              refine cw_block ?_
              refine cw_loop (S := Nat) (fun j => [(333, .int .i64 (j : Int))]) [(1, _), (4, _), (9, _), (16, _), (17, _), (18, _), (19, _), (20, _), (21, _), (22, _), (23, _), (24, _), (25, _), (26, _), (27, _), (28, _), (29, _), (30, _), (211, _), (212, _), (213, _), (332, _)] (fun j => (gX, Obj.cells rX.toArray 28 (0, 0)) :: (gY, Obj.cells rY.toArray 28 (0, 0)) :: (gO, Obj.cells rO.toArray 28 (0, 0)) :: (gW, Obj.cells rW.toArray 28 (0, 0)) :: (gD, Obj.cells rD.toArray 28 (0, 0)) :: (gK, Obj.cells rK.toArray 28 (0, 0)) :: (gS, Obj.cells (intsV s1).toArray 3 (0, 0)) :: (b211, Obj.cells [.slice (some ⟨gX, 0, none⟩) f.offs.length cX, .slice wa f.wids.length wc, .slice da f.deps.length dc, .slice (some ⟨gY, 0, none⟩) f.offs.length cY, .slice wa f.wids.length wc, .slice da f.deps.length dc, .slice (some ⟨gO, 0, none⟩) f.offs.length cO, .slice (some ⟨gW, 0, none⟩) f.offs.length cW, .slice (some ⟨gD, 0, none⟩) f.offs.length cD].toArray 24 (0, 0)) :: (b18, Obj.cells (spanC (bendT f.offs)).toArray 28 (0, 0)) :: (b27, Obj.cells (spanC (soilS f)).toArray 28 (0, 0)) :: (b9, Obj.cells [.int .i64 (f.offs.length : Int)].toArray 3 (0, 0)) :: (b4, Obj.cells (furrowC f (some ⟨bo, oo, none⟩) wa da oc wc dc).toArray 24 (0, 0)) :: (b30, Obj.cells [.slice (some ⟨gY, 0, none⟩) f.offs.length cY, .slice wa f.wids.length wc, .slice da f.deps.length dc].toArray 24 (0, 0)) :: []) (fun j => j ≤ f.offs.length) (fun j => f.offs.length - j) 0 (Nat.zero_le _) (by repeat (first | exact Less.nil | refine Less.cons rfl ?_)) (by repeat (first | exact Pick.nil | (apply Pick.cons; focus (repeat (first | exact Del.here | apply Del.there))))) ?_
              intro j hj
              refine cw_seq ?_
              refine cw_region ?_
              refine lstepB rfl rfl rfl (run_lss (.tmp rfl) (.tmp rfl) rfl) ?_
              refine lnil ?_
              refine xw_then ?_
              refine cw_seq ?_
              refine cw_cond_p (.tmp rfl) (fun hl4 => ?_) (fun hl4 => ?_)
              ·
                have hjn : j < f.offs.length := by omega
                obtain ⟨as_, ae, hat⟩ : ∃ as_ ae, atR f (j : Int) = (as_, ae) := ⟨_, _, rfl⟩
                have hat2 : atR y (j : Int) = (as_, ae) := by rw [← hat]; exact at_same hv hvq ty (fun _ => rfl) (fun h => inner_len ty.len.symm h)
                refine cw_skip ?_
                refine xw_then ?_
                refine cw_seq ?_
                refine cw_block ?_
                refine cw_seq ?_
                refine cw_region ?_
                refine lstepB rfl rfl rfl (run_move (.tmp rfl)) ?_
                refine lstepB rfl rfl rfl (run_assign (.tmp rfl)) ?_
                refine lnil ?_
                refine xw_then ?_
                refine cw_seq ?_
                refine cw_region ?_
                refine lstepB rfl rfl rfl (run_loadN (.tmp rfl) kd24 sz24 (by repeat (first | exact List.Mem.head _ | apply List.Mem.tail)) (by repeat (first | exact Sub.done | apply Sub.take | apply Sub.skip))) ?_
                refine lstepB rfl rfl rfl (run_move (.tmp rfl)) ?_
                refine lstepB rfl rfl rfl (run_call1 cb16 (.cons (.tmp rfl) (.cons (.tmp rfl) .nil)) (fun w2 hS => atQn2 f rfl rfl rfl (j : Int) w2 hm (hf.kept hS.kept) hat)) ?_
                refine lstepB rfl rfl rfl (run_move (.tmp rfl)) ?_
                refine lstepB rfl rfl rfl (run_extract (.tmp rfl) rfl) ?_
                refine lstepB rfl rfl rfl (run_extract (.tmp rfl) rfl) ?_
                refine lstep rfl rfl rfl (run_alloc zr28) ?_
                intro b43 _
                refine lstep0 rfl rfl (run_storeN (.tmp rfl) (.tmp rfl) rfl sz28 rfl (by repeat (first | exact Upd.here | apply Upd.there)) (by repeat (first | exact Put.done | apply Put.put | apply Put.skip))) ?_
                refine lstepB rfl rfl rfl (run_assign (.tmp rfl)) ?_
                refine lnil ?_
                refine xw_then ?_
                refine cw_seq ?_
                refine cw_region ?_
                refine lstepB rfl rfl rfl (run_move (.tmp rfl)) ?_
                refine lstepB rfl rfl rfl (run_assign (.tmp rfl)) ?_
                refine lnil ?_
                refine xw_then ?_
                refine cw_seq ?_
                refine cw_seq ?_
                refine cw_region ?_
                refine lstepB rfl rfl rfl (run_move (.tmp rfl)) ?_
                refine lstepB rfl rfl rfl (run_eql (.tmp rfl) .const (decide_eq_false (by decide))) ?_
                refine lnil ?_
                refine xw_then ?_
                refine cw_cond_false (.tmp rfl) ?_
                refine cw_skip ?_
                refine xw_then ?_
                refine cw_seq ?_
                refine cw_region ?_
                refine lstepB rfl rfl rfl (run_loadN (.tmp rfl) kd24 sz24 (by repeat (first | exact List.Mem.head _ | apply List.Mem.tail)) (by repeat (first | exact Sub.done | apply Sub.take | apply Sub.skip))) ?_
                refine lstepB rfl rfl rfl (run_move (.tmp rfl)) ?_
                refine lstepB rfl rfl rfl (run_call1 cb16 (.cons (.tmp rfl) (.cons (.tmp rfl) .nil)) (fun w2 hS => atQn2 y ly1 ly2 ly3 (j : Int) w2 hmy ⟨spansAt_row (hS.mem (b := gY) (by repeat (first | exact List.Mem.head _ | apply List.Mem.tail))) iY, (by rw [hyw]; exact hf.wids.kept hS.kept), (by rw [hyd]; exact hf.deps.kept hS.kept)⟩ hat2)) ?_
                refine lstepB rfl rfl rfl (run_move (.tmp rfl)) ?_
                refine lstepB rfl rfl rfl (run_extract (.tmp rfl) rfl) ?_
                refine lstepB rfl rfl rfl (run_extract (.tmp rfl) rfl) ?_
                refine lstep rfl rfl rfl (run_alloc zr28) ?_
                intro b46 _
                refine lstep0 rfl rfl (run_storeN (.tmp rfl) (.tmp rfl) rfl sz28 rfl (by repeat (first | exact Upd.here | apply Upd.there)) (by repeat (first | exact Put.done | apply Put.put | apply Put.skip))) ?_
                refine lstepB rfl rfl rfl (run_assign (.tmp rfl)) ?_
                refine lnil ?_
                refine xw_then ?_
                refine cw_seq ?_
                refine cw_region ?_
                refine lstepB rfl rfl rfl (run_loadN (.tmp rfl) kd28 sz28 (by repeat (first | exact List.Mem.head _ | apply List.Mem.tail)) (by repeat (first | exact Sub.done | apply Sub.take | apply Sub.skip))) ?_
                refine lstepB rfl rfl rfl (run_loadN (.tmp rfl) kd28 sz28 (by repeat (first | exact List.Mem.head _ | apply List.Mem.tail)) (by repeat (first | exact Sub.done | apply Sub.take | apply Sub.skip))) ?_
                refine lstepB rfl rfl rfl (run_eql_agg (.tmp rfl) (.tmp rfl) eg28 (neq28 (r := false) (by simp))) ?_
                refine lstepB rfl rfl rfl (run_move (.tmp rfl)) ?_
                refine lyes rfl rfl rfl rfl ?_
                refine gstepB rfl rfl (run_move (.tmp rfl)) ?_
                refine lyes rfl rfl rfl rfl ?_
                refine gstepB rfl rfl (run_move (.tmp rfl)) ?_
                refine lyes rfl rfl rfl rfl ?_
                refine gstepB rfl rfl (run_neq (.tmp rfl) (.tmp rfl) (decide_eq_false (fun h => h rfl))) ?_
                refine lstepB rfl rfl rfl (by first | exact run_pick_true (.tmp rfl) .const | exact run_pick_false (.tmp rfl) (.tmp rfl)) ?_
                refine lnil ?_
                refine xw_then ?_
                refine cw_cond_false (.tmp rfl) ?_
                refine cw_skip ?_
                refine xw_in ?_
                refine xw_then ?_
                refine cw_region ?_
                refine lstepB rfl rfl rfl (run_add (.tmp rfl) .const (by first | exact IntWalk.i64_in _ (by omega) | exact rfl)) ?_
                refine lstepB rfl rfl rfl (run_move (.tmp rfl)) ?_
                refine lnil ?_
                exact xw_round (j + 1) (by show j + 1 ≤ _; omega) (by show f.offs.length - (j + 1) < f.offs.length - j; omega) (by repeat (first | exact Less.nil | refine Less.cons rfl ?_)) (by repeat (first | exact Pick.nil | (apply Pick.cons; focus (repeat (first | exact Del.here | apply Del.there)))))
              ·
                refine cw_exit ?_
                refine xw_then_exit ?_
                refine xw_then_exit ?_
                refine xw_in_exit ?_
                refine xw_in ?_
                refine xw_then ?_
                refine cw_region ?_
                refine lstepB rfl rfl rfl (run_add (.tmp rfl) .const (by first | exact IntWalk.i64_in _ (by omega) | exact rfl)) ?_
                refine lstepB rfl rfl rfl (run_move (.tmp rfl)) ?_
                refine lnil ?_
                exact xw_round 2 (.inr (.inr (.inl rfl))) (by show 3 - 2 < 3 - 1; omega) (by repeat (first | exact Less.nil | refine Less.cons rfl ?_)) (by repeat (first | exact Pick.nil | (apply Pick.cons; focus (repeat (first | exact Del.here | apply Del.there)))))
          · as_aux_lemma =>
            refine cw_seq ?_
            refine cw_region ?_
            refine lstepB rfl rfl rfl (run_lss (.tmp rfl) (.tmp rfl) (decide_eq_true (by decide))) ?_
            refine lnil ?_
            refine xw_then ?_
            refine cw_seq ?_
            refine cw_cond_true (.tmp rfl) ?_
            clear sx tx hmx lx1 lx2 lx3 hxw hxd iX sy ty ny hmy ly1 ly2 ly3 hyw hyd iY
            cases hvq : validB z
            ·
              refine cw_skip ?_
              refine xw_then ?_
              refine cw_seq ?_
              refine cw_block ?_
              refine cw_seq ?_
              refine cw_region ?_
              refine lstepB rfl rfl rfl (run_move (.tmp rfl)) ?_
              refine lstepB rfl rfl rfl (run_indexAddr (i := 2) (off' := 6) (.tmp rfl) (.tmp rfl) el62 (by decide) rfl) ?_
              refine lstepB rfl rfl rfl (run_loadN (l := [.slice (some ⟨gO, 0, none⟩) f.offs.length cO, .slice (some ⟨gW, 0, none⟩) f.offs.length cW, .slice (some ⟨gD, 0, none⟩) f.offs.length cD]) (.tmp rfl) kd24 sz24 (by repeat (first | exact List.Mem.head _ | apply List.Mem.tail)) (by repeat (first | exact Sub.done | apply Sub.take | apply Sub.skip))) ?_
              refine lstep rfl rfl rfl (run_alloc zr24) ?_
              intro b30 _
              refine lstepB rfl rfl rfl (run_assign (.tmp rfl)) ?_
              refine lstep0 rfl rfl (run_storeN (.tmp rfl) (.tmp rfl) rfl sz24 rfl (by repeat (first | exact Upd.here | apply Upd.there)) (by repeat (first | exact Put.done | apply Put.put | apply Put.skip))) ?_
              refine lnil ?_
              refine xw_then ?_
              refine cw_seq ?_
              refine cw_seq ?_
              refine cw_region ?_
              refine lstepB rfl rfl rfl (run_loadN (.tmp rfl) kd24 sz24 (by repeat (first | exact List.Mem.head _ | apply List.Mem.tail)) (by repeat (first | exact Sub.done | apply Sub.take | apply Sub.skip))) ?_
              refine lstepB rfl rfl rfl (run_call1 cb35 (.cons (.tmp rfl) .nil) (fun w2 hS => rFurrowQn z lz1 lz2 lz3 w2 hmz ⟨spansAt_row (hS.mem (b := gO) (by repeat (first | exact List.Mem.head _ | apply List.Mem.tail))) iO, spansAt_row (hS.mem (b := gW) (by repeat (first | exact List.Mem.head _ | apply List.Mem.tail))) iW, spansAt_row (hS.mem (b := gD) (by repeat (first | exact List.Mem.head _ | apply List.Mem.tail))) iD⟩ hvq)) ?_
              refine lstepB rfl rfl rfl (run_not (.tmp rfl) (by first | exact Bool.not_true | exact Bool.not_false | exact rfl)) ?_
              refine lnil ?_
              refine xw_then ?_
              refine cw_cond_true (.tmp rfl) ?_
              refine cw_exit ?_
              refine xw_then_exit ?_
              refine xw_in_exit ?_
              refine xw_then ?_
              refine cw_region ?_
              refine lstepB rfl rfl rfl (run_add (.tmp rfl) .const (by first | exact IntWalk.i64_in _ (by omega) | exact rfl)) ?_
              refine lstepB rfl rfl rfl (run_move (.tmp rfl)) ?_
              refine lnil ?_
              exact xw_round 3 (.inr (.inr (.inr rfl))) (by show 3 - 3 < 3 - 2; omega) (by repeat (first | exact Less.nil | refine Less.cons rfl ?_)) (by repeat (first | exact Pick.nil | (apply Pick.cons; focus (repeat (first | exact Del.here | apply Del.there)))))
            ·
              refine cw_skip ?_
              refine xw_then ?_
              refine cw_seq ?_
              refine cw_block ?_
              refine cw_seq ?_
              refine cw_region ?_
              refine lstepB rfl rfl rfl (run_move (.tmp rfl)) ?_
              refine lstepB rfl rfl rfl (run_indexAddr (i := 2) (off' := 6) (.tmp rfl) (.tmp rfl) el62 (by decide) rfl) ?_
              refine lstepB rfl rfl rfl (run_loadN (l := [.slice (some ⟨gO, 0, none⟩) f.offs.length cO, .slice (some ⟨gW, 0, none⟩) f.offs.length cW, .slice (some ⟨gD, 0, none⟩) f.offs.length cD]) (.tmp rfl) kd24 sz24 (by repeat (first | exact List.Mem.head _ | apply List.Mem.tail)) (by repeat (first | exact Sub.done | apply Sub.take | apply Sub.skip))) ?_
              refine lstep rfl rfl rfl (run_alloc zr24) ?_
              intro b30 _
              refine lstepB rfl rfl rfl (run_assign (.tmp rfl)) ?_
              refine lstep0 rfl rfl (run_storeN (.tmp rfl) (.tmp rfl) rfl sz24 rfl (by repeat (first | exact Upd.here | apply Upd.there)) (by repeat (first | exact Put.done | apply Put.put | apply Put.skip))) ?_
              refine lnil ?_
              refine xw_then ?_
              refine cw_seq ?_
              refine cw_seq ?_
              refine cw_region ?_
              refine lstepB rfl rfl rfl (run_loadN (.tmp rfl) kd24 sz24 (by repeat (first | exact List.Mem.head _ | apply List.Mem.tail)) (by repeat (first | exact Sub.done | apply Sub.take | apply Sub.skip))) ?_
              refine lstepB rfl rfl rfl (run_call1 cb35 (.cons (.tmp rfl) .nil) (fun w2 hS => rFurrowQn z lz1 lz2 lz3 w2 hmz ⟨spansAt_row (hS.mem (b := gO) (by repeat (first | exact List.Mem.head _ | apply List.Mem.tail))) iO, spansAt_row (hS.mem (b := gW) (by repeat (first | exact List.Mem.head _ | apply List.Mem.tail))) iW, spansAt_row (hS.mem (b := gD) (by repeat (first | exact List.Mem.head _ | apply List.Mem.tail))) iD⟩ hvq)) ?_
              refine lstepB rfl rfl rfl (run_not (.tmp rfl) (by first | exact Bool.not_true | exact Bool.not_false | exact rfl)) ?_
              refine lnil ?_
              refine xw_then ?_
              refine cw_cond_false (.tmp rfl) ?_
              have hbe := tz.bend hfine (validF hvq).fine
              obtain ⟨hsu, hca⟩ := rev_sets hv hvq rz
              have wz32 := worstN_small z.offs (k := z.offs.length - 2) (by omega)
              obtain ⟨v1, v2, ve, hv1, hv2, hv1l, hv2l, hvs⟩ : ∃ (v1 v2 : Nat) (ve : Int), wrongR f most = ((v1 : Int), ve) ∧ wrongR z most = ((v2 : Int), ve) ∧ v1 < 256 ∧ v2 < 256 ∧ sizeN v1 = sizeN v2 := rev_wrongR hvf hvq rz hn6 most
              obtain ⟨rfl, rfl⟩ : ws = (v1 : Int) ∧ we = ve := by rw [hws] at hv1; exact ⟨congrArg Prod.fst hv1, congrArg Prod.snd hv1⟩
              refine cw_skip ?_
              refine xw_then ?_
              refine cw_seq ?_
              refine cw_region ?_
              refine lstepB rfl rfl rfl (run_loadN (.tmp rfl) kd24 sz24 (by repeat (first | exact List.Mem.head _ | apply List.Mem.tail)) (by repeat (first | exact Sub.done | apply Sub.take | apply Sub.skip))) ?_
              refine lstepB rfl rfl rfl (run_call1 cb14 (.cons (.tmp rfl) .nil) (fun w2 hS => (bendQn z lz1 lz2 lz3 w2 hmz ⟨spansAt_row (hS.mem (b := gO) (by repeat (first | exact List.Mem.head _ | apply List.Mem.tail))) iO, spansAt_row (hS.mem (b := gW) (by repeat (first | exact List.Mem.head _ | apply List.Mem.tail))) iW, spansAt_row (hS.mem (b := gD) (by repeat (first | exact List.Mem.head _ | apply List.Mem.tail))) iD⟩ hvq).as (show _ = Value.tuple #[spanV (bendT f.offs), .int .i64 0] from by rw [hbe]))) ?_
              refine lstepB rfl rfl rfl (run_move (.tmp rfl)) ?_
              refine lstepB rfl rfl rfl (run_extract (.tmp rfl) rfl) ?_
              refine lstepB rfl rfl rfl (run_extract (.tmp rfl) rfl) ?_
              refine lstep rfl rfl rfl (run_alloc zr28) ?_
              intro b31 _
              refine lstep0 rfl rfl (run_storeN (.tmp rfl) (.tmp rfl) rfl sz28 rfl (by repeat (first | exact Upd.here | apply Upd.there)) (by repeat (first | exact Put.done | apply Put.put | apply Put.skip))) ?_
              refine lstepB rfl rfl rfl (run_assign (.tmp rfl)) ?_
              refine lnil ?_
              refine xw_then ?_
              refine cw_seq ?_
              refine cw_region ?_
              refine lstepB rfl rfl rfl (run_loadN (.tmp rfl) kd24 sz24 (by repeat (first | exact List.Mem.head _ | apply List.Mem.tail)) (by repeat (first | exact Sub.done | apply Sub.take | apply Sub.skip))) ?_
              refine lstepB rfl rfl rfl (run_call1 cb20 (.cons (.tmp rfl) .nil) (fun w2 hS => worstQn z lz1 lz2 lz3 w2 hmz ⟨spansAt_row (hS.mem (b := gO) (by repeat (first | exact List.Mem.head _ | apply List.Mem.tail))) iO, spansAt_row (hS.mem (b := gW) (by repeat (first | exact List.Mem.head _ | apply List.Mem.tail))) iW, spansAt_row (hS.mem (b := gD) (by repeat (first | exact List.Mem.head _ | apply List.Mem.tail))) iD⟩ hvq)) ?_
              refine lstepB rfl rfl rfl (run_move (.tmp rfl)) ?_
              refine lstepB rfl rfl rfl (run_extract (.tmp rfl) rfl) ?_
              refine lstepB rfl rfl rfl (run_extract (.tmp rfl) rfl) ?_
              refine lstepB rfl rfl rfl (run_extract (.tmp rfl) rfl) ?_
              refine lstepB rfl rfl rfl (run_assign (.tmp rfl)) ?_
              refine lstepB rfl rfl rfl (run_assign (.tmp rfl)) ?_
              refine lstepB rfl rfl rfl (run_assign (.tmp rfl)) ?_
              refine lnil ?_
              refine xw_then ?_
              refine cw_seq ?_
              refine cw_region ?_
              refine lstepB rfl rfl rfl (run_loadN (.tmp rfl) kd24 sz24 (by repeat (first | exact List.Mem.head _ | apply List.Mem.tail)) (by repeat (first | exact Sub.done | apply Sub.take | apply Sub.skip))) ?_
              refine lstep rfl rfl rfl (LR.runs (R := [(gO, Obj.cells rO.toArray 28 (0, 0)), (gW, Obj.cells rW.toArray 28 (0, 0)), (gD, Obj.cells rD.toArray 28 (0, 0))]) (A := []) (lr_gives cb18 (.cons (.tmp rfl) .nil) (fun w2 hS => straightQn z lz1 lz2 lz3 w2 hmz ⟨spansAt_row (hS.mem (b := gO) (by repeat (first | exact List.Mem.head _ | apply List.Mem.tail))) iO, spansAt_row (hS.mem (b := gW) (by repeat (first | exact List.Mem.head _ | apply List.Mem.tail))) iW, spansAt_row (hS.mem (b := gD) (by repeat (first | exact List.Mem.head _ | apply List.Mem.tail))) iD⟩ hvq)) (by repeat (first | exact Pick.nil | (apply Pick.cons; focus (repeat (first | exact Del.here | apply Del.there))))) (by repeat (first | exact Dels.nil | (apply Dels.cons; focus (repeat (first | exact Del.here | apply Del.there)))))) ?_
              intro ⟨gT, s2⟩ ⟨hs4, hs5, hs6⟩
              dsimp only at hs4 hs5 hs6 ⊢
              refine lstepB rfl rfl rfl (run_move (.tmp rfl)) ?_
              refine lstepB rfl rfl rfl (run_extract (.tmp rfl) rfl) ?_
              refine lstepB rfl rfl rfl (run_extract (.tmp rfl) rfl) ?_
              refine lstepB rfl rfl rfl (run_assign (.tmp rfl)) ?_
              refine lstepB rfl rfl rfl (run_assign (.tmp rfl)) ?_
              refine lnil ?_
              refine xw_then ?_
              refine cw_seq ?_
              refine cw_region ?_
              refine lstepB rfl rfl rfl (run_loadN (.tmp rfl) kd24 sz24 (by repeat (first | exact List.Mem.head _ | apply List.Mem.tail)) (by repeat (first | exact Sub.done | apply Sub.take | apply Sub.skip))) ?_
              refine lstepB rfl rfl rfl (run_move (.tmp rfl)) ?_
              refine lstepB rfl rfl rfl (run_call1 cb23 (.cons (.tmp rfl) (.cons (.tmp rfl) .nil)) (fun w2 hS => wrongQn z lz1 lz2 lz3 most w2 hmz ⟨spansAt_row (hS.mem (b := gO) (by repeat (first | exact List.Mem.head _ | apply List.Mem.tail))) iO, spansAt_row (hS.mem (b := gW) (by repeat (first | exact List.Mem.head _ | apply List.Mem.tail))) iW, spansAt_row (hS.mem (b := gD) (by repeat (first | exact List.Mem.head _ | apply List.Mem.tail))) iD⟩ hv2)) ?_
              refine lstepB rfl rfl rfl (run_move (.tmp rfl)) ?_
              refine lstepB rfl rfl rfl (run_extract (.tmp rfl) rfl) ?_
              refine lstepB rfl rfl rfl (run_extract (.tmp rfl) rfl) ?_
              refine lstepB rfl rfl rfl (run_assign (.tmp rfl)) ?_
              refine lstepB rfl rfl rfl (run_assign (.tmp rfl)) ?_
              refine lnil ?_
              refine xw_then ?_
              refine cw_seq ?_
              refine cw_region ?_
              refine lstepB rfl rfl rfl (run_loadN (.tmp rfl) kd24 sz24 (by repeat (first | exact List.Mem.head _ | apply List.Mem.tail)) (by repeat (first | exact Sub.done | apply Sub.take | apply Sub.skip))) ?_
              refine lstepB rfl rfl rfl (run_call1 cb27 (.cons (.tmp rfl) .nil) (fun w2 hS => (soilQn z lz1 lz2 lz3 w2 hmz ⟨spansAt_row (hS.mem (b := gO) (by repeat (first | exact List.Mem.head _ | apply List.Mem.tail))) iO, spansAt_row (hS.mem (b := gW) (by repeat (first | exact List.Mem.head _ | apply List.Mem.tail))) iW, spansAt_row (hS.mem (b := gD) (by repeat (first | exact List.Mem.head _ | apply List.Mem.tail))) iD⟩ hvq).as (show _ = Value.tuple #[spanV (soilS f), .int .i64 0] from by rw [sz]))) ?_
              refine lstepB rfl rfl rfl (run_move (.tmp rfl)) ?_
              refine lstepB rfl rfl rfl (run_extract (.tmp rfl) rfl) ?_
              refine lstepB rfl rfl rfl (run_extract (.tmp rfl) rfl) ?_
              refine lstep rfl rfl rfl (run_alloc zr28) ?_
              intro b40 _
              refine lstep0 rfl rfl (run_storeN (.tmp rfl) (.tmp rfl) rfl sz28 rfl (by repeat (first | exact Upd.here | apply Upd.there)) (by repeat (first | exact Put.done | apply Put.put | apply Put.skip))) ?_
              refine lstepB rfl rfl rfl (run_assign (.tmp rfl)) ?_
              refine lnil ?_
              refine xw_then ?_
              refine cw_seq ?_
              refine cw_seq ?_
              refine cw_region ?_
              refine lstepB rfl rfl rfl (run_move (.tmp rfl)) ?_
              refine lstepB rfl rfl rfl (run_eql (.tmp rfl) .const (decide_eq_true (by decide))) ?_
              refine lnil ?_
              refine xw_then ?_
              refine cw_cond_true (.tmp rfl) ?_
              refine cw_region ?_
              refine lstepB rfl rfl rfl (run_move (.tmp rfl)) ?_
              refine lstepB rfl rfl rfl (run_move (.tmp rfl)) ?_
              refine lstepB rfl rfl rfl (run_callv1 cb39 (.tmp rfl) (.cons (.tmp rfl) .nil) rfl (fun w2 hS => (turnK (sureN z.offs) f.offs.length b9 wz32.1 (by omega) w2 (own_cell0 (hS.mem (b := b9) (by repeat (first | exact List.Mem.head _ | apply List.Mem.tail))))).as (congrArg (fun n : Nat => Value.int .i64 (n : Int)) hsu))) ?_
              refine lstepB rfl rfl rfl (run_move (.tmp rfl)) ?_
              refine lstepB rfl rfl rfl (run_move (.tmp rfl)) ?_
              refine lstepB rfl rfl rfl (run_callv1 cb39 (.tmp rfl) (.cons (.tmp rfl) .nil) rfl (fun w2 hS => (turnK (canN z.offs) f.offs.length b9 wz32.2 (by omega) w2 (own_cell0 (hS.mem (b := b9) (by repeat (first | exact List.Mem.head _ | apply List.Mem.tail))))).as (congrArg (fun n : Nat => Value.int .i64 (n : Int)) hca))) ?_
              refine lstepB rfl rfl rfl (run_assign (.tmp rfl)) ?_
              refine lstepB rfl rfl rfl (run_assign (.tmp rfl)) ?_
              refine lnil ?_
              refine xw_then ?_
              refine cw_seq ?_
              refine cw_seq ?_
              refine cw_region ?_
              refine lstepB rfl rfl rfl (run_loadN (.tmp rfl) kd28 sz28 (by repeat (first | exact List.Mem.head _ | apply List.Mem.tail)) (by repeat (first | exact Sub.done | apply Sub.take | apply Sub.skip))) ?_
              refine lstepB rfl rfl rfl (run_loadN (.tmp rfl) kd28 sz28 (by repeat (first | exact List.Mem.head _ | apply List.Mem.tail)) (by repeat (first | exact Sub.done | apply Sub.take | apply Sub.skip))) ?_
              refine lstepB rfl rfl rfl (run_eql_agg (.tmp rfl) (.tmp rfl) eg28 (neq28 (r := false) (by simp))) ?_
              refine lstepB rfl rfl rfl (run_move (.tmp rfl)) ?_
              refine lyes rfl rfl rfl rfl ?_
              refine gstepB rfl rfl (run_move (.tmp rfl)) ?_
              refine lyes rfl rfl rfl rfl ?_
              refine gstepB rfl rfl (run_move (.tmp rfl)) ?_
              refine lyes rfl rfl rfl rfl ?_
              refine gstepB rfl rfl (run_neq (.tmp rfl) (.tmp rfl) (decide_eq_false (fun h => h rfl))) ?_
              refine lstepB rfl rfl rfl (by first | exact run_pick_true (.tmp rfl) .const | exact run_pick_false (.tmp rfl) (.tmp rfl)) ?_
              refine lstepB rfl rfl rfl (run_move (.tmp rfl)) ?_
              refine lyes rfl rfl rfl rfl ?_
              refine gstepB rfl rfl (run_move (.tmp rfl)) ?_
              refine lyes rfl rfl rfl rfl ?_
              refine gstepB rfl rfl (run_move (.tmp rfl)) ?_
              refine lyes rfl rfl rfl rfl ?_
              refine gstepB rfl rfl (run_neq (.tmp rfl) (.tmp rfl) (decide_eq_false (fun h => h rfl))) ?_
              refine lstepB rfl rfl rfl (by first | exact run_pick_true (.tmp rfl) .const | exact run_pick_false (.tmp rfl) (.tmp rfl)) ?_
              refine lstepB rfl rfl rfl (run_move (.tmp rfl)) ?_
              refine lyes rfl rfl rfl rfl ?_
              refine gstepB rfl rfl (run_move (.tmp rfl)) ?_
              refine lyes rfl rfl rfl rfl ?_
              refine gstepB rfl rfl (run_move (.tmp rfl)) ?_
              refine lyes rfl rfl rfl rfl ?_
              refine gstepB rfl rfl (run_neq (.tmp rfl) (.tmp rfl) (decide_eq_false (fun h => h rfl))) ?_
              refine lstepB rfl rfl rfl (by first | exact run_pick_true (.tmp rfl) .const | exact run_pick_false (.tmp rfl) (.tmp rfl)) ?_
              refine lstepB rfl rfl rfl (run_move (.tmp rfl)) ?_
              refine lyes rfl rfl rfl rfl ?_
              refine gstepB rfl rfl (run_move (.tmp rfl)) ?_
              refine lyes rfl rfl rfl rfl ?_
              refine gstepB rfl rfl (run_move (.tmp rfl)) ?_
              refine lyes rfl rfl rfl rfl ?_
              refine gstepB rfl rfl (run_neq (.tmp rfl) (.tmp rfl) (decide_eq_false (fun h => h rfl))) ?_
              refine lstepB rfl rfl rfl (by first | exact run_pick_true (.tmp rfl) .const | exact run_pick_false (.tmp rfl) (.tmp rfl)) ?_
              refine lstepB rfl rfl rfl (run_move (.tmp rfl)) ?_
              refine lyes rfl rfl rfl rfl ?_
              refine gstepB rfl rfl (run_move (.tmp rfl)) ?_
              refine lyes rfl rfl rfl rfl ?_
              refine gstepB rfl rfl (run_move (.tmp rfl)) ?_
              refine lyes rfl rfl rfl rfl ?_
              refine gstepB rfl rfl (run_neq (.tmp rfl) (.tmp rfl) (decide_eq_false (fun h => h rfl))) ?_
              refine lstepB rfl rfl rfl (by first | exact run_pick_true (.tmp rfl) .const | exact run_pick_false (.tmp rfl) (.tmp rfl)) ?_
              refine lstepB rfl rfl rfl (run_move (.tmp rfl)) ?_
              refine lyes rfl rfl rfl rfl ?_
              refine gstepB rfl rfl (run_move (.tmp rfl)) ?_
              refine lyes rfl rfl rfl rfl ?_
              refine gstepB rfl rfl (run_call1 cb32 (.cons (.tmp rfl) .nil) (fun w2 hS => rmostKn s2 hs4 (by omega) hs5 (hs6.trans (by rw [hbe])) _ _ w2 (intsAt_cells (hS.mem (b := gT) (by repeat (first | exact List.Mem.head _ | apply List.Mem.tail)))))) ?_
              refine lyes rfl rfl rfl rfl ?_
              refine gstepB rfl rfl (run_move (.tmp rfl)) ?_
              refine lyes rfl rfl rfl rfl ?_
              refine gstepB rfl rfl (run_call1 cb32 (.cons (.tmp rfl) .nil) (fun w2 hS => rmostKn s1 hs1 (by omega) hs2 hs3 _ _ w2 (intsAt_cells (hS.mem (b := gS) (by repeat (first | exact List.Mem.head _ | apply List.Mem.tail)))))) ?_
              refine lyes rfl rfl rfl rfl ?_
              refine gstepB rfl rfl (run_neq (.tmp rfl) (.tmp rfl) (decide_eq_false (fun h => h rfl))) ?_
              refine lstepB rfl rfl rfl (by first | exact run_pick_true (.tmp rfl) .const | exact run_pick_false (.tmp rfl) (.tmp rfl)) ?_
              refine lstepB rfl rfl rfl (run_move (.tmp rfl)) ?_
              refine lyes rfl rfl rfl rfl ?_
              refine gstepB rfl rfl (run_loadN (.tmp rfl) kd28 sz28 (by repeat (first | exact List.Mem.head _ | apply List.Mem.tail)) (by repeat (first | exact Sub.done | apply Sub.take | apply Sub.skip))) ?_
              refine lyes rfl rfl rfl rfl ?_
              refine gstepB rfl rfl (run_loadN (.tmp rfl) kd28 sz28 (by repeat (first | exact List.Mem.head _ | apply List.Mem.tail)) (by repeat (first | exact Sub.done | apply Sub.take | apply Sub.skip))) ?_
              refine lyes rfl rfl rfl rfl ?_
              refine gstepB rfl rfl (run_eql_agg (.tmp rfl) (.tmp rfl) eg28 (neq28 (r := false) (by simp))) ?_
              refine lstepB rfl rfl rfl (by first | exact run_pick_true (.tmp rfl) .const | exact run_pick_false (.tmp rfl) (.tmp rfl)) ?_
              refine lstepB rfl rfl rfl (run_move (.tmp rfl)) ?_
              refine lyes rfl rfl rfl rfl ?_
              refine gstepB rfl rfl (run_move (.tmp rfl)) ?_
              refine lyes rfl rfl rfl rfl ?_
              refine gstepB rfl rfl (run_move (.tmp rfl)) ?_
              refine lyes rfl rfl rfl rfl ?_
              refine gstepB rfl rfl (run_neq (.tmp rfl) (.tmp rfl) (decide_eq_false (fun h => h rfl))) ?_
              refine lstepB rfl rfl rfl (by first | exact run_pick_true (.tmp rfl) .const | exact run_pick_false (.tmp rfl) (.tmp rfl)) ?_
              refine lstepB rfl rfl rfl (run_move (.tmp rfl)) ?_
              refine lyes rfl rfl rfl rfl ?_
              refine gstepB rfl rfl (run_move (.tmp rfl)) ?_
              refine lyes rfl rfl rfl rfl ?_
              refine gstepB rfl rfl (run_move (.tmp rfl)) ?_
              refine lyes rfl rfl rfl rfl ?_
              refine gstepB rfl rfl (run_neq (.tmp rfl) (.tmp rfl) (decide_eq_false (fun h => h rfl))) ?_
              refine lstepB rfl rfl rfl (by first | exact run_pick_true (.tmp rfl) .const | exact run_pick_false (.tmp rfl) (.tmp rfl)) ?_
              refine lnil ?_
              refine xw_then ?_
              refine cw_cond_false (.tmp rfl) ?_
              refine cw_skip ?_
              refine xw_then ?_
              refine cw_seq ?_
              refine cw_seq ?_
              refine cw_region ?_
              refine lstepB rfl rfl rfl (run_move (.tmp rfl)) ?_
              refine lstepB rfl rfl rfl (run_eql (.tmp rfl) .const (decide_eq_false (by decide))) ?_
              refine lstepB rfl rfl rfl (run_move (.tmp rfl)) ?_
              refine lskip rfl rfl rfl rfl rfl rfl rfl ?_
              refine lskip rfl rfl rfl rfl rfl rfl rfl ?_
              refine lskip rfl rfl rfl rfl rfl rfl rfl ?_
              refine lstepB rfl rfl rfl (by first | exact run_pick_true (.tmp rfl) (.tmp rfl) | exact run_pick_false (.tmp rfl) .const) ?_
              refine lstepB rfl rfl rfl (run_move (.tmp rfl)) ?_
              refine lyes rfl rfl rfl rfl ?_
              refine gstepB rfl rfl (run_move (.tmp rfl)) ?_
              refine lyes rfl rfl rfl rfl ?_
              refine gstepB rfl rfl (run_eql (.tmp rfl) .const (decide_eq_true (by decide))) ?_
              refine lyes rfl rfl rfl rfl ?_
              refine gstepB rfl rfl (run_move (.tmp rfl)) ?_
              refine lyes rfl rfl rfl rfl ?_
              refine gstepB rfl rfl (run_move (.tmp rfl)) ?_
              refine lyes rfl rfl rfl rfl ?_
              refine gstepB rfl rfl (run_lss (.tmp rfl) .const (decide_eq_false (Int.not_lt.2 (Int.natCast_nonneg _)))) ?_
              refine lyes rfl rfl rfl rfl ?_
              refine gstepB rfl rfl (run_move (.tmp rfl)) ?_
              refine lyes rfl rfl rfl rfl ?_
              refine gstepB rfl rfl (run_move (.tmp rfl)) ?_
              refine lyes rfl rfl rfl rfl ?_
              refine gstepB rfl rfl (run_lss (.tmp rfl) .const (decide_eq_false (Int.not_lt.2 (Int.natCast_nonneg _)))) ?_
              refine lyes rfl rfl rfl rfl ?_
              refine gstepB rfl rfl (by first | exact run_pick_true (.tmp rfl) .const | exact run_pick_false (.tmp rfl) (.tmp rfl)) ?_
              refine lyes rfl rfl rfl rfl ?_
              refine gstepB rfl rfl (run_move (.tmp rfl)) ?_
              refine lyes rfl rfl rfl rfl ?_
              refine gstepB rfl rfl (run_move (.tmp rfl)) ?_
              refine lyes rfl rfl rfl rfl ?_
              refine gstepB rfl rfl (run_call1 cb36 (.cons (.tmp rfl) .nil) (fun w2 _ => sizeK v2 hv2l w2)) ?_
              refine lyes rfl rfl rfl rfl ?_
              refine gstepB rfl rfl (run_move (.tmp rfl)) ?_
              refine lyes rfl rfl rfl rfl ?_
              refine gstepB rfl rfl (run_call1 cb36 (.cons (.tmp rfl) .nil) (fun w2 _ => sizeK v1 hv1l w2)) ?_
              refine lyes rfl rfl rfl rfl ?_
              refine gstepB rfl rfl (run_neq (.tmp rfl) (.tmp rfl) (decide_eq_false (fun h => h (by rw [hvs])))) ?_
              refine lyes rfl rfl rfl rfl ?_
              refine gstepB rfl rfl (by first | exact run_pick_true (.tmp rfl) .const | exact run_pick_false (.tmp rfl) (.tmp rfl)) ?_
              refine lyes rfl rfl rfl rfl ?_
              refine gstepB rfl rfl (by first | exact run_pick_true (.tmp rfl) (.tmp rfl) | exact run_pick_false (.tmp rfl) .const) ?_
              refine lstepB rfl rfl rfl (by first | exact run_pick_true (.tmp rfl) .const | exact run_pick_false (.tmp rfl) (.tmp rfl)) ?_
              refine lnil ?_
              refine xw_then ?_
              refine cw_cond_false (.tmp rfl) ?_
              refine cw_skip ?_
              refine xw_then ?_
              refine cw_seq ?_
              refine cw_region ?_
              refine lstepB rfl rfl rfl (run_load1 (.tmp rfl) kd3 (by repeat (first | exact List.Mem.head _ | apply List.Mem.tail)) (by exact rfl)) ?_
              refine lstepB rfl rfl rfl (run_move .const) ?_
              refine lnil ?_
              refine xw_then ?_
              refine cw_block ?_
              refine cw_loop (S := Nat) (fun j => [(333, .int .i64 (j : Int))]) [(1, _), (4, _), (9, _), (16, _), (17, _), (18, _), (19, _), (20, _), (21, _), (22, _), (23, _), (24, _), (25, _), (26, _), (27, _), (28, _), (29, _), (30, _), (211, _), (212, _), (213, _), (332, _)] (fun j => (gX, Obj.cells rX.toArray 28 (0, 0)) :: (gY, Obj.cells rY.toArray 28 (0, 0)) :: (gO, Obj.cells rO.toArray 28 (0, 0)) :: (gW, Obj.cells rW.toArray 28 (0, 0)) :: (gD, Obj.cells rD.toArray 28 (0, 0)) :: (gK, Obj.cells rK.toArray 28 (0, 0)) :: (gS, Obj.cells (intsV s1).toArray 3 (0, 0)) :: (b211, Obj.cells [.slice (some ⟨gX, 0, none⟩) f.offs.length cX, .slice wa f.wids.length wc, .slice da f.deps.length dc, .slice (some ⟨gY, 0, none⟩) f.offs.length cY, .slice wa f.wids.length wc, .slice da f.deps.length dc, .slice (some ⟨gO, 0, none⟩) f.offs.length cO, .slice (some ⟨gW, 0, none⟩) f.offs.length cW, .slice (some ⟨gD, 0, none⟩) f.offs.length cD].toArray 24 (0, 0)) :: (b18, Obj.cells (spanC (bendT f.offs)).toArray 28 (0, 0)) :: (b27, Obj.cells (spanC (soilS f)).toArray 28 (0, 0)) :: (b9, Obj.cells [.int .i64 (f.offs.length : Int)].toArray 3 (0, 0)) :: (b4, Obj.cells (furrowC f (some ⟨bo, oo, none⟩) wa da oc wc dc).toArray 24 (0, 0)) :: (b30, Obj.cells [.slice (some ⟨gO, 0, none⟩) f.offs.length cO, .slice (some ⟨gW, 0, none⟩) f.offs.length cW, .slice (some ⟨gD, 0, none⟩) f.offs.length cD].toArray 24 (0, 0)) :: []) (fun j => j ≤ f.offs.length) (fun j => f.offs.length - j) 0 (Nat.zero_le _) (by repeat (first | exact Less.nil | refine Less.cons rfl ?_)) (by repeat (first | exact Pick.nil | (apply Pick.cons; focus (repeat (first | exact Del.here | apply Del.there))))) ?_
              intro j hj
              refine cw_seq ?_
              refine cw_region ?_
              refine lstepB rfl rfl rfl (run_lss (.tmp rfl) (.tmp rfl) rfl) ?_
              refine lnil ?_
              refine xw_then ?_
              refine cw_seq ?_
              refine cw_cond_p (.tmp rfl) (fun hl4 => ?_) (fun hl4 => ?_)
              ·
                have hjn : j < f.offs.length := by omega
                obtain ⟨as_, ae, hat⟩ : ∃ as_ ae, atR f (j : Int) = (as_, ae) := ⟨_, _, rfl⟩
                have hat2 : atR z ((f.offs.length - 1 - j : Nat) : Int) = (as_, ae) := by rw [← hat]; exact at_same hv hvq tz (fun _ => rfl) (fun h => by have := tz.len; unfold Inner at h ⊢; omega)
                refine cw_skip ?_
                refine xw_then ?_
                refine cw_seq ?_
                refine cw_block ?_
                refine cw_seq ?_
                refine cw_region ?_
                refine lstepB rfl rfl rfl (run_move (.tmp rfl)) ?_
                refine lstepB rfl rfl rfl (run_assign (.tmp rfl)) ?_
                refine lnil ?_
                refine xw_then ?_
                refine cw_seq ?_
                refine cw_region ?_
                refine lstepB rfl rfl rfl (run_loadN (.tmp rfl) kd24 sz24 (by repeat (first | exact List.Mem.head _ | apply List.Mem.tail)) (by repeat (first | exact Sub.done | apply Sub.take | apply Sub.skip))) ?_
                refine lstepB rfl rfl rfl (run_move (.tmp rfl)) ?_
                refine lstepB rfl rfl rfl (run_call1 cb16 (.cons (.tmp rfl) (.cons (.tmp rfl) .nil)) (fun w2 hS => atQn2 f rfl rfl rfl (j : Int) w2 hm (hf.kept hS.kept) hat)) ?_
                refine lstepB rfl rfl rfl (run_move (.tmp rfl)) ?_
                refine lstepB rfl rfl rfl (run_extract (.tmp rfl) rfl) ?_
                refine lstepB rfl rfl rfl (run_extract (.tmp rfl) rfl) ?_
                refine lstep rfl rfl rfl (run_alloc zr28) ?_
                intro b43 _
                refine lstep0 rfl rfl (run_storeN (.tmp rfl) (.tmp rfl) rfl sz28 rfl (by repeat (first | exact Upd.here | apply Upd.there)) (by repeat (first | exact Put.done | apply Put.put | apply Put.skip))) ?_
                refine lstepB rfl rfl rfl (run_assign (.tmp rfl)) ?_
                refine lnil ?_
                refine xw_then ?_
                refine cw_seq ?_
                refine cw_region ?_
                refine lstepB rfl rfl rfl (run_move (.tmp rfl)) ?_
                refine lstepB rfl rfl rfl (run_assign (.tmp rfl)) ?_
                refine lnil ?_
                refine xw_then ?_
                refine cw_seq ?_
                refine cw_seq ?_
                refine cw_region ?_
                refine lstepB rfl rfl rfl (run_move (.tmp rfl)) ?_
                refine lstepB rfl rfl rfl (run_eql (.tmp rfl) .const (decide_eq_true (by decide))) ?_
                refine lnil ?_
                refine xw_then ?_
                refine cw_cond_true (.tmp rfl) ?_
                refine cw_region ?_
                refine lstepB rfl rfl rfl (run_load1 (.tmp rfl) kd3 (by repeat (first | exact List.Mem.head _ | apply List.Mem.tail)) (by exact rfl)) ?_
                refine lstepB rfl rfl rfl (run_sub (.tmp rfl) .const (by first | exact IntWalk.i64_in _ (by omega) | exact rfl)) ?_
                refine lstepB rfl rfl rfl (run_move (.tmp rfl)) ?_
                refine lstepB rfl rfl rfl (run_sub (c := ((f.offs.length - 1 - j : Nat) : Int)) (.tmp rfl) (.tmp rfl) (by rw [show (f.offs.length : Int) - 1 - (j : Int) = ((f.offs.length - 1 - j : Nat) : Int) by omega]; exact IntWalk.i64_in _ (by omega))) ?_
                refine lstepB rfl rfl rfl (run_assign (.tmp rfl)) ?_
                refine lnil ?_
                refine xw_then ?_
                refine cw_seq ?_
                refine cw_region ?_
                refine lstepB rfl rfl rfl (run_loadN (.tmp rfl) kd24 sz24 (by repeat (first | exact List.Mem.head _ | apply List.Mem.tail)) (by repeat (first | exact Sub.done | apply Sub.take | apply Sub.skip))) ?_
                refine lstepB rfl rfl rfl (run_move (.tmp rfl)) ?_
                refine lstepB rfl rfl rfl (run_call1 cb16 (.cons (.tmp rfl) (.cons (.tmp rfl) .nil)) (fun w2 hS => atQn2 z lz1 lz2 lz3 ((f.offs.length - 1 - j : Nat) : Int) w2 hmz ⟨spansAt_row (hS.mem (b := gO) (by repeat (first | exact List.Mem.head _ | apply List.Mem.tail))) iO, spansAt_row (hS.mem (b := gW) (by repeat (first | exact List.Mem.head _ | apply List.Mem.tail))) iW, spansAt_row (hS.mem (b := gD) (by repeat (first | exact List.Mem.head _ | apply List.Mem.tail))) iD⟩ hat2)) ?_
                refine lstepB rfl rfl rfl (run_move (.tmp rfl)) ?_
                refine lstepB rfl rfl rfl (run_extract (.tmp rfl) rfl) ?_
                refine lstepB rfl rfl rfl (run_extract (.tmp rfl) rfl) ?_
                refine lstep rfl rfl rfl (run_alloc zr28) ?_
                intro b46 _
                refine lstep0 rfl rfl (run_storeN (.tmp rfl) (.tmp rfl) rfl sz28 rfl (by repeat (first | exact Upd.here | apply Upd.there)) (by repeat (first | exact Put.done | apply Put.put | apply Put.skip))) ?_
                refine lstepB rfl rfl rfl (run_assign (.tmp rfl)) ?_
                refine lnil ?_
                refine xw_then ?_
                refine cw_seq ?_
                refine cw_region ?_
                refine lstepB rfl rfl rfl (run_loadN (.tmp rfl) kd28 sz28 (by repeat (first | exact List.Mem.head _ | apply List.Mem.tail)) (by repeat (first | exact Sub.done | apply Sub.take | apply Sub.skip))) ?_
                refine lstepB rfl rfl rfl (run_loadN (.tmp rfl) kd28 sz28 (by repeat (first | exact List.Mem.head _ | apply List.Mem.tail)) (by repeat (first | exact Sub.done | apply Sub.take | apply Sub.skip))) ?_
                refine lstepB rfl rfl rfl (run_eql_agg (.tmp rfl) (.tmp rfl) eg28 (neq28 (r := false) (by simp))) ?_
                refine lstepB rfl rfl rfl (run_move (.tmp rfl)) ?_
                refine lyes rfl rfl rfl rfl ?_
                refine gstepB rfl rfl (run_move (.tmp rfl)) ?_
                refine lyes rfl rfl rfl rfl ?_
                refine gstepB rfl rfl (run_move (.tmp rfl)) ?_
                refine lyes rfl rfl rfl rfl ?_
                refine gstepB rfl rfl (run_neq (.tmp rfl) (.tmp rfl) (decide_eq_false (fun h => h rfl))) ?_
                refine lstepB rfl rfl rfl (by first | exact run_pick_true (.tmp rfl) .const | exact run_pick_false (.tmp rfl) (.tmp rfl)) ?_
                refine lnil ?_
                refine xw_then ?_
                refine cw_cond_false (.tmp rfl) ?_
                refine cw_skip ?_
                refine xw_in ?_
                refine xw_then ?_
                refine cw_region ?_
                refine lstepB rfl rfl rfl (run_add (.tmp rfl) .const (by first | exact IntWalk.i64_in _ (by omega) | exact rfl)) ?_
                refine lstepB rfl rfl rfl (run_move (.tmp rfl)) ?_
                refine lnil ?_
                exact xw_round (j + 1) (by show j + 1 ≤ _; omega) (by show f.offs.length - (j + 1) < f.offs.length - j; omega) (by repeat (first | exact Less.nil | refine Less.cons rfl ?_)) (by repeat (first | exact Pick.nil | (apply Pick.cons; focus (repeat (first | exact Del.here | apply Del.there)))))
              ·
                refine cw_exit ?_
                refine xw_then_exit ?_
                refine xw_then_exit ?_
                refine xw_in_exit ?_
                refine xw_in ?_
                refine xw_then ?_
                refine cw_region ?_
                refine lstepB rfl rfl rfl (run_add (.tmp rfl) .const (by first | exact IntWalk.i64_in _ (by omega) | exact rfl)) ?_
                refine lstepB rfl rfl rfl (run_move (.tmp rfl)) ?_
                refine lnil ?_
                exact xw_round 3 (.inr (.inr (.inr rfl))) (by show 3 - 3 < 3 - 2; omega) (by repeat (first | exact Less.nil | refine Less.cons rfl ?_)) (by repeat (first | exact Pick.nil | (apply Pick.cons; focus (repeat (first | exact Del.here | apply Del.there)))))
          · as_aux_lemma =>
            refine cw_seq ?_
            refine cw_region ?_
            refine lstepB rfl rfl rfl (run_lss (.tmp rfl) (.tmp rfl) (decide_eq_false (by decide))) ?_
            refine lnil ?_
            refine xw_then ?_
            refine cw_seq ?_
            refine cw_cond_false (.tmp rfl) ?_
            refine cw_exit ?_
            refine xw_then_exit ?_
            refine xw_then_exit ?_
            refine xw_in_exit ?_
            refine xw_then ?_
            refine cw_seq ?_
            refine cw_seq ?_
            refine cw_region ?_
            refine lstepB rfl rfl rfl (run_move (.tmp rfl)) ?_
            refine lstepB rfl rfl rfl (run_len (.tmp rfl) sl22) ?_
            refine lstepB rfl rfl rfl (run_move .const) ?_
            refine lnil ?_
            refine xw_then ?_
            refine cw_block ?_
            refine cw_loop (S := Nat) (fun j => [(367, .int .i64 (j : Int))]) [(4, _), (16, _), (365, _), (366, _)] (fun j => (gK, Obj.cells rK.toArray 28 (0, 0)) :: (b4, Obj.cells (furrowC f (some ⟨bo, oo, none⟩) wa da oc wc dc).toArray 24 (0, 0)) :: []) (fun j => j ≤ f.offs.length) (fun j => f.offs.length - j) 0 (Nat.zero_le _) (by repeat (first | exact Less.nil | refine Less.cons rfl ?_)) (by repeat (first | exact Pick.nil | (apply Pick.cons; focus (repeat (first | exact Del.here | apply Del.there))))) ?_
            intro j hj
            refine cw_seq ?_
            refine cw_region ?_
            refine lstepB rfl rfl rfl (run_lss (.tmp rfl) (.tmp rfl) rfl) ?_
            refine lnil ?_
            refine xw_then ?_
            refine cw_seq ?_
            refine cw_cond_p (.tmp rfl) (fun hl6 => ?_) (fun hl6 => ?_)
            ·
              have hjn : j < f.offs.length := by omega
              have hKc : f.offs.length ≤ cK := hK.1
              obtain ⟨sp, hsp⟩ : ∃ sp, sp = f.offs.getD j default := ⟨_, rfl⟩
              have hsk : f.offs[j]? = some sp := by rw [hsp]; exact getD_some hjn
              refine cw_skip ?_
              refine xw_then ?_
              refine cw_seq ?_
              refine cw_block ?_
              refine cw_seq ?_
              refine cw_region ?_
              refine lstepB rfl rfl rfl (run_move (.tmp rfl)) ?_
              refine lstepB rfl rfl rfl (run_assign (.tmp rfl)) ?_
              refine lnil ?_
              refine xw_then ?_
              refine cw_seq ?_
              refine cw_chain2 (σ := [0, 1, 2, 3, 4, 5, 6, 7, 8, 9]) [⟨0, [], [], [], 0⟩, ⟨0, [], [], [], 0⟩, ⟨0, [], [], [], 3⟩, ⟨0, [0], [], [], 7⟩, ⟨0, [], [], [], 0⟩, ⟨0, [1], [], [], 16⟩, ⟨0, [], [], [], 0⟩, ⟨0, [], [], [], 112⟩, ⟨0, [], [], [], 240⟩, ⟨0, [], [], [], 511⟩] [(0, _), (1, _)] (by kernel_rfl) (by kernel_rfl) rfl ?_
              refine .det (B := []) rfl rfl (.inl rfl) .nil .nil rfl (RunB.lr (run_move (.tmp rfl))) ?_
              refine .det (B := []) rfl rfl (.inl rfl) .nil .nil rfl (RunB.lr (run_move (.tmp rfl))) ?_
              refine .det (B := []) rfl rfl (.inl rfl) .nil .nil rfl (RunB.lr (run_indexAddr (i := j) (off' := j * 2) (.tmp rfl) (.tmp rfl) el22 (by omega) (Nat.zero_add _))) ?_
              refine .det (B := []) rfl rfl (.inl rfl) (.cons rfl .nil) .nil rfl (RunB.lr (run_loadN_at (l := spanC sp) (.tmp rfl) kd28 sz28 rfl (fun w' hS => span_cell (hS.mem (b := gK) (by repeat (first | exact List.Mem.head _ | apply List.Mem.tail))) hK hsk))) ?_
              refine .det (B := []) rfl rfl (.inl rfl) .nil .nil rfl (RunB.lr (run_fieldAddr (.tmp rfl) fa24_0 (by first | exact Nat.zero_add _ | exact rfl))) ?_
              refine .det (B := []) rfl rfl (.inl rfl) (.cons rfl .nil) .nil rfl (RunB.lr (run_load1 (.tmp rfl) kd22 (by repeat (first | exact List.Mem.head _ | apply List.Mem.tail)) (by exact rfl))) ?_
              refine .det (B := []) rfl rfl (.inl rfl) .nil .nil rfl (RunB.lr (run_move (.tmp rfl))) ?_
              refine .det (B := []) rfl rfl (.inl rfl) .nil .nil rfl (RunB.lr (run_indexAddr (i := j) (off' := oo + j * 2) (.tmp rfl) (.tmp rfl) el22 (by omega) rfl)) ?_
              refine .det (B := []) rfl rfl (.inl rfl) .nil .nil rfl (RunB.lr (run_loadN_at (l := spanC sp) (.tmp rfl) kd28 sz28 rfl (fun w' hS u v hj => hS.old_cell (fun h => h) (hco j sp hsk u v hj)))) ?_
              refine .det (B := []) rfl rfl (.inl rfl) .nil .nil rfl (RunB.lr (run_eql_agg (.tmp rfl) (.tmp rfl) eg28 (neq28 (r := false) (by simp)))) ?_
              refine chain_nil (ts := [0, 1]) (.cons rfl (.cons rfl .nil)) (by decide) ?_
              refine xw_then ?_
              refine cw_cond_false (.tmp rfl) ?_
              refine cw_skip ?_
              refine xw_in ?_
              refine xw_then ?_
              refine cw_region ?_
              refine lstepB rfl rfl rfl (run_add (.tmp rfl) .const (by first | exact IntWalk.i64_in _ (by omega) | exact rfl)) ?_
              refine lstepB rfl rfl rfl (run_move (.tmp rfl)) ?_
              refine lnil ?_
              exact xw_round (j + 1) (by show j + 1 ≤ _; omega) (by show f.offs.length - (j + 1) < f.offs.length - j; omega) (by repeat (first | exact Less.nil | refine Less.cons rfl ?_)) (by repeat (first | exact Pick.nil | (apply Pick.cons; focus (repeat (first | exact Del.here | apply Del.there)))))
            ·
              refine cw_exit ?_
              refine xw_then_exit ?_
              refine xw_then_exit ?_
              refine xw_in_exit ?_
              refine xw_then ?_
              refine cw_seq ?_
              refine cw_region ?_
              refine lstepB rfl rfl rfl (run_call1 cb13 .nil (fun w _ => aliveK w)) ?_
              refine lstepB rfl rfl rfl (run_assign (.tmp rfl)) ?_
              refine lnil ?_
              refine xw_then ?_
              refine cw_ret ?_
              refine xw_ret1 Try.results11 rfl (fun w hS => ⟨rfl, hS.kept⟩)
  ·
    refine .mk <| enter (n := 382) Try.func11 rfl rfl rfl (by repeat (first | exact Fill.nil | apply Fill.cons)) ?_
    refine cw_seq ?_
    refine cw_region ?_
    refine lstep rfl rfl rfl (run_boxN (.tmp rfl)) ?_
    intro b4 _
    refine lstepB rfl rfl rfl (run_assign .const) ?_
    refine lnil ?_
    refine xw_then ?_
    refine cw_seq ?_
    refine cw_seq ?_
    refine cw_region ?_
    refine lstepB rfl rfl rfl (run_loadN (.tmp rfl) kd24 sz24 (by repeat (first | exact List.Mem.head _ | apply List.Mem.tail)) (by repeat (first | exact Sub.done | apply Sub.take | apply Sub.skip))) ?_
    refine lstepB rfl rfl rfl (run_call1 cb12 (.cons (.tmp rfl) (.cons .const (.cons .const .nil))) (fun w2 hS => (heavyK f _ _ _ oc wc dc 6 6 w2 hbnd (hf.kept hS.kept)).as (congrArg Value.bool hh))) ?_
    refine lstepB rfl rfl rfl (run_move (.tmp rfl)) ?_
    refine lskip rfl rfl rfl rfl rfl rfl rfl ?_
    refine lskip rfl rfl rfl rfl rfl rfl rfl ?_
    refine lskip rfl rfl rfl rfl rfl rfl rfl ?_
    refine lstepB rfl rfl rfl (by first | exact run_pick_true (.tmp rfl) .const | exact run_pick_false (.tmp rfl) (.tmp rfl)) ?_
    refine lnil ?_
    refine xw_then ?_
    refine cw_cond_true (.tmp rfl) ?_
    refine cw_seq ?_
    refine cw_region ?_
    refine lstepB rfl rfl rfl (run_call1 cb13 .nil (fun w _ => aliveK w)) ?_
    refine lstepB rfl rfl rfl (run_assign (.tmp rfl)) ?_
    refine lnil ?_
    refine xw_then ?_
    refine cw_ret ?_
    refine xw_then_ret ?_
    refine xw_ret1 Try.results11 rfl (fun w hS => ⟨rfl, hS.kept⟩)
end Go.Proofs.Ytjdeplehhmhpcaa
