/- Package furrow: what its questions find. -/
import Derived.Test.YtjdeplehhmhpcaaFV
namespace Go.Proofs.Ytjdeplehhmhpcaa
open Go.RowKit En

theorem rowsAt_old {w0 w : World} {T : Nat → Prop} {H : Heap} {a : Option Addr} {m : Nat} {L : List (List Value)} (h : RowsAt w0 a m L) (hS : St w0 T H w) (hT : ∀ b o, a = some ⟨b, o, none⟩ → ¬ T b) : RowsAt w a m L := fun i r hi => by
  obtain ⟨b, o, rfl, hlt, hc⟩ := h i r hi
  exact ⟨b, o, rfl, Nat.lt_of_lt_of_le hlt hS.size, fun j v hj => hS.old_cell (hT b o rfl) (hc j v hj)⟩
structure ValidF (f : FurrowD) : Prop where
  len : f.offs.length ≤ 8
  wids : f.wids.length = f.offs.length
  deps : f.deps.length = f.offs.length
  all : ∀ k, k < f.offs.length → okN f k = true
theorem validF {f : FurrowD} (h : validB f = true) : ValidF f := by
  simp only [validB, Bool.and_eq_true, Bool.not_eq_true', decide_eq_false_iff_not] at h
  obtain ⟨⟨⟨h1, h2⟩, h3⟩, h4⟩ := h
  exact ⟨by omega, by omega, by omega, fun k hk => List.all_eq_true.1 h4 k (List.mem_range.2 hk)⟩
theorem okSt_iff {o d e : SpanD} (h : okSt o d e = true) : (-12 ≤ o.lo ∧ o.lo ≤ o.hi ∧ o.hi ≤ 12 ∧ o.hi - o.lo ≤ 6) ∧ (1 ≤ d.lo ∧ d.lo ≤ d.hi ∧ d.hi ≤ 60) ∧ 0 ≤ e.lo ∧ e.lo ≤ e.hi ∧ e.hi ≤ 40 := by
  simp only [okSt, Bool.and_eq_true, Bool.not_eq_true', decide_eq_false_iff_not] at h
  obtain ⟨⟨⟨h1, h2⟩, h3⟩, h4⟩ := h
  have h1 := withinB_iff h1
  have h3 := withinB_iff h3
  have h4 := withinB_iff h4
  exact ⟨⟨h1.1, h1.2.1, h1.2.2, by omega⟩, h3, h4⟩
theorem ValidF.st {f : FurrowD} (h : ValidF f) {k : Nat} (hk : k < f.offs.length) : (-12 ≤ (f.offs.getD k default).lo ∧ (f.offs.getD k default).lo ≤ (f.offs.getD k default).hi ∧ (f.offs.getD k default).hi ≤ 12 ∧ (f.offs.getD k default).hi - (f.offs.getD k default).lo ≤ 6) ∧ (1 ≤ (f.wids.getD k default).lo ∧ (f.wids.getD k default).lo ≤ (f.wids.getD k default).hi ∧ (f.wids.getD k default).hi ≤ 60) ∧ 0 ≤ (f.deps.getD k default).lo ∧ (f.deps.getD k default).lo ≤ (f.deps.getD k default).hi ∧ (f.deps.getD k default).hi ≤ 40 := okSt_iff (h.all k hk)
theorem ValidF.fine {f : FurrowD} (h : ValidF f) : FineC f.offs := fun s hs => by
  obtain ⟨k, hk, rfl⟩ := List.getElem_of_mem hs
  have h1 := (h.st hk).1
  rw [List.getD_eq_getElem?_getD, List.getElem?_eq_getElem hk] at h1
  simp only [Option.getD_some] at h1
  omega
def FurrowIn (w : World) (b : Nat) (f : FurrowD) (oa wa da : Option Addr) (oc wc dc : Nat) : Prop := ∀ j v, (furrowC f oa wa da oc wc dc)[j]? = some v → w.cell? ⟨b, 0 + j, none⟩ = some v
theorem FurrowIn.kept {w w' : World} {b : Nat} {f : FurrowD} {oa wa da : Option Addr} {oc wc dc : Nat} (h : FurrowIn w b f oa wa da oc wc dc) (hb : Below w.heap.size w w') : FurrowIn w' b f oa wa da oc wc dc := fun j v hj => cell_kept' (h j v hj) hb
structure Lens (f : FurrowD) : Prop where
  all : f.offs.length ≤ 1000000 ∧ f.wids.length ≤ 1000000 ∧ f.deps.length ≤ 1000000
def prodL (f : FurrowD) : List SpanD := alongL f.offs.length fun k => timesS (f.wids.getD k default) (f.deps.getD k default)
def depL (f : FurrowD) : List SpanD := alongL f.offs.length fun k => f.deps.getD k default
theorem depL_eq {f : FurrowD} (h : ValidF f) : depL f = f.deps := by
  apply List.ext_getElem
  · rw [depL, alongL_length, h.deps]
  · intro i h1 h2
    have e := alongL_at (n := f.offs.length) (G := fun k => f.deps.getD k default) (k := i) (by rw [depL, alongL_length] at h1; exact h1)
    obtain ⟨h3, h4⟩ := List.getElem?_eq_some_iff.1 e
    rw [List.getD_eq_getElem?_getD, List.getElem?_eq_getElem h2] at h4
    exact h4
theorem prodL_small {f : FurrowD} (h : ValidF f) : ∀ s ∈ prodL f, (0 ≤ s.lo ∧ s.lo ≤ 1000000) ∧ (0 ≤ s.hi ∧ s.hi ≤ 1000000) := fun s hs => by
  obtain ⟨k, hk, rfl⟩ := List.mem_map.1 hs
  obtain ⟨_, h2, h3⟩ := h.st (List.mem_range.1 hk)
  exact ⟨mul_small (by omega) (by omega), mul_small (by omega) (by omega)⟩
def wrongN (f : FurrowD) (most : Int) : Int := (((setsL f.offs.length).map fun (s : Nat) => (s : Int)).find? fun x => savedB f.offs most x.toNat).getD 0
set_option maxRecDepth 100000 in
set_option maxHeartbeats 4000000 in
theorem find41_bad {f : FurrowD} {oa wa da : Option Addr} {oc wc dc pf : Nat} {w : World} (hm : Lens f) (hf : FurrowAt w f oa wa da) (hF : FurrowIn w pf f oa wa da oc wc dc) (hv : validB f = false) : Pans Try.prog 41 [ptrV pf] w [errP 1] := by
  refine enter (n := 9) Try.func41 rfl rfl rfl (by repeat (first | exact Fill.nil | apply Fill.cons)) ?_
  refine cw_seq ?_
  refine cw_region ?_
  refine lstep rfl rfl rfl (run_alloc zr28) ?_
  intro b1 _
  refine lnil ?_
  refine xw_then ?_
  refine cw_seq ?_
  refine cw_region ?_
  refine lstepB rfl rfl rfl (run_loadN_at (l := furrowC f oa wa da oc wc dc) (.tmp rfl) kd24 sz24 rfl (fun w' hS j v hj => hS.old_cell (fun h => h) (hF j v hj))) ?_
  refine lstepB rfl rfl rfl (run_call1 cb43 (.cons (.tmp rfl) .nil) (fun w2 hS => (validK f oa wa da oc wc dc w2 hm.all (hf.kept hS.kept)).as (congrArg Value.bool hv))) ?_
  refine lpans rfl cb42 (.cons (.tmp rfl) (.cons .const .nil)) (fun w2 _ => demand_bad 1 w2) ?_
  refine xw_then_panic ?_
  refine xw_panic (fun w hS => ⟨rfl, hS.kept⟩)
set_option maxRecDepth 100000 in
set_option maxHeartbeats 4000000 in
theorem find48_bad {f : FurrowD} {oa wa da : Option Addr} {oc wc dc pf : Nat} {w : World} (hm : Lens f) (hf : FurrowAt w f oa wa da) (hF : FurrowIn w pf f oa wa da oc wc dc) (hv : validB f = false) (ps : Nat) : Pans Try.prog 48 [ptrV pf, ptrV ps] w [errP 1] := by
  refine enter (n := 17) Try.func48 rfl rfl rfl (by repeat (first | exact Fill.nil | apply Fill.cons)) ?_
  refine cw_seq ?_
  refine cw_region ?_
  refine lstep rfl rfl rfl (run_alloc zr28) ?_
  intro b2 _
  refine lnil ?_
  refine xw_then ?_
  refine cw_seq ?_
  refine cw_region ?_
  refine lstepB rfl rfl rfl (run_loadN_at (l := furrowC f oa wa da oc wc dc) (.tmp rfl) kd24 sz24 rfl (fun w' hS j v hj => hS.old_cell (fun h => h) (hF j v hj))) ?_
  refine lstepB rfl rfl rfl (run_call1 cb43 (.cons (.tmp rfl) .nil) (fun w2 hS => (validK f oa wa da oc wc dc w2 hm.all (hf.kept hS.kept)).as (congrArg Value.bool hv))) ?_
  refine lpans rfl cb42 (.cons (.tmp rfl) (.cons .const .nil)) (fun w2 _ => demand_bad 1 w2) ?_
  refine xw_then_panic ?_
  refine xw_panic (fun w hS => ⟨rfl, hS.kept⟩)
set_option maxRecDepth 100000 in
set_option maxHeartbeats 4000000 in
theorem find54_bad {f : FurrowD} {oa wa da : Option Addr} {oc wc dc pf : Nat} {w : World} (hm : Lens f) (hf : FurrowAt w f oa wa da) (hF : FurrowIn w pf f oa wa da oc wc dc) (hv : validB f = false) : Pans Try.prog 54 [ptrV pf] w [errP 1] := by
  refine enter (n := 8) Try.func54 rfl rfl rfl (by repeat (first | exact Fill.nil | apply Fill.cons)) ?_
  refine cw_seq ?_
  refine cw_region ?_
  refine lstepB rfl rfl rfl (run_assign .const) ?_
  refine lnil ?_
  refine xw_then ?_
  refine cw_seq ?_
  refine cw_region ?_
  refine lstepB rfl rfl rfl (run_loadN_at (l := furrowC f oa wa da oc wc dc) (.tmp rfl) kd24 sz24 rfl (fun w' hS j v hj => hS.old_cell (fun h => h) (hF j v hj))) ?_
  refine lstepB rfl rfl rfl (run_call1 cb43 (.cons (.tmp rfl) .nil) (fun w2 hS => (validK f oa wa da oc wc dc w2 hm.all (hf.kept hS.kept)).as (congrArg Value.bool hv))) ?_
  refine lpans rfl cb42 (.cons (.tmp rfl) (.cons .const .nil)) (fun w2 _ => demand_bad 1 w2) ?_
  refine xw_then_panic ?_
  refine xw_panic (fun w hS => ⟨rfl, hS.kept⟩)
set_option maxRecDepth 100000 in
set_option maxHeartbeats 4000000 in
theorem find57_bad {f : FurrowD} {oa wa da : Option Addr} {oc wc dc pf : Nat} {w : World} (hm : Lens f) (hf : FurrowAt w f oa wa da) (hF : FurrowIn w pf f oa wa da oc wc dc) (hv : validB f = false) : Pans Try.prog 57 [ptrV pf] w [errP 1] := by
  refine enter (n := 8) Try.func57 rfl rfl rfl (by repeat (first | exact Fill.nil | apply Fill.cons)) ?_
  refine cw_seq ?_
  refine cw_region ?_
  refine lstep rfl rfl rfl (run_alloc zr81) ?_
  intro b1 _
  refine lnil ?_
  refine xw_then ?_
  refine cw_seq ?_
  refine cw_region ?_
  refine lstepB rfl rfl rfl (run_loadN_at (l := furrowC f oa wa da oc wc dc) (.tmp rfl) kd24 sz24 rfl (fun w' hS j v hj => hS.old_cell (fun h => h) (hF j v hj))) ?_
  refine lstepB rfl rfl rfl (run_call1 cb43 (.cons (.tmp rfl) .nil) (fun w2 hS => (validK f oa wa da oc wc dc w2 hm.all (hf.kept hS.kept)).as (congrArg Value.bool hv))) ?_
  refine lpans rfl cb42 (.cons (.tmp rfl) (.cons .const .nil)) (fun w2 _ => demand_bad 1 w2) ?_
  refine xw_then_panic ?_
  refine xw_panic (fun w hS => ⟨rfl, hS.kept⟩)
set_option maxRecDepth 100000 in
set_option maxHeartbeats 4000000 in
theorem find61_bad {f : FurrowD} {oa wa da : Option Addr} {oc wc dc pf : Nat} {w : World} (hm : Lens f) (hf : FurrowAt w f oa wa da) (hF : FurrowIn w pf f oa wa da oc wc dc) (hv : validB f = false) (ps : Nat) : Pans Try.prog 61 [ptrV pf, ptrV ps] w [errP 1] := by
  refine enter (n := 26) Try.func61 rfl rfl rfl (by repeat (first | exact Fill.nil | apply Fill.cons)) ?_
  refine cw_seq ?_
  refine cw_region ?_
  refine lstepB rfl rfl rfl (run_assign .const) ?_
  refine lnil ?_
  refine xw_then ?_
  refine cw_seq ?_
  refine cw_region ?_
  refine lstepB rfl rfl rfl (run_loadN_at (l := furrowC f oa wa da oc wc dc) (.tmp rfl) kd24 sz24 rfl (fun w' hS j v hj => hS.old_cell (fun h => h) (hF j v hj))) ?_
  refine lstepB rfl rfl rfl (run_call1 cb43 (.cons (.tmp rfl) .nil) (fun w2 hS => (validK f oa wa da oc wc dc w2 hm.all (hf.kept hS.kept)).as (congrArg Value.bool hv))) ?_
  refine lpans rfl cb42 (.cons (.tmp rfl) (.cons .const .nil)) (fun w2 _ => demand_bad 1 w2) ?_
  refine xw_then_panic ?_
  refine xw_panic (fun w hS => ⟨rfl, hS.kept⟩)
set_option maxRecDepth 100000 in
set_option maxHeartbeats 4000000 in
theorem find67_bad {f : FurrowD} {oa wa da : Option Addr} {oc wc dc pf : Nat} {w : World} (hm : Lens f) (hf : FurrowAt w f oa wa da) (hF : FurrowIn w pf f oa wa da oc wc dc) (hv : validB f = false) (ps : Nat) : Pans Try.prog 67 [ptrV pf, ptrV ps] w [errP 1] := by
  refine enter (n := 18) Try.func67 rfl rfl rfl (by repeat (first | exact Fill.nil | apply Fill.cons)) ?_
  refine cw_seq ?_
  refine cw_region ?_
  refine lstep rfl rfl rfl (run_alloc zr81) ?_
  intro b2 _
  refine lnil ?_
  refine xw_then ?_
  refine cw_seq ?_
  refine cw_region ?_
  refine lstepB rfl rfl rfl (run_loadN_at (l := furrowC f oa wa da oc wc dc) (.tmp rfl) kd24 sz24 rfl (fun w' hS j v hj => hS.old_cell (fun h => h) (hF j v hj))) ?_
  refine lstepB rfl rfl rfl (run_call1 cb43 (.cons (.tmp rfl) .nil) (fun w2 hS => (validK f oa wa da oc wc dc w2 hm.all (hf.kept hS.kept)).as (congrArg Value.bool hv))) ?_
  refine lpans rfl cb42 (.cons (.tmp rfl) (.cons .const .nil)) (fun w2 _ => demand_bad 1 w2) ?_
  refine xw_then_panic ?_
  refine xw_panic (fun w hS => ⟨rfl, hS.kept⟩)
set_option maxRecDepth 100000 in
set_option maxHeartbeats 4000000 in
theorem find70_bad {f : FurrowD} {oa wa da : Option Addr} {oc wc dc pf : Nat} {w : World} (hm : Lens f) (hf : FurrowAt w f oa wa da) (hF : FurrowIn w pf f oa wa da oc wc dc) (hv : validB f = false) : Pans Try.prog 70 [ptrV pf] w [errP 1] := by
  refine enter (n := 14) Try.func70 rfl rfl rfl (by repeat (first | exact Fill.nil | apply Fill.cons)) ?_
  refine cw_seq ?_
  refine cw_region ?_
  refine lstep rfl rfl rfl (run_alloc zr28) ?_
  intro b1 _
  refine lnil ?_
  refine xw_then ?_
  refine cw_seq ?_
  refine cw_region ?_
  refine lstepB rfl rfl rfl (run_loadN_at (l := furrowC f oa wa da oc wc dc) (.tmp rfl) kd24 sz24 rfl (fun w' hS j v hj => hS.old_cell (fun h => h) (hF j v hj))) ?_
  refine lstepB rfl rfl rfl (run_call1 cb43 (.cons (.tmp rfl) .nil) (fun w2 hS => (validK f oa wa da oc wc dc w2 hm.all (hf.kept hS.kept)).as (congrArg Value.bool hv))) ?_
  refine lpans rfl cb42 (.cons (.tmp rfl) (.cons .const .nil)) (fun w2 _ => demand_bad 1 w2) ?_
  refine xw_then_panic ?_
  refine xw_panic (fun w hS => ⟨rfl, hS.kept⟩)
set_option maxRecDepth 100000 in
set_option maxHeartbeats 4000000 in
theorem find41_ok {f : FurrowD} {oa wa da : Option Addr} {oc wc dc pf : Nat} {w : World} (hm : Lens f) (hf : FurrowAt w f oa wa da) (hF : FurrowIn w pf f oa wa da oc wc dc) (hv : validB f = true) : Gives Try.prog 41 [ptrV pf] w (spanV (bendT f.offs)) := by
  refine .mk <| enter (n := 9) Try.func41 rfl rfl rfl (by repeat (first | exact Fill.nil | apply Fill.cons)) ?_
  refine cw_seq ?_
  refine cw_region ?_
  refine lstep rfl rfl rfl (run_alloc zr28) ?_
  intro b1 _
  refine lnil ?_
  refine xw_then ?_
  refine cw_seq ?_
  refine cw_region ?_
  refine lstepB rfl rfl rfl (run_loadN_at (l := furrowC f oa wa da oc wc dc) (.tmp rfl) kd24 sz24 rfl (fun w' hS j v hj => hS.old_cell (fun h => h) (hF j v hj))) ?_
  refine lstepB rfl rfl rfl (run_call1 cb43 (.cons (.tmp rfl) .nil) (fun w2 hS => (validK f oa wa da oc wc dc w2 hm.all (hf.kept hS.kept)).as (congrArg Value.bool hv))) ?_
  refine lstepB rfl rfl rfl (run_call1 cb42 (.cons (.tmp rfl) (.cons .const .nil)) (fun w2 _ => demand_ok 1 w2)) ?_
  have hv := validF hv
  refine lnil ?_
  refine xw_then ?_
  refine cw_seq ?_
  refine cw_region ?_
  refine lstepB rfl rfl rfl (run_loadN_at (l := furrowC f oa wa da oc wc dc) (.tmp rfl) kd24 sz24 rfl (fun w' hS j v hj => hS.old_cell (fun h => h) (hF j v hj))) ?_
  refine lcallN rfl cb44 (.cons (.tmp rfl) .nil) (F := fun (z0 : Option Addr × Nat) B0 w' => SpansAt w' z0.1 f.offs ∧ ∀ b o, z0.1 = some ⟨b, o, none⟩ → B0 ≤ b) (fun w2 hS => courseK f oa wa da oc wc dc w2 (by have := hv.len; omega) (hf.kept hS.kept)) ?_
  rintro ⟨ca, cq⟩ B1 wx hC hlo hsz hsz2 hx
  dsimp only at hC ⊢
  have hlen := hv.len
  have hfine := hv.fine
  refine lstepB rfl rfl rfl (run_call1 cb45 (.cons (.tmp rfl) .nil) (fun w2 hS => bendK hfine _ _ w2 (by omega) (rowsAt_old hC.1 hS (fun b o h hb => absurd (hlo _ hb) (by have := hC.2 b o h; omega))))) ?_
  refine lstepB rfl rfl rfl (run_fieldN (.tmp rfl) ft67_0 kd28 sz28 (by repeat (first | exact Sub.done | apply Sub.take | apply Sub.skip))) ?_
  refine lstep0 rfl rfl (run_storeN (.tmp rfl) (.tmp rfl) rfl sz28 rfl (by repeat (first | exact Upd.here | apply Upd.there)) (by repeat (first | exact Put.done | apply Put.put | apply Put.skip))) ?_
  refine lnil ?_
  refine xw_then ?_
  refine cw_ret ?_
  refine xw_retC1 rfl rfl kd28 sz28 (by repeat (first | exact List.Mem.head _ | apply List.Mem.tail)) (by repeat (first | exact Sub.done | apply Sub.take | apply Sub.skip)) (fun w hS => ⟨rfl, (hx.join0 hS).kept⟩)
set_option maxRecDepth 100000 in
set_option maxHeartbeats 4000000 in
theorem find48_range {f : FurrowD} {oa wa da : Option Addr} {oc wc dc pf : Nat} {w : World} (hm : Lens f) (hf : FurrowAt w f oa wa da) (hF : FurrowIn w pf f oa wa da oc wc dc) (hv : validB f = true) {st : Int} {ps : Nat} (hs : w.cell? ⟨ps, 0, none⟩ = some (.int .i64 st)) (hi : innerB f.offs.length st = false) : Pans Try.prog 48 [ptrV pf, ptrV ps] w [errP 2] := by
  refine enter (n := 17) Try.func48 rfl rfl rfl (by repeat (first | exact Fill.nil | apply Fill.cons)) ?_
  refine cw_seq ?_
  refine cw_region ?_
  refine lstep rfl rfl rfl (run_alloc zr28) ?_
  intro b2 _
  refine lnil ?_
  refine xw_then ?_
  refine cw_seq ?_
  refine cw_region ?_
  refine lstepB rfl rfl rfl (run_loadN_at (l := furrowC f oa wa da oc wc dc) (.tmp rfl) kd24 sz24 rfl (fun w' hS j v hj => hS.old_cell (fun h => h) (hF j v hj))) ?_
  refine lstepB rfl rfl rfl (run_call1 cb43 (.cons (.tmp rfl) .nil) (fun w2 hS => (validK f oa wa da oc wc dc w2 hm.all (hf.kept hS.kept)).as (congrArg Value.bool hv))) ?_
  refine lstepB rfl rfl rfl (run_call1 cb42 (.cons (.tmp rfl) (.cons .const .nil)) (fun w2 _ => demand_ok 1 w2)) ?_
  have hv := validF hv
  refine lnil ?_
  refine xw_then ?_
  refine cw_seq ?_
  refine cw_region ?_
  refine lstepB rfl rfl rfl (run_loadN_at (l := furrowC f oa wa da oc wc dc) (.tmp rfl) kd24 sz24 rfl (fun w' hS j v hj => hS.old_cell (fun h => h) (hF j v hj))) ?_
  refine lcallN rfl cb44 (.cons (.tmp rfl) .nil) (F := fun (z0 : Option Addr × Nat) B0 w' => SpansAt w' z0.1 f.offs ∧ ∀ b o, z0.1 = some ⟨b, o, none⟩ → B0 ≤ b) (fun w2 hS => courseK f oa wa da oc wc dc w2 (by have := hv.len; omega) (hf.kept hS.kept)) ?_
  rintro ⟨ca, cq⟩ B1 wx hC hlo hsz hsz2 hx
  dsimp only at hC ⊢
  have hlen := hv.len
  have hfine := hv.fine
  have hb2 : ps < w.heap.size := World.block_lt_of_cell? _ _ hs
  refine lstepB rfl rfl rfl (run_assign (.tmp rfl)) ?_
  refine lnil ?_
  refine xw_then ?_
  refine cw_seq ?_
  refine cw_region ?_
  refine lstepB rfl rfl rfl (run_move (.tmp rfl)) ?_
  refine lstepB rfl rfl rfl (run_load1_at (.tmp rfl) kd3 (fun w' hS => hS.old_cell (hx.not_blk hb2 (fun h => h)) (hx.old_cell (fun h => h) hs))) ?_
  refine lstepB rfl rfl rfl (run_call1 cb49 (.cons (.tmp rfl) (.cons (.tmp rfl) .nil)) (fun w2 _ => (isInnerK _ _ _ st (by omega) w2).as (congrArg Value.bool hi))) ?_
  refine lpans rfl cb42 (.cons (.tmp rfl) (.cons .const .nil)) (fun w2 _ => demand_bad 2 w2) ?_
  refine xw_then_panic ?_
  refine xw_panic (fun w hS => ⟨rfl, (hx.join0 hS).kept⟩)
set_option maxRecDepth 100000 in
set_option maxHeartbeats 4000000 in
theorem find48_ok {f : FurrowD} {oa wa da : Option Addr} {oc wc dc pf : Nat} {w : World} (hm : Lens f) (hf : FurrowAt w f oa wa da) (hF : FurrowIn w pf f oa wa da oc wc dc) (hv : validB f = true) {st : Int} {ps : Nat} (hs : w.cell? ⟨ps, 0, none⟩ = some (.int .i64 st)) (hi : innerB f.offs.length st = true) : Gives Try.prog 48 [ptrV pf, ptrV ps] w (spanV (bendS f.offs st.toNat)) := by
  refine .mk <| enter (n := 17) Try.func48 rfl rfl rfl (by repeat (first | exact Fill.nil | apply Fill.cons)) ?_
  refine cw_seq ?_
  refine cw_region ?_
  refine lstep rfl rfl rfl (run_alloc zr28) ?_
  intro b2 _
  refine lnil ?_
  refine xw_then ?_
  refine cw_seq ?_
  refine cw_region ?_
  refine lstepB rfl rfl rfl (run_loadN_at (l := furrowC f oa wa da oc wc dc) (.tmp rfl) kd24 sz24 rfl (fun w' hS j v hj => hS.old_cell (fun h => h) (hF j v hj))) ?_
  refine lstepB rfl rfl rfl (run_call1 cb43 (.cons (.tmp rfl) .nil) (fun w2 hS => (validK f oa wa da oc wc dc w2 hm.all (hf.kept hS.kept)).as (congrArg Value.bool hv))) ?_
  refine lstepB rfl rfl rfl (run_call1 cb42 (.cons (.tmp rfl) (.cons .const .nil)) (fun w2 _ => demand_ok 1 w2)) ?_
  have hv := validF hv
  refine lnil ?_
  refine xw_then ?_
  refine cw_seq ?_
  refine cw_region ?_
  refine lstepB rfl rfl rfl (run_loadN_at (l := furrowC f oa wa da oc wc dc) (.tmp rfl) kd24 sz24 rfl (fun w' hS j v hj => hS.old_cell (fun h => h) (hF j v hj))) ?_
  refine lcallN rfl cb44 (.cons (.tmp rfl) .nil) (F := fun (z0 : Option Addr × Nat) B0 w' => SpansAt w' z0.1 f.offs ∧ ∀ b o, z0.1 = some ⟨b, o, none⟩ → B0 ≤ b) (fun w2 hS => courseK f oa wa da oc wc dc w2 (by have := hv.len; omega) (hf.kept hS.kept)) ?_
  rintro ⟨ca, cq⟩ B1 wx hC hlo hsz hsz2 hx
  dsimp only at hC ⊢
  have hlen := hv.len
  have hfine := hv.fine
  have hb2 : ps < w.heap.size := World.block_lt_of_cell? _ _ hs
  refine lstepB rfl rfl rfl (run_assign (.tmp rfl)) ?_
  refine lnil ?_
  refine xw_then ?_
  refine cw_seq ?_
  refine cw_region ?_
  refine lstepB rfl rfl rfl (run_move (.tmp rfl)) ?_
  refine lstepB rfl rfl rfl (run_load1_at (.tmp rfl) kd3 (fun w' hS => hS.old_cell (hx.not_blk hb2 (fun h => h)) (hx.old_cell (fun h => h) hs))) ?_
  refine lstepB rfl rfl rfl (run_call1 cb49 (.cons (.tmp rfl) (.cons (.tmp rfl) .nil)) (fun w2 _ => (isInnerK _ _ _ st (by omega) w2).as (congrArg Value.bool hi))) ?_
  refine lstepB rfl rfl rfl (run_call1 cb42 (.cons (.tmp rfl) (.cons .const .nil)) (fun w2 _ => demand_ok 2 w2)) ?_
  simp only [innerB, Bool.and_eq_true, decide_eq_true_eq] at hi
  obtain ⟨sn, rfl⟩ : ∃ n : Nat, st = (n : Int) := ⟨st.toNat, by omega⟩
  refine lnil ?_
  refine xw_then ?_
  refine cw_seq ?_
  refine cw_region ?_
  refine lstepB rfl rfl rfl (run_move (.tmp rfl)) ?_
  refine lstepB rfl rfl rfl (run_load1_at (.tmp rfl) kd3 (fun w' hS => hS.old_cell (hx.not_blk hb2 (fun h => h)) (hx.old_cell (fun h => h) hs))) ?_
  refine lstepB rfl rfl rfl (run_call1 cb50 (.cons (.tmp rfl) (.cons (.tmp rfl) .nil)) (fun w2 hS => bendSK hfine sn _ _ w2 (by omega) (by omega) (by omega) (rowsAt_old hC.1 hS (fun b o h hb => absurd (hlo _ hb) (by have := hC.2 b o h; omega))))) ?_
  refine lstepB rfl rfl rfl (run_fieldN (.tmp rfl) ft67_0 kd28 sz28 (by repeat (first | exact Sub.done | apply Sub.take | apply Sub.skip))) ?_
  refine lstep0 rfl rfl (run_storeN (.tmp rfl) (.tmp rfl) rfl sz28 rfl (by repeat (first | exact Upd.here | apply Upd.there)) (by repeat (first | exact Put.done | apply Put.put | apply Put.skip))) ?_
  refine lnil ?_
  refine xw_then ?_
  refine cw_ret ?_
  refine xw_retC1 rfl rfl kd28 sz28 (by repeat (first | exact List.Mem.head _ | apply List.Mem.tail)) (by repeat (first | exact Sub.done | apply Sub.take | apply Sub.skip)) (fun w hS => ⟨by rw [Int.toNat_natCast], (hx.join0 hS).kept⟩)
set_option maxRecDepth 100000 in
set_option maxHeartbeats 4000000 in
theorem find54_ok {f : FurrowD} {oa wa da : Option Addr} {oc wc dc pf : Nat} {w : World} (hm : Lens f) (hf : FurrowAt w f oa wa da) (hF : FurrowIn w pf f oa wa da oc wc dc) (hv : validB f = true) : CallsF Try.prog 54 (([ptrV pf] : List Value)).toArray w fun e w' => ∃ s : Nat × List Int, (s.2.length = f.offs.length ∧ ∀ t, wayS f.offs (mostB (bendT f.offs).lo) = some t → s.2 = t) ∧ e = .returned (.slice (some ⟨s.1, 0, none⟩) f.offs.length f.offs.length) ∧ St w NoT [(s.1, Obj.cells (intsV s.2).toArray 3 (0, 0))] w' := by
  refine enter (n := 8) Try.func54 rfl rfl rfl (by repeat (first | exact Fill.nil | apply Fill.cons)) ?_
  refine cw_seq ?_
  refine cw_region ?_
  refine lstepB rfl rfl rfl (run_assign .const) ?_
  refine lnil ?_
  refine xw_then ?_
  refine cw_seq ?_
  refine cw_region ?_
  refine lstepB rfl rfl rfl (run_loadN_at (l := furrowC f oa wa da oc wc dc) (.tmp rfl) kd24 sz24 rfl (fun w' hS j v hj => hS.old_cell (fun h => h) (hF j v hj))) ?_
  refine lstepB rfl rfl rfl (run_call1 cb43 (.cons (.tmp rfl) .nil) (fun w2 hS => (validK f oa wa da oc wc dc w2 hm.all (hf.kept hS.kept)).as (congrArg Value.bool hv))) ?_
  refine lstepB rfl rfl rfl (run_call1 cb42 (.cons (.tmp rfl) (.cons .const .nil)) (fun w2 _ => demand_ok 1 w2)) ?_
  have hv := validF hv
  refine lnil ?_
  refine xw_then ?_
  refine cw_seq ?_
  refine cw_region ?_
  refine lstepB rfl rfl rfl (run_loadN_at (l := furrowC f oa wa da oc wc dc) (.tmp rfl) kd24 sz24 rfl (fun w' hS j v hj => hS.old_cell (fun h => h) (hF j v hj))) ?_
  refine lcallN rfl cb44 (.cons (.tmp rfl) .nil) (F := fun (z0 : Option Addr × Nat) B0 w' => SpansAt w' z0.1 f.offs ∧ ∀ b o, z0.1 = some ⟨b, o, none⟩ → B0 ≤ b) (fun w2 hS => courseK f oa wa da oc wc dc w2 (by have := hv.len; omega) (hf.kept hS.kept)) ?_
  rintro ⟨ca, cq⟩ B1 wx hC hlo hsz hsz2 hx
  dsimp only at hC ⊢
  have hlen := hv.len
  have hfine := hv.fine
  refine lstep rfl rfl rfl (LR.runs (R := []) (A := []) (lr_gives cb55 (.cons (.tmp rfl) .nil) (fun w2 hS => straightestK hfine (by omega) _ _ w2 (rowsAt_old hC.1 hS (fun b o h hb => absurd (hlo _ hb) (by have := hC.2 b o h; omega))))) (by repeat (first | exact Pick.nil | (apply Pick.cons; focus (repeat (first | exact Del.here | apply Del.there))))) (by repeat (first | exact Dels.nil | (apply Dels.cons; focus (repeat (first | exact Del.here | apply Del.there)))))) ?_
  intro ⟨gO, o2⟩ hO
  refine lstepB rfl rfl rfl (run_assign (.tmp rfl)) ?_
  refine lnil ?_
  refine xw_then ?_
  refine cw_ret ?_
  refine xw_ret1 Try.results54 rfl (fun w hS => ⟨(gO, o2), hO, rfl, (hx.join0 hS).pick (by repeat (first | exact Pick.nil | (apply Pick.cons; focus (repeat (first | exact Del.here | apply Del.there)))))⟩)
set_option maxRecDepth 100000 in
set_option maxHeartbeats 4000000 in
theorem find57_ok {f : FurrowD} {oa wa da : Option Addr} {oc wc dc pf : Nat} {w : World} (hm : Lens f) (hf : FurrowAt w f oa wa da) (hF : FurrowIn w pf f oa wa da oc wc dc) (hv : validB f = true) : Gives Try.prog 57 [ptrV pf] w (.agg [.int .i64 ((worstN f.offs (f.offs.length - 2)).1 : Int), .int .i64 ((worstN f.offs (f.offs.length - 2)).2 : Int)].toArray) := by
  refine .mk <| enter (n := 8) Try.func57 rfl rfl rfl (by repeat (first | exact Fill.nil | apply Fill.cons)) ?_
  refine cw_seq ?_
  refine cw_region ?_
  refine lstep rfl rfl rfl (run_alloc zr81) ?_
  intro b1 _
  refine lnil ?_
  refine xw_then ?_
  refine cw_seq ?_
  refine cw_region ?_
  refine lstepB rfl rfl rfl (run_loadN_at (l := furrowC f oa wa da oc wc dc) (.tmp rfl) kd24 sz24 rfl (fun w' hS j v hj => hS.old_cell (fun h => h) (hF j v hj))) ?_
  refine lstepB rfl rfl rfl (run_call1 cb43 (.cons (.tmp rfl) .nil) (fun w2 hS => (validK f oa wa da oc wc dc w2 hm.all (hf.kept hS.kept)).as (congrArg Value.bool hv))) ?_
  refine lstepB rfl rfl rfl (run_call1 cb42 (.cons (.tmp rfl) (.cons .const .nil)) (fun w2 _ => demand_ok 1 w2)) ?_
  have hv := validF hv
  refine lnil ?_
  refine xw_then ?_
  refine cw_seq ?_
  refine cw_region ?_
  refine lstepB rfl rfl rfl (run_loadN_at (l := furrowC f oa wa da oc wc dc) (.tmp rfl) kd24 sz24 rfl (fun w' hS j v hj => hS.old_cell (fun h => h) (hF j v hj))) ?_
  refine lcallN rfl cb44 (.cons (.tmp rfl) .nil) (F := fun (z0 : Option Addr × Nat) B0 w' => SpansAt w' z0.1 f.offs ∧ ∀ b o, z0.1 = some ⟨b, o, none⟩ → B0 ≤ b) (fun w2 hS => courseK f oa wa da oc wc dc w2 (by have := hv.len; omega) (hf.kept hS.kept)) ?_
  rintro ⟨ca, cq⟩ B1 wx hC hlo hsz hsz2 hx
  dsimp only at hC ⊢
  have hlen := hv.len
  have hfine := hv.fine
  refine lstepB rfl rfl rfl (run_call1 cb58 (.cons (.tmp rfl) .nil) (fun w2 hS => worstK hfine _ _ w2 (by omega) (rowsAt_old hC.1 hS (fun b o h hb => absurd (hlo _ hb) (by have := hC.2 b o h; omega))))) ?_
  refine lstep0 rfl rfl (run_storeN (.tmp rfl) (.tmp rfl) rfl sz81 rfl (by repeat (first | exact Upd.here | apply Upd.there)) (by repeat (first | exact Put.done | apply Put.put | apply Put.skip))) ?_
  refine lnil ?_
  refine xw_then ?_
  refine cw_ret ?_
  refine xw_retC1 rfl rfl kd81 sz81 (by repeat (first | exact List.Mem.head _ | apply List.Mem.tail)) (by repeat (first | exact Sub.done | apply Sub.take | apply Sub.skip)) (fun w hS => ⟨rfl, (hx.join0 hS).kept⟩)
set_option maxRecDepth 100000 in
set_option maxHeartbeats 4000000 in
theorem find61_range {f : FurrowD} {oa wa da : Option Addr} {oc wc dc pf : Nat} {w : World} (hm : Lens f) (hf : FurrowAt w f oa wa da) (hF : FurrowIn w pf f oa wa da oc wc dc) (hv : validB f = true) {most : Int} {ps : Nat} (hs : w.cell? ⟨ps, 0, none⟩ = some (.int .i64 most)) (hi : most < 0) : Pans Try.prog 61 [ptrV pf, ptrV ps] w [errP 2] := by
  refine enter (n := 26) Try.func61 rfl rfl rfl (by repeat (first | exact Fill.nil | apply Fill.cons)) ?_
  refine cw_seq ?_
  refine cw_region ?_
  refine lstepB rfl rfl rfl (run_assign .const) ?_
  refine lnil ?_
  refine xw_then ?_
  refine cw_seq ?_
  refine cw_region ?_
  refine lstepB rfl rfl rfl (run_loadN_at (l := furrowC f oa wa da oc wc dc) (.tmp rfl) kd24 sz24 rfl (fun w' hS j v hj => hS.old_cell (fun h => h) (hF j v hj))) ?_
  refine lstepB rfl rfl rfl (run_call1 cb43 (.cons (.tmp rfl) .nil) (fun w2 hS => (validK f oa wa da oc wc dc w2 hm.all (hf.kept hS.kept)).as (congrArg Value.bool hv))) ?_
  refine lstepB rfl rfl rfl (run_call1 cb42 (.cons (.tmp rfl) (.cons .const .nil)) (fun w2 _ => demand_ok 1 w2)) ?_
  have hv := validF hv
  refine lnil ?_
  refine xw_then ?_
  refine cw_seq ?_
  refine cw_region ?_
  refine lstepB rfl rfl rfl (run_load1_at (.tmp rfl) kd3 (fun w' hS => hS.old_cell (fun h => h) hs)) ?_
  refine lstepB rfl rfl rfl (run_geq (.tmp rfl) .const (by first | exact decide_eq_true (by omega) | exact decide_eq_false (by omega) | exact rfl)) ?_
  refine lpans rfl cb42 (.cons (.tmp rfl) (.cons .const .nil)) (fun w2 _ => demand_bad 2 w2) ?_
  refine xw_then_panic ?_
  refine xw_panic (fun w hS => ⟨rfl, hS.kept⟩)
theorem sets_small {n : Nat} (hn : n ≤ 8) : ∀ x : Int, x ∈ ((setsL n).map fun (s : Nat) => (s : Int)) → 0 ≤ x ∧ x < 4294967296 := fun x hx => by
  obtain ⟨s, hs, rfl⟩ := List.mem_map.1 hx
  have h := mem_setsU (Nat.zero_le _) hs
  have e : 2 ^ n ≤ 2 ^ 8 := Nat.pow_le_pow_right (by omega) hn
  omega
set_option maxRecDepth 100000 in
set_option maxHeartbeats 4000000 in
theorem find61_ok {f : FurrowD} {oa wa da : Option Addr} {oc wc dc pf : Nat} {w : World} (hm : Lens f) (hf : FurrowAt w f oa wa da) (hF : FurrowIn w pf f oa wa da oc wc dc) (hv : validB f = true) {most : Int} {ps : Nat} (hs : w.cell? ⟨ps, 0, none⟩ = some (.int .i64 most)) (hi : 0 ≤ most) : Gives Try.prog 61 [ptrV pf, ptrV ps] w (.int .i64 (wrongN f most)) := by
  refine .mk <| enter (n := 26) Try.func61 rfl rfl rfl (by repeat (first | exact Fill.nil | apply Fill.cons)) ?_
  refine cw_seq ?_
  refine cw_region ?_
  refine lstepB rfl rfl rfl (run_assign .const) ?_
  refine lnil ?_
  refine xw_then ?_
  refine cw_seq ?_
  refine cw_region ?_
  refine lstepB rfl rfl rfl (run_loadN_at (l := furrowC f oa wa da oc wc dc) (.tmp rfl) kd24 sz24 rfl (fun w' hS j v hj => hS.old_cell (fun h => h) (hF j v hj))) ?_
  refine lstepB rfl rfl rfl (run_call1 cb43 (.cons (.tmp rfl) .nil) (fun w2 hS => (validK f oa wa da oc wc dc w2 hm.all (hf.kept hS.kept)).as (congrArg Value.bool hv))) ?_
  refine lstepB rfl rfl rfl (run_call1 cb42 (.cons (.tmp rfl) (.cons .const .nil)) (fun w2 _ => demand_ok 1 w2)) ?_
  have hv := validF hv
  refine lnil ?_
  refine xw_then ?_
  refine cw_seq ?_
  refine cw_region ?_
  refine lstepB rfl rfl rfl (run_load1_at (.tmp rfl) kd3 (fun w' hS => hS.old_cell (fun h => h) hs)) ?_
  refine lstepB rfl rfl rfl (run_geq (.tmp rfl) .const (by first | exact decide_eq_true (by omega) | exact decide_eq_false (by omega) | exact rfl)) ?_
  refine lstepB rfl rfl rfl (run_call1 cb42 (.cons (.tmp rfl) (.cons .const .nil)) (fun w2 _ => demand_ok 2 w2)) ?_
  refine lnil ?_
  refine xw_then ?_
  refine cw_seq ?_
  refine cw_region ?_
  refine lstepB rfl rfl rfl (run_loadN_at (l := furrowC f oa wa da oc wc dc) (.tmp rfl) kd24 sz24 rfl (fun w' hS j v hj => hS.old_cell (fun h => h) (hF j v hj))) ?_
  refine lcallN rfl cb44 (.cons (.tmp rfl) .nil) (F := fun (z0 : Option Addr × Nat) B0 w' => SpansAt w' z0.1 f.offs ∧ ∀ b o, z0.1 = some ⟨b, o, none⟩ → B0 ≤ b) (fun w2 hS => courseK f oa wa da oc wc dc w2 (by have := hv.len; omega) (hf.kept hS.kept)) ?_
  rintro ⟨ca, cq⟩ B1 wx hC hlo hsz hsz2 hx
  dsimp only at hC ⊢
  have hlen := hv.len
  have hfine := hv.fine
  have hb2 : ps < w.heap.size := World.block_lt_of_cell? _ _ hs
  refine lstepB rfl rfl rfl (run_assign (.tmp rfl)) ?_
  refine lnil ?_
  refine xw_then ?_
  refine cw_seq ?_
  refine cw_chain2 (σ := [0, 1, 3, 4, 5, 6, 2, 7, 8, 9, 10, 11, 12]) [⟨0, [], [], [], 0⟩, ⟨0, [], [], [], 1⟩, ⟨1, [], [], [0], 3⟩, ⟨0, [], [], [], 0⟩, ⟨0, [], [], [], 0⟩, ⟨0, [], [], [], 24⟩, ⟨0, [], [], [], 56⟩, ⟨0, [0], [], [], 127⟩, ⟨0, [], [], [], 255⟩, ⟨0, [], [], [], 511⟩, ⟨0, [], [], [], 511⟩, ⟨0, [], [], [], 1023⟩, ⟨0, [], [], [], 4095⟩] [] (by kernel_rfl) (by kernel_rfl) rfl ?_
  refine .det (B := []) rfl rfl (.inl rfl) .nil .nil rfl (RunB.lr (run_move (.tmp rfl))) ?_
  refine .det (B := []) rfl rfl (.inl rfl) .nil .nil rfl (RunB.lr (run_len (.tmp rfl) sl69)) ?_
  refine .det (B := []) rfl rfl (.inl rfl) .nil .nil rfl (RunB.lr (run_move (.tmp rfl))) ?_
  refine .det (B := []) rfl rfl (.inl rfl) .nil .nil rfl (RunB.lr (run_load1_at (.tmp rfl) kd3 (fun w' hS => hS.old_cell (hx.not_blk hb2 (fun h => h)) (hx.old_cell (fun h => h) hs)))) ?_
  refine .det (B := []) rfl rfl (.inl rfl) .nil .nil rfl (RunB.lr (run_build_at (.cons (.tmp rfl) (.cons (.tmp rfl) .nil)) (fun w => bd92_0_1 w))) ?_
  refine .det (B := []) rfl rfl (.inl rfl) .nil .nil rfl (RunB.lr (En.run_makeFunc (.cons (.tmp rfl) .nil) .nil)) ?_
  refine .ext (B := fun q => [(0, (q, _))]) rfl rfl (.inl rfl) .nil .nil (fun _ => rfl) ⟨0, trivial⟩ (lr_gives cb63 (.cons (.tmp rfl) .nil) (fun w2 hS => setsK _ w2)) ?_
  intro gN _
  refine .det (B := []) rfl rfl (.inl rfl) (.cons rfl .nil) .nil rfl (RunB.lr (run_call1 cb62 (.cons (.tmp rfl) (.cons (.tmp rfl) .nil)) (fun w2 hS => firstK (xs := (setsL f.offs.length).map fun (s : Nat) => (s : Int)) (Cap := fun c => c = gN) cb96 (sets_iter _ hlen gN w2 (hS.cell (by repeat (first | exact List.Mem.head _ | apply List.Mem.tail)) rfl)) (fun c hc => by subst hc; exact hS.lt (by repeat (first | exact List.Mem.head _ | apply List.Mem.tail))) (pred_saved hfine (by omega) most (rowsAt_old hC.1 hS (fun b o h hb => absurd (hlo _ hb) (by have := hC.2 b o h; omega))) _ (sets_small hlen))))) ?_
  refine .det (B := []) rfl rfl (.inl rfl) .nil .nil rfl (RunB.lr (run_move (.tmp rfl))) ?_
  refine .det (B := []) rfl rfl (.inl rfl) .nil .nil rfl (RunB.lr (run_extract (.tmp rfl) rfl)) ?_
  refine .det (B := []) rfl rfl (.inl rfl) .nil .nil rfl (RunB.lr (run_extract (.tmp rfl) rfl)) ?_
  refine .det (B := []) rfl rfl (.inl rfl) .nil .nil rfl (RunB.lr (run_assign (.tmp rfl))) ?_
  refine .det (B := []) rfl rfl (.inl rfl) .nil .nil rfl (RunB.lr (run_assign (.tmp rfl))) ?_
  refine chain_nil (ts := [0]) (.cons rfl .nil) (by decide) ?_
  refine xw_then ?_
  refine cw_seq ?_
  refine cw_region ?_
  refine lstepB rfl rfl rfl (run_move (.tmp rfl)) ?_
  refine lstepB rfl rfl rfl (run_assign (.tmp rfl)) ?_
  refine lnil ?_
  refine xw_then ?_
  refine cw_ret ?_
  refine xw_ret1 Try.results61 rfl (fun w hS => ⟨rfl, (hx.join0 hS).kept⟩)
end Go.Proofs.Ytjdeplehhmhpcaa
