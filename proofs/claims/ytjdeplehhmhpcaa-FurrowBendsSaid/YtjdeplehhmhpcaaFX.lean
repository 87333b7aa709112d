/- Package furrow: Shallow and Soil. -/
import Derived.Test.YtjdeplehhmhpcaaFW
namespace Go.Proofs.Ytjdeplehhmhpcaa
open Go.RowKit En

theorem along_zero {n : Nat} (h : n = 0) (v : Value) (w : World) : Gives Try.prog 69 [v, .int .i64 (n : Int)] w (.slice none 0 0) := by
  subst h
  exact along_nil v w
theorem along_self (l : List SpanD) : alongL l.length (fun k => l.getD k default) = l := by
  apply List.ext_getElem
  · rw [alongL_length]
  · intro i h1 h2
    have e := alongL_at (n := l.length) (G := fun k => l.getD k default) (k := i) h2
    obtain ⟨h3, h4⟩ := List.getElem?_eq_some_iff.1 e
    rw [List.getD_eq_getElem?_getD, List.getElem?_eq_getElem h2] at h4
    exact h4
theorem shallowKn {n : Nat} (l : List SpanD) (hl : l.length = n) (least : Int) (a : Option Addr) (c : Nat) (w : World) (hn : n ≤ 9) (hq : SpansAt w a l) : Gives Try.prog 68 [.slice a n c, .int .i64 least] w (.agg [.int .i64 ((shallowN l least n).1 : Int), .int .i64 ((shallowN l least n).2 : Int)].toArray) := by
  subst hl
  exact shallowK l least a c w hn hq
theorem sumKn {n : Nat} (l : List SpanD) (hln : l.length = n) (hl : ∀ s ∈ l, (0 ≤ s.lo ∧ s.lo ≤ 1000000) ∧ (0 ≤ s.hi ∧ s.hi ≤ 1000000)) (a : Option Addr) (c : Nat) (w : World) (hn : n ≤ 100) (hq : SpansAt w a l) : Gives Try.prog 71 [.slice a n c] w (spanV (sumN l n)) := by
  subst hln
  exact sumK l hl a c w hn hq
def soilS (f : FurrowD) : SpanD := sumN (prodL f) f.offs.length
set_option maxRecDepth 100000 in
set_option maxHeartbeats 4000000 in
theorem find67_range {f : FurrowD} {oa wa da : Option Addr} {oc wc dc pf : Nat} {w : World} (hm : Lens f) (hf : FurrowAt w f oa wa da) (hF : FurrowIn w pf f oa wa da oc wc dc) (hv : validB f = true) {least : Int} {ps : Nat} (hs : w.cell? ⟨ps, 0, none⟩ = some (.int .i64 least)) (hi : least < 0) : Pans Try.prog 67 [ptrV pf, ptrV ps] w [errP 2] := by
  refine enter (n := 18) Try.func67 rfl rfl rfl (by repeat (first | exact Fill.nil | apply Fill.cons)) ?_
  refine cw_seq ?_
  refine cw_region ?_
  refine lstep rfl rfl rfl (run_alloc zr81) ?_
  intro b2 _
  refine lnil ?_
  refine xw_then ?_
  refine cw_seq ?_
  refine cw_region ?_
  refine lstepB rfl rfl rfl (run_loadN_at (l := furrowC f oa wa da oc wc dc) (.tmp rfl) kd24 sz24 rfl (fun w' hS j v hj => hS.old_cell (fun h => h) (hF j v hj))) ?_
  refine lstepB rfl rfl rfl (run_call1 cb43 (.cons (.tmp rfl) .nil) (fun w2 hS => (validK f oa wa da oc wc dc w2 hm.all (hf.kept hS.kept)).as (congrArg Value.bool hv))) ?_
  refine lstepB rfl rfl rfl (run_call1 cb42 (.cons (.tmp rfl) (.cons .const .nil)) (fun w2 _ => demand_ok 1 w2)) ?_
  refine lnil ?_
  refine xw_then ?_
  refine cw_seq ?_
  refine cw_region ?_
  refine lstepB rfl rfl rfl (run_load1_at (.tmp rfl) kd3 (fun w' hS => hS.old_cell (fun h => h) hs)) ?_
  refine lstepB rfl rfl rfl (run_geq (.tmp rfl) .const (by first | exact decide_eq_true (by omega) | exact decide_eq_false (by omega) | exact rfl)) ?_
  refine lpans rfl cb42 (.cons (.tmp rfl) (.cons .const .nil)) (fun w2 _ => demand_bad 2 w2) ?_
  refine xw_then_panic ?_
  refine xw_panic (fun w hS => ⟨rfl, hS.kept⟩)
set_option maxRecDepth 100000 in
set_option maxHeartbeats 4000000 in
theorem find67_nil {f : FurrowD} {oa wa da : Option Addr} {oc wc dc pf : Nat} {w : World} (hm : Lens f) (hf : FurrowAt w f oa wa da) (hF : FurrowIn w pf f oa wa da oc wc dc) (hv : validB f = true) {least : Int} {ps : Nat} (hs : w.cell? ⟨ps, 0, none⟩ = some (.int .i64 least)) (hi : 0 ≤ least) (hn0 : f.deps.length = 0) : Gives Try.prog 67 [ptrV pf, ptrV ps] w (.agg [.int .i64 ((shallowN f.deps least f.deps.length).1 : Int), .int .i64 ((shallowN f.deps least f.deps.length).2 : Int)].toArray) := by
  refine .mk <| enter (n := 18) Try.func67 rfl rfl rfl (by repeat (first | exact Fill.nil | apply Fill.cons)) ?_
  refine cw_seq ?_
  refine cw_region ?_
  refine lstep rfl rfl rfl (run_alloc zr81) ?_
  intro b2 _
  refine lnil ?_
  refine xw_then ?_
  refine cw_seq ?_
  refine cw_region ?_
  refine lstepB rfl rfl rfl (run_loadN_at (l := furrowC f oa wa da oc wc dc) (.tmp rfl) kd24 sz24 rfl (fun w' hS j v hj => hS.old_cell (fun h => h) (hF j v hj))) ?_
  refine lstepB rfl rfl rfl (run_call1 cb43 (.cons (.tmp rfl) .nil) (fun w2 hS => (validK f oa wa da oc wc dc w2 hm.all (hf.kept hS.kept)).as (congrArg Value.bool hv))) ?_
  refine lstepB rfl rfl rfl (run_call1 cb42 (.cons (.tmp rfl) (.cons .const .nil)) (fun w2 _ => demand_ok 1 w2)) ?_
  refine lnil ?_
  refine xw_then ?_
  refine cw_seq ?_
  refine cw_region ?_
  refine lstepB rfl rfl rfl (run_load1_at (.tmp rfl) kd3 (fun w' hS => hS.old_cell (fun h => h) hs)) ?_
  refine lstepB rfl rfl rfl (run_geq (.tmp rfl) .const (by first | exact decide_eq_true (by omega) | exact decide_eq_false (by omega) | exact rfl)) ?_
  refine lstepB rfl rfl rfl (run_call1 cb42 (.cons (.tmp rfl) (.cons .const .nil)) (fun w2 _ => demand_ok 2 w2)) ?_
  have hv := validF hv
  have hlen := hv.len
  have hdl := hv.deps
  refine lnil ?_
  refine xw_then ?_
  refine cw_seq ?_
  have hd0 : f.deps = [] := List.eq_nil_of_length_eq_zero hn0
  refine cw_chain2 (σ := [0, 1, 2, 3, 4, 5, 6, 7, 8, 9]) [⟨0, [], [], [], 0⟩, ⟨0, [], [], [], 1⟩, ⟨0, [], [], [], 3⟩, ⟨0, [], [], [], 0⟩, ⟨0, [], [], [], 8⟩, ⟨0, [], [], [], 24⟩, ⟨0, [], [], [], 63⟩, ⟨0, [], [], [], 0⟩, ⟨0, [], [], [], 255⟩, ⟨0, [], [0], [0], 511⟩] [(0, _)] (by kernel_rfl) (by kernel_rfl) rfl ?_
  refine .det (B := []) rfl rfl (.inl rfl) .nil .nil rfl (RunB.lr (run_loadN_at (l := furrowC f oa wa da oc wc dc) (.tmp rfl) kd24 sz24 rfl (fun w' hS j v hj => hS.old_cell (fun h => h) (hF j v hj)))) ?_
  refine .det (B := []) rfl rfl (.inl rfl) .nil .nil rfl (RunB.lr (run_build_at (.cons (.tmp rfl) .nil) (fun w => bd99_0 w))) ?_
  refine .det (B := []) rfl rfl (.inl rfl) .nil .nil rfl (RunB.lr (En.run_makeInterface (.tmp rfl) if99)) ?_
  refine .det (B := []) rfl rfl (.inl rfl) .nil .nil rfl (RunB.lr (run_fieldAddr (.tmp rfl) fa24_2 (by first | exact Nat.zero_add _ | exact rfl))) ?_
  refine .det (B := []) rfl rfl (.inl rfl) .nil .nil rfl (RunB.lr (run_load1_at (.tmp rfl) kd22 (fun w' hS => hS.old_cell (fun h => h) (hF 2 _ rfl)))) ?_
  refine .det (B := []) rfl rfl (.inl rfl) .nil .nil rfl (RunB.lr (run_len (.tmp rfl) sl22)) ?_
  refine .det (B := []) rfl rfl (.inl rfl) .nil .nil rfl (RunB.lr (run_call1 cb69 (.cons (.tmp rfl) (.cons (.tmp rfl) .nil)) (fun w2 _ => along_zero hn0 _ w2))) ?_
  refine .det (B := []) rfl rfl (.inl rfl) .nil .nil rfl (RunB.lr (run_load1_at (.tmp rfl) kd3 (fun w' hS => hS.old_cell (fun h => h) hs))) ?_
  refine .det (B := []) rfl rfl (.inl rfl) .nil .nil rfl (RunB.lr (run_call1 cb68 (.cons (.tmp rfl) (.cons (.tmp rfl) .nil)) (fun w2 _ => shallowKn (n := 0) [] rfl least none 0 w2 (by omega) (fun i r h => by simp at h)))) ?_
  refine .det (B := [(0, (_, _))]) rfl rfl (.inl rfl) .nil (.cons rfl .nil) rfl (lr_storeN (.tmp rfl) (.tmp rfl) rfl sz81 rfl (by repeat (first | exact Put.done | apply Put.put | apply Put.skip))) ?_
  refine chain_nil (ts := [0]) (.cons rfl .nil) (by decide) ?_
  refine xw_then ?_
  refine cw_ret ?_
  refine xw_retC1 rfl rfl kd81 sz81 (by repeat (first | exact List.Mem.head _ | apply List.Mem.tail)) (by repeat (first | exact Sub.done | apply Sub.take | apply Sub.skip)) (fun w hS => ⟨by rw [hd0]; rfl, hS.kept⟩)
set_option maxRecDepth 100000 in
set_option maxHeartbeats 4000000 in
theorem find67_cons {f : FurrowD} {oa wa da : Option Addr} {oc wc dc pf : Nat} {w : World} (hm : Lens f) (hf : FurrowAt w f oa wa da) (hF : FurrowIn w pf f oa wa da oc wc dc) (hv : validB f = true) {least : Int} {ps : Nat} (hs : w.cell? ⟨ps, 0, none⟩ = some (.int .i64 least)) (hi : 0 ≤ least) (hn1 : 1 ≤ f.deps.length) : Gives Try.prog 67 [ptrV pf, ptrV ps] w (.agg [.int .i64 ((shallowN f.deps least f.deps.length).1 : Int), .int .i64 ((shallowN f.deps least f.deps.length).2 : Int)].toArray) := by
  refine .mk <| enter (n := 18) Try.func67 rfl rfl rfl (by repeat (first | exact Fill.nil | apply Fill.cons)) ?_
  refine cw_seq ?_
  refine cw_region ?_
  refine lstep rfl rfl rfl (run_alloc zr81) ?_
  intro b2 _
  refine lnil ?_
  refine xw_then ?_
  refine cw_seq ?_
  refine cw_region ?_
  refine lstepB rfl rfl rfl (run_loadN_at (l := furrowC f oa wa da oc wc dc) (.tmp rfl) kd24 sz24 rfl (fun w' hS j v hj => hS.old_cell (fun h => h) (hF j v hj))) ?_
  refine lstepB rfl rfl rfl (run_call1 cb43 (.cons (.tmp rfl) .nil) (fun w2 hS => (validK f oa wa da oc wc dc w2 hm.all (hf.kept hS.kept)).as (congrArg Value.bool hv))) ?_
  refine lstepB rfl rfl rfl (run_call1 cb42 (.cons (.tmp rfl) (.cons .const .nil)) (fun w2 _ => demand_ok 1 w2)) ?_
  refine lnil ?_
  refine xw_then ?_
  refine cw_seq ?_
  refine cw_region ?_
  refine lstepB rfl rfl rfl (run_load1_at (.tmp rfl) kd3 (fun w' hS => hS.old_cell (fun h => h) hs)) ?_
  refine lstepB rfl rfl rfl (run_geq (.tmp rfl) .const (by first | exact decide_eq_true (by omega) | exact decide_eq_false (by omega) | exact rfl)) ?_
  refine lstepB rfl rfl rfl (run_call1 cb42 (.cons (.tmp rfl) (.cons .const .nil)) (fun w2 _ => demand_ok 2 w2)) ?_
  have hv := validF hv
  have hlen := hv.len
  have hdl := hv.deps
  refine lnil ?_
  refine xw_then ?_
  refine cw_seq ?_
  refine cw_chain2 (σ := [0, 1, 2, 3, 4, 5, 7, 6, 8, 9]) [⟨0, [], [], [], 0⟩, ⟨0, [], [], [], 1⟩, ⟨0, [], [], [], 3⟩, ⟨0, [], [], [], 0⟩, ⟨0, [], [], [], 8⟩, ⟨0, [], [], [], 24⟩, ⟨1, [], [], [1], 63⟩, ⟨0, [], [], [], 0⟩, ⟨0, [1], [], [], 255⟩, ⟨0, [], [0], [0], 511⟩] [(0, _)] (by kernel_rfl) (by kernel_rfl) rfl ?_
  refine .det (B := []) rfl rfl (.inl rfl) .nil .nil rfl (RunB.lr (run_loadN_at (l := furrowC f oa wa da oc wc dc) (.tmp rfl) kd24 sz24 rfl (fun w' hS j v hj => hS.old_cell (fun h => h) (hF j v hj)))) ?_
  refine .det (B := []) rfl rfl (.inl rfl) .nil .nil rfl (RunB.lr (run_build_at (.cons (.tmp rfl) .nil) (fun w => bd99_0 w))) ?_
  refine .det (B := []) rfl rfl (.inl rfl) .nil .nil rfl (RunB.lr (En.run_makeInterface (.tmp rfl) if99)) ?_
  refine .det (B := []) rfl rfl (.inl rfl) .nil .nil rfl (RunB.lr (run_fieldAddr (.tmp rfl) fa24_2 (by first | exact Nat.zero_add _ | exact rfl))) ?_
  refine .det (B := []) rfl rfl (.inl rfl) .nil .nil rfl (RunB.lr (run_load1_at (.tmp rfl) kd22 (fun w' hS => hS.old_cell (fun h => h) (hF 2 _ rfl)))) ?_
  refine .det (B := []) rfl rfl (.inl rfl) .nil .nil rfl (RunB.lr (run_len (.tmp rfl) sl22)) ?_
  refine .det (B := []) rfl rfl (.inl rfl) .nil .nil rfl (RunB.lr (run_load1_at (.tmp rfl) kd3 (fun w' hS => hS.old_cell (fun h => h) hs))) ?_
  refine .ext (B := fun q => [(1, (q.1, _))]) rfl rfl (.inl rfl) .nil .nil (fun _ => rfl) (inrow_some (by rw [spansC_length, alongL_length]) (by unfold maxLen; omega)) (lr_gives cb69 (.cons (.tmp rfl) (.cons (.tmp rfl) .nil)) (fun w2 hS => along_cons f.deps.length (fun k => f.deps.getD k default) cb128 meth99 w2 (by omega) (by omega) (fun k hk w3 hb => depthAtK f oa wa da oc wc dc k _ (getD_some hk) w3 (by omega) (hf.kept (hS.kept.trans (hb.mono hS.size)))))) ?_
  rintro ⟨gA, cA, rA⟩ hA0
  refine .det (B := []) rfl rfl (.inl rfl) (.cons rfl .nil) .nil rfl (RunB.lr (run_call1 cb68 (.cons (.tmp rfl) (.cons (.tmp rfl) .nil)) (fun w2 hS => shallowK f.deps least _ _ w2 (by omega) (by have hA1 := hA0; rw [along_self] at hA1; exact spansAt_row (hS.mem (by repeat (first | exact List.Mem.head _ | apply List.Mem.tail))) hA1)))) ?_
  refine .det (B := [(0, (_, _))]) rfl rfl (.inl rfl) .nil (.cons rfl .nil) rfl (lr_storeN (.tmp rfl) (.tmp rfl) rfl sz81 rfl (by repeat (first | exact Put.done | apply Put.put | apply Put.skip))) ?_
  refine chain_nil (ts := [1, 0]) (.cons rfl (.cons rfl .nil)) (by decide) ?_
  refine xw_then ?_
  refine cw_ret ?_
  refine xw_retC1 rfl rfl kd81 sz81 (by repeat (first | exact List.Mem.head _ | apply List.Mem.tail)) (by repeat (first | exact Sub.done | apply Sub.take | apply Sub.skip)) (fun w hS => ⟨rfl, hS.kept⟩)
theorem find67_ok {f : FurrowD} {oa wa da : Option Addr} {oc wc dc pf : Nat} {w : World} (hm : Lens f) (hf : FurrowAt w f oa wa da) (hF : FurrowIn w pf f oa wa da oc wc dc) (hv : validB f = true) {least : Int} {ps : Nat} (hs : w.cell? ⟨ps, 0, none⟩ = some (.int .i64 least)) (hi : 0 ≤ least) : Gives Try.prog 67 [ptrV pf, ptrV ps] w (.agg [.int .i64 ((shallowN f.deps least f.deps.length).1 : Int), .int .i64 ((shallowN f.deps least f.deps.length).2 : Int)].toArray) := by
  rcases Nat.eq_zero_or_pos f.deps.length with h | h
  · exact find67_nil hm hf hF hv hs hi h
  · exact find67_cons hm hf hF hv hs hi h
set_option maxRecDepth 100000 in
set_option maxHeartbeats 4000000 in
theorem find70_nil {f : FurrowD} {oa wa da : Option Addr} {oc wc dc pf : Nat} {w : World} (hm : Lens f) (hf : FurrowAt w f oa wa da) (hF : FurrowIn w pf f oa wa da oc wc dc) (hv : validB f = true) (hn0 : f.wids.length = 0) : Gives Try.prog 70 [ptrV pf] w (spanV (soilS f)) := by
  refine .mk <| enter (n := 14) Try.func70 rfl rfl rfl (by repeat (first | exact Fill.nil | apply Fill.cons)) ?_
  refine cw_seq ?_
  refine cw_region ?_
  refine lstep rfl rfl rfl (run_alloc zr28) ?_
  intro b1 _
  refine lnil ?_
  refine xw_then ?_
  refine cw_seq ?_
  refine cw_region ?_
  refine lstepB rfl rfl rfl (run_loadN_at (l := furrowC f oa wa da oc wc dc) (.tmp rfl) kd24 sz24 rfl (fun w' hS j v hj => hS.old_cell (fun h => h) (hF j v hj))) ?_
  refine lstepB rfl rfl rfl (run_call1 cb43 (.cons (.tmp rfl) .nil) (fun w2 hS => (validK f oa wa da oc wc dc w2 hm.all (hf.kept hS.kept)).as (congrArg Value.bool hv))) ?_
  refine lstepB rfl rfl rfl (run_call1 cb42 (.cons (.tmp rfl) (.cons .const .nil)) (fun w2 _ => demand_ok 1 w2)) ?_
  have hv := validF hv
  have hlen := hv.len
  have hdl := hv.deps
  have hwl := hv.wids
  refine lnil ?_
  refine xw_then ?_
  refine cw_seq ?_
  refine cw_region ?_
  refine lstepB rfl rfl rfl (run_loadN_at (l := furrowC f oa wa da oc wc dc) (.tmp rfl) kd24 sz24 rfl (fun w' hS j v hj => hS.old_cell (fun h => h) (hF j v hj))) ?_
  refine lstepB rfl rfl rfl (run_build_at (.cons (.tmp rfl) .nil) (fun w => bd101_0 w)) ?_
  refine lstepB rfl rfl rfl (En.run_makeInterface (.tmp rfl) if101) ?_
  refine lstepB rfl rfl rfl (run_fieldAddr (.tmp rfl) fa24_1 (by first | exact Nat.zero_add _ | exact rfl)) ?_
  refine lstepB rfl rfl rfl (run_load1_at (.tmp rfl) kd22 (fun w' hS => hS.old_cell (fun h => h) (hF 1 _ rfl))) ?_
  refine lstepB rfl rfl rfl (run_len (.tmp rfl) sl22) ?_
  refine lstepB rfl rfl rfl (run_call1 cb69 (.cons (.tmp rfl) (.cons (.tmp rfl) .nil)) (fun w2 _ => along_zero hn0 _ w2)) ?_
  refine lstepB rfl rfl rfl (run_call1 cb71 (.cons (.tmp rfl) .nil) (fun w2 _ => sumKn (n := 0) [] rfl (fun s h => by cases h) none 0 w2 (by omega) (fun i r h => by simp at h))) ?_
  refine lstepB rfl rfl rfl (run_fieldN (.tmp rfl) ft67_0 kd28 sz28 (by repeat (first | exact Sub.done | apply Sub.take | apply Sub.skip))) ?_
  refine lstep0 rfl rfl (run_storeN (.tmp rfl) (.tmp rfl) rfl sz28 rfl (by repeat (first | exact Upd.here | apply Upd.there)) (by repeat (first | exact Put.done | apply Put.put | apply Put.skip))) ?_
  refine lnil ?_
  refine xw_then ?_
  refine cw_ret ?_
  refine xw_retC1 rfl rfl kd28 sz28 (by repeat (first | exact List.Mem.head _ | apply List.Mem.tail)) (by repeat (first | exact Sub.done | apply Sub.take | apply Sub.skip)) (fun w hS => ⟨by unfold soilS; rw [show f.offs.length = 0 by omega]; rfl, hS.kept⟩)
set_option maxRecDepth 100000 in
set_option maxHeartbeats 4000000 in
theorem find70_cons {f : FurrowD} {oa wa da : Option Addr} {oc wc dc pf : Nat} {w : World} (hm : Lens f) (hf : FurrowAt w f oa wa da) (hF : FurrowIn w pf f oa wa da oc wc dc) (hv : validB f = true) (hn1 : 1 ≤ f.wids.length) : Gives Try.prog 70 [ptrV pf] w (spanV (soilS f)) := by
  refine .mk <| enter (n := 14) Try.func70 rfl rfl rfl (by repeat (first | exact Fill.nil | apply Fill.cons)) ?_
  refine cw_seq ?_
  refine cw_region ?_
  refine lstep rfl rfl rfl (run_alloc zr28) ?_
  intro b1 _
  refine lnil ?_
  refine xw_then ?_
  refine cw_seq ?_
  refine cw_region ?_
  refine lstepB rfl rfl rfl (run_loadN_at (l := furrowC f oa wa da oc wc dc) (.tmp rfl) kd24 sz24 rfl (fun w' hS j v hj => hS.old_cell (fun h => h) (hF j v hj))) ?_
  refine lstepB rfl rfl rfl (run_call1 cb43 (.cons (.tmp rfl) .nil) (fun w2 hS => (validK f oa wa da oc wc dc w2 hm.all (hf.kept hS.kept)).as (congrArg Value.bool hv))) ?_
  refine lstepB rfl rfl rfl (run_call1 cb42 (.cons (.tmp rfl) (.cons .const .nil)) (fun w2 _ => demand_ok 1 w2)) ?_
  have hv := validF hv
  have hlen := hv.len
  have hdl := hv.deps
  have hwl := hv.wids
  refine lnil ?_
  refine xw_then ?_
  refine cw_seq ?_
  refine cw_region ?_
  refine lstepB rfl rfl rfl (run_loadN_at (l := furrowC f oa wa da oc wc dc) (.tmp rfl) kd24 sz24 rfl (fun w' hS j v hj => hS.old_cell (fun h => h) (hF j v hj))) ?_
  refine lstepB rfl rfl rfl (run_build_at (.cons (.tmp rfl) .nil) (fun w => bd101_0 w)) ?_
  refine lstepB rfl rfl rfl (En.run_makeInterface (.tmp rfl) if101) ?_
  refine lstepB rfl rfl rfl (run_fieldAddr (.tmp rfl) fa24_1 (by first | exact Nat.zero_add _ | exact rfl)) ?_
  refine lstepB rfl rfl rfl (run_load1_at (.tmp rfl) kd22 (fun w' hS => hS.old_cell (fun h => h) (hF 1 _ rfl))) ?_
  refine lstepB rfl rfl rfl (run_len (.tmp rfl) sl22) ?_
  refine lstep rfl rfl rfl (LR.runs (R := []) (A := []) (lr_gives cb69 (.cons (.tmp rfl) (.cons (.tmp rfl) .nil)) (fun w2 hS => along_cons f.wids.length (fun k => timesS (f.wids.getD k default) (f.deps.getD k default)) cb129 meth101 w2 (by omega) (by omega) (fun k hk w3 hb => by obtain ⟨_, q2, q3⟩ := hv.st (k := k) (by omega); exact productAtK f oa wa da oc wc dc k _ _ (getD_some hk) (getD_some (by omega)) (by omega) (by omega) (by omega) (by omega) w3 (by omega) (hf.kept (hS.kept.trans (hb.mono hS.size)))))) (by repeat (first | exact Pick.nil | (apply Pick.cons; focus (repeat (first | exact Del.here | apply Del.there))))) (by repeat (first | exact Dels.nil | (apply Dels.cons; focus (repeat (first | exact Del.here | apply Del.there)))))) ?_
  intro ⟨gA, cA, rA⟩ hA0
  have hpe : alongL f.wids.length (fun k => timesS (f.wids.getD k default) (f.deps.getD k default)) = prodL f := by rw [hwl]; rfl
  rw [hpe] at hA0
  refine lstepB rfl rfl rfl (run_call1 cb71 (.cons (.tmp rfl) .nil) (fun w2 hS => sumKn (prodL f) (by rw [prodL, alongL_length, hwl]) (prodL_small hv) _ _ w2 (by omega) (spansAt_row (hS.mem (by repeat (first | exact List.Mem.head _ | apply List.Mem.tail))) hA0))) ?_
  refine lstepB rfl rfl rfl (run_fieldN (.tmp rfl) ft67_0 kd28 sz28 (by repeat (first | exact Sub.done | apply Sub.take | apply Sub.skip))) ?_
  refine lstep0 rfl rfl (run_storeN (.tmp rfl) (.tmp rfl) rfl sz28 rfl (by repeat (first | exact Upd.here | apply Upd.there)) (by repeat (first | exact Put.done | apply Put.put | apply Put.skip))) ?_
  refine lnil ?_
  refine xw_then ?_
  refine cw_ret ?_
  refine xw_retC1 rfl rfl kd28 sz28 (by repeat (first | exact List.Mem.head _ | apply List.Mem.tail)) (by repeat (first | exact Sub.done | apply Sub.take | apply Sub.skip)) (fun w hS => ⟨by unfold soilS; rw [← hwl], hS.kept⟩)
theorem find70_ok {f : FurrowD} {oa wa da : Option Addr} {oc wc dc pf : Nat} {w : World} (hm : Lens f) (hf : FurrowAt w f oa wa da) (hF : FurrowIn w pf f oa wa da oc wc dc) (hv : validB f = true) : Gives Try.prog 70 [ptrV pf] w (spanV (soilS f)) := by
  rcases Nat.eq_zero_or_pos f.wids.length with h | h
  · exact find70_nil hm hf hF hv h
  · exact find70_cons hm hf hF hv h
end Go.Proofs.Ytjdeplehhmhpcaa
