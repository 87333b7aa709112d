/- Package furrow: what was measured along a furrow. -/
import Derived.Test.YtjdeplehhmhpcaaFT
namespace Go.Proofs.Ytjdeplehhmhpcaa
open Go.RowKit En

def timesS (s t : SpanD) : SpanD := ⟨s.lo * t.lo, s.hi * t.hi⟩
theorem meth99 : MethB Try.prog 99 "furrowworks/furrow.at" 128 := fun v w => by kernel_rfl
theorem meth101 : MethB Try.prog 101 "furrowworks/furrow.at" 129 := fun v w => by kernel_rfl
def alongL (n : Nat) (G : Nat → SpanD) : List SpanD := (List.range n).map G
theorem alongL_length (n : Nat) (G : Nat → SpanD) : (alongL n G).length = n := by simp [alongL]
theorem alongL_at {n k : Nat} {G : Nat → SpanD} (h : k < n) : (alongL n G)[k]? = some (G k) := by simp [alongL, h]
abbrev spanV (s : SpanD) : Value := .agg (spanC s).toArray
theorem mul_small {a b : Int} (ha : 0 ≤ a ∧ a ≤ 1000) (hb : 0 ≤ b ∧ b ≤ 1000) : 0 ≤ a * b ∧ a * b ≤ 1000000 := ⟨Int.mul_nonneg ha.1 hb.1, by have := Int.mul_le_mul ha.2 hb.2 hb.1 (by omega : (0 : Int) ≤ 1000); omega⟩
set_option maxRecDepth 100000 in
set_option maxHeartbeats 4000000 in
theorem timesK (s t : SpanD) (w : World) (h1 : 0 ≤ s.lo ∧ s.lo ≤ 1000) (h2 : 0 ≤ s.hi ∧ s.hi ≤ 1000) (h3 : 0 ≤ t.lo ∧ t.lo ≤ 1000) (h4 : 0 ≤ t.hi ∧ t.hi ≤ 1000) : Gives Try.prog 130 [spanV s, spanV t] w (spanV (timesS s t)) := by
  refine .mk <| enter (n := 20) Try.func130 rfl rfl rfl (by repeat (first | exact Fill.nil | apply Fill.cons)) ?_
  refine cw_seq ?_
  refine cw_region ?_
  refine lstep rfl rfl rfl (run_boxN (.tmp rfl)) ?_
  intro b2 _
  refine lstep rfl rfl rfl (run_boxN (.tmp rfl)) ?_
  intro b3 _
  refine lstep rfl rfl rfl (run_alloc zr67) ?_
  intro b4 _
  refine lnil ?_
  refine xw_then ?_
  refine cw_seq ?_
  refine cw_region ?_
  refine lstepB rfl rfl rfl (run_fieldAddr (.tmp rfl) fa67_0 (by first | exact Nat.zero_add _ | exact rfl)) ?_
  refine lstepB rfl rfl rfl (run_fieldAddr (.tmp rfl) fa28_0 (by first | exact Nat.zero_add _ | exact rfl)) ?_
  refine lstepB rfl rfl rfl (run_load1 (.tmp rfl) kd3 (by repeat (first | exact List.Mem.head _ | apply List.Mem.tail)) (by exact rfl)) ?_
  refine lstepB rfl rfl rfl (run_fieldAddr (.tmp rfl) fa67_0 (by first | exact Nat.zero_add _ | exact rfl)) ?_
  refine lstepB rfl rfl rfl (run_fieldAddr (.tmp rfl) fa28_0 (by first | exact Nat.zero_add _ | exact rfl)) ?_
  refine lstepB rfl rfl rfl (run_load1 (.tmp rfl) kd3 (by repeat (first | exact List.Mem.head _ | apply List.Mem.tail)) (by exact rfl)) ?_
  refine lstepB rfl rfl rfl (run_mul (c := s.lo * t.lo) (.tmp rfl) (.tmp rfl) (IntWalk.i64_in _ (by have := mul_small h1 h3; omega))) ?_
  refine lstepB rfl rfl rfl (run_fieldAddr (.tmp rfl) fa67_0 (by first | exact Nat.zero_add _ | exact rfl)) ?_
  refine lstepB rfl rfl rfl (run_fieldAddr (.tmp rfl) fa28_1 (by first | exact Nat.zero_add _ | exact rfl)) ?_
  refine lstepB rfl rfl rfl (run_load1 (.tmp rfl) kd3 (by repeat (first | exact List.Mem.head _ | apply List.Mem.tail)) (by exact rfl)) ?_
  refine lstepB rfl rfl rfl (run_fieldAddr (.tmp rfl) fa67_0 (by first | exact Nat.zero_add _ | exact rfl)) ?_
  refine lstepB rfl rfl rfl (run_fieldAddr (.tmp rfl) fa28_1 (by first | exact Nat.zero_add _ | exact rfl)) ?_
  refine lstepB rfl rfl rfl (run_load1 (.tmp rfl) kd3 (by repeat (first | exact List.Mem.head _ | apply List.Mem.tail)) (by exact rfl)) ?_
  refine lstepB rfl rfl rfl (run_mul (c := s.hi * t.hi) (.tmp rfl) (.tmp rfl) (IntWalk.i64_in _ (by have := mul_small h2 h4; omega))) ?_
  refine lstepB rfl rfl rfl (run_call1 cb83 (.cons (.tmp rfl) (.cons (.tmp rfl) .nil)) (fun w2 _ => betweenK _ _ w2)) ?_
  refine lstep0 rfl rfl (run_storeN (.tmp rfl) (.tmp rfl) rfl sz67 rfl (by repeat (first | exact Upd.here | apply Upd.there)) (by repeat (first | exact Put.done | apply Put.put | apply Put.skip))) ?_
  refine lnil ?_
  refine xw_then ?_
  refine cw_ret ?_
  refine xw_retC1 rfl rfl kd67 sz67 (by repeat (first | exact List.Mem.head _ | apply List.Mem.tail)) (by repeat (first | exact Sub.done | apply Sub.take | apply Sub.skip)) (fun w hS => ⟨rfl, hS.kept⟩)
set_option maxRecDepth 100000 in
set_option maxHeartbeats 4000000 in
theorem depthAtK (f : FurrowD) (oa wa da : Option Addr) (oc wc dc : Nat) (k : Nat) (s : SpanD) (hs : f.deps[k]? = some s) (w : World) (hn : f.deps.length ≤ 1000) (hf : FurrowAt w f oa wa da) : Gives Try.prog 128 [furrowV f oa wa da oc wc dc, .int .i64 (k : Int)] w (spanV s) := by
  refine .mk <| enter (n := 12) Try.func128 rfl rfl rfl (by repeat (first | exact Fill.nil | apply Fill.cons)) ?_
  obtain ⟨b, o, hda, hb, hc⟩ := hf.deps.span (by have := (List.getElem?_eq_some_iff.1 hs).1; omega)
  subst hda
  have hlt := (List.getElem?_eq_some_iff.1 hs).1
  refine cw_seq ?_
  refine cw_region ?_
  refine lstep rfl rfl rfl (run_boxN (.tmp rfl)) ?_
  intro b2 _
  refine lstep rfl rfl rfl (run_alloc zr67) ?_
  intro b4 _
  refine lnil ?_
  refine xw_then ?_
  refine cw_seq ?_
  refine cw_region ?_
  refine lstepB rfl rfl rfl (run_fieldAddr (.tmp rfl) fa99_0 (by first | exact Nat.zero_add _ | exact rfl)) ?_
  refine lstepB rfl rfl rfl (run_fieldAddr (.tmp rfl) fa24_2 (by first | exact Nat.zero_add _ | exact rfl)) ?_
  refine lstepB rfl rfl rfl (run_load1 (.tmp rfl) kd22 (by repeat (first | exact List.Mem.head _ | apply List.Mem.tail)) (by exact rfl)) ?_
  refine lstepB rfl rfl rfl (run_move (.tmp rfl)) ?_
  refine lstepB rfl rfl rfl (run_indexAddr (i := k) (off' := o + k * 2) (.tmp rfl) (.tmp rfl) el22 (by omega) rfl) ?_
  refine lstepB rfl rfl rfl (run_loadN_at (l := spanC s) (.tmp rfl) kd28 sz28 rfl (fun w' hS j v hj => hS.old_cell (fun h => h) (hc k s hs j v hj))) ?_
  refine lstepB rfl rfl rfl (run_build_at (.cons (.tmp rfl) .nil) (fun w => bd67_0 w)) ?_
  refine lstep0 rfl rfl (run_storeN (.tmp rfl) (.tmp rfl) rfl sz67 rfl (by repeat (first | exact Upd.here | apply Upd.there)) (by repeat (first | exact Put.done | apply Put.put | apply Put.skip))) ?_
  refine lnil ?_
  refine xw_then ?_
  refine cw_ret ?_
  refine xw_retC1 rfl rfl kd67 sz67 (by repeat (first | exact List.Mem.head _ | apply List.Mem.tail)) (by repeat (first | exact Sub.done | apply Sub.take | apply Sub.skip)) (fun w hS => ⟨rfl, hS.kept⟩)
set_option maxRecDepth 100000 in
set_option maxHeartbeats 4000000 in
theorem productAtK (f : FurrowD) (oa wa da : Option Addr) (oc wc dc : Nat) (k : Nat) (s t : SpanD) (hs : f.wids[k]? = some s) (ht : f.deps[k]? = some t) (h1 : 0 ≤ s.lo ∧ s.lo ≤ 1000) (h2 : 0 ≤ s.hi ∧ s.hi ≤ 1000) (h3 : 0 ≤ t.lo ∧ t.lo ≤ 1000) (h4 : 0 ≤ t.hi ∧ t.hi ≤ 1000) (w : World) (hn : f.deps.length ≤ 1000 ∧ f.wids.length ≤ 1000) (hf : FurrowAt w f oa wa da) : Gives Try.prog 129 [furrowV f oa wa da oc wc dc, .int .i64 (k : Int)] w (spanV (timesS s t)) := by
  refine .mk <| enter (n := 20) Try.func129 rfl rfl rfl (by repeat (first | exact Fill.nil | apply Fill.cons)) ?_
  obtain ⟨b, o, hda, hb, hc⟩ := hf.deps.span (by have := (List.getElem?_eq_some_iff.1 ht).1; omega)
  obtain ⟨b', o', hwa, hb', hc'⟩ := hf.wids.span (by have := (List.getElem?_eq_some_iff.1 hs).1; omega)
  subst hda hwa
  have hlt := (List.getElem?_eq_some_iff.1 hs).1
  have hlt' := (List.getElem?_eq_some_iff.1 ht).1
  refine cw_seq ?_
  refine cw_region ?_
  refine lstep rfl rfl rfl (run_boxN (.tmp rfl)) ?_
  intro b2 _
  refine lstep rfl rfl rfl (run_alloc zr67) ?_
  intro b4 _
  refine lnil ?_
  refine xw_then ?_
  refine cw_seq ?_
  refine cw_chain2 (σ := [0, 1, 2, 3, 4, 5, 6, 7, 8, 9, 10, 11, 12, 13, 14, 15]) [⟨0, [], [], [], 0⟩, ⟨0, [], [], [], 1⟩, ⟨0, [1], [], [], 3⟩, ⟨0, [], [], [], 0⟩, ⟨0, [], [], [], 15⟩, ⟨0, [], [], [], 31⟩, ⟨0, [], [], [], 63⟩, ⟨0, [], [], [], 0⟩, ⟨0, [], [], [], 128⟩, ⟨0, [1], [], [], 384⟩, ⟨0, [], [], [], 0⟩, ⟨0, [], [], [], 1920⟩, ⟨0, [], [], [], 3968⟩, ⟨0, [], [], [], 8064⟩, ⟨0, [], [], [], 16383⟩, ⟨0, [], [0], [0], 32767⟩] [(0, _), (1, _)] (by kernel_rfl) (by kernel_rfl) rfl ?_
  refine .det (B := []) rfl rfl (.inl rfl) .nil .nil rfl (RunB.lr (run_fieldAddr (.tmp rfl) fa101_0 (by first | exact Nat.zero_add _ | exact rfl))) ?_
  refine .det (B := []) rfl rfl (.inl rfl) .nil .nil rfl (RunB.lr (run_fieldAddr (.tmp rfl) fa24_1 (by first | exact Nat.zero_add _ | exact rfl))) ?_
  refine .det (B := []) rfl rfl (.inl rfl) (.cons rfl .nil) .nil rfl (RunB.lr (run_load1 (.tmp rfl) kd22 (by repeat (first | exact List.Mem.head _ | apply List.Mem.tail)) (by exact rfl))) ?_
  refine .det (B := []) rfl rfl (.inl rfl) .nil .nil rfl (RunB.lr (run_move (.tmp rfl))) ?_
  refine .det (B := []) rfl rfl (.inl rfl) .nil .nil rfl (RunB.lr (run_indexAddr (i := k) (off' := o' + k * 2) (.tmp rfl) (.tmp rfl) el22 (by omega) rfl)) ?_
  refine .det (B := []) rfl rfl (.inl rfl) .nil .nil rfl (RunB.lr (run_loadN_at (l := spanC s) (.tmp rfl) kd28 sz28 rfl (fun w' hS j v hj => hS.old_cell (fun h => h) (hc' k s hs j v hj)))) ?_
  refine .det (B := []) rfl rfl (.inl rfl) .nil .nil rfl (RunB.lr (run_build_at (.cons (.tmp rfl) .nil) (fun w => bd67_0 w))) ?_
  refine .det (B := []) rfl rfl (.inl rfl) .nil .nil rfl (RunB.lr (run_fieldAddr (.tmp rfl) fa101_0 (by first | exact Nat.zero_add _ | exact rfl))) ?_
  refine .det (B := []) rfl rfl (.inl rfl) .nil .nil rfl (RunB.lr (run_fieldAddr (.tmp rfl) fa24_2 (by first | exact Nat.zero_add _ | exact rfl))) ?_
  refine .det (B := []) rfl rfl (.inl rfl) (.cons rfl .nil) .nil rfl (RunB.lr (run_load1 (.tmp rfl) kd22 (by repeat (first | exact List.Mem.head _ | apply List.Mem.tail)) (by exact rfl))) ?_
  refine .det (B := []) rfl rfl (.inl rfl) .nil .nil rfl (RunB.lr (run_move (.tmp rfl))) ?_
  refine .det (B := []) rfl rfl (.inl rfl) .nil .nil rfl (RunB.lr (run_indexAddr (i := k) (off' := o + k * 2) (.tmp rfl) (.tmp rfl) el22 (by omega) rfl)) ?_
  refine .det (B := []) rfl rfl (.inl rfl) .nil .nil rfl (RunB.lr (run_loadN_at (l := spanC t) (.tmp rfl) kd28 sz28 rfl (fun w' hS j v hj => hS.old_cell (fun h => h) (hc k t ht j v hj)))) ?_
  refine .det (B := []) rfl rfl (.inl rfl) .nil .nil rfl (RunB.lr (run_build_at (.cons (.tmp rfl) .nil) (fun w => bd67_0 w))) ?_
  refine .det (B := []) rfl rfl (.inl rfl) .nil .nil rfl (RunB.lr (run_call1 cb130 (.cons (.tmp rfl) (.cons (.tmp rfl) .nil)) (fun w2 _ => timesK s t w2 h1 h2 h3 h4))) ?_
  refine .det (B := [(0, (_, _))]) rfl rfl (.inl rfl) .nil (.cons rfl .nil) rfl (lr_storeN (.tmp rfl) (.tmp rfl) rfl sz67 rfl (by repeat (first | exact Put.done | apply Put.put | apply Put.skip))) ?_
  refine chain_nil (ts := [0, 1]) (.cons rfl (.cons rfl .nil)) (by decide) ?_
  refine xw_then ?_
  refine cw_ret ?_
  refine xw_retC1 rfl rfl kd67 sz67 (by repeat (first | exact List.Mem.head _ | apply List.Mem.tail)) (by repeat (first | exact Sub.done | apply Sub.take | apply Sub.skip)) (fun w hS => ⟨rfl, hS.kept⟩)
set_option maxRecDepth 100000 in
set_option maxHeartbeats 4000000 in
theorem along_nil (v : Value) (w : World) : Gives Try.prog 69 [v, .int .i64 0] w (.slice none 0 0) := by
  refine .mk ?_
  refine enter (n := 19) Try.func69 rfl rfl rfl (by repeat (first | exact Fill.nil | apply Fill.cons)) ?_
  refine cw_seq ?_
  refine cw_region ?_
  refine lstepB rfl rfl rfl (run_assign .const) ?_
  refine lnil ?_
  refine xw_then ?_
  refine cw_seq ?_
  refine cw_region ?_
  refine lstepB rfl rfl rfl (run_assign .const) ?_
  refine lnil ?_
  refine xw_then ?_
  refine cw_seq ?_
  refine cw_seq ?_
  refine cw_region ?_
  refine lstepB rfl rfl rfl (run_move (.tmp rfl)) ?_
  refine lstepB rfl rfl rfl (run_move .const) ?_
  refine lnil ?_
  refine xw_then ?_
  refine cw_block ?_
  refine cw_loop (S := Nat) (fun k => [(8, .int .i64 (k : Int))]) [(0, _), (1, _), (5, _), (7, _)] (fun k => []) (fun k => k = 0) (fun k => 0 - k) 0 rfl (by repeat (first | exact Less.nil | refine Less.cons rfl ?_)) (by repeat (first | exact Pick.nil | (apply Pick.cons; focus (repeat (first | exact Del.here | apply Del.there))))) ?_
  intro k hk
  subst hk
  refine cw_seq ?_
  refine cw_region ?_
  refine lstepB rfl rfl rfl (run_lss (.tmp rfl) (.tmp rfl) (by first | exact decide_eq_true (by omega) | exact decide_eq_false (by omega) | exact rfl)) ?_
  refine lnil ?_
  refine xw_then ?_
  refine cw_seq ?_
  refine cw_cond_false (.tmp rfl) ?_
  refine cw_exit ?_
  refine xw_then_exit ?_
  refine xw_then_exit ?_
  refine xw_in_exit ?_
  refine xw_then ?_
  refine cw_seq ?_
  refine cw_region ?_
  refine lstepB rfl rfl rfl (run_move (.tmp rfl)) ?_
  refine lstepB rfl rfl rfl (run_assign (.tmp rfl)) ?_
  refine lnil ?_
  refine xw_then ?_
  refine cw_ret ?_
  refine xw_ret1 Try.results69 rfl (fun w hS => ⟨rfl, hS.kept⟩)
set_option maxRecDepth 100000 in
set_option maxHeartbeats 4000000 in
theorem along_cons {t : TypeId} {F : FuncId} {v : Value} (n : Nat) (G : Nat → SpanD) (hcb : callB Try.prog F = true) (hm : MethB Try.prog t "furrowworks/furrow.at" F) (w : World) (hn1 : 1 ≤ n) (hn : n ≤ 100) (hG : ∀ k, k < n → ∀ w2, Below w.heap.size w w2 → Gives Try.prog F [v, .int .i64 (k : Int)] w2 (spanV (G k))) :
    CallsF Try.prog 69 (([.iface t v, .int .i64 (n : Int)] : List Value)).toArray w fun e w' => ∃ q : Nat × Nat × List Value, InRow 2 n q.2.1 q.2.2 (spansC (alongL n G)) ∧ e = .returned (.slice (some ⟨q.1, 0, none⟩) n q.2.1) ∧ St w NoT [(q.1, Obj.cells q.2.2.toArray 67 (0, 0))] w' := by
  refine enter (n := 19) Try.func69 rfl rfl rfl (by repeat (first | exact Fill.nil | apply Fill.cons)) ?_
  refine cw_seq ?_
  refine cw_region ?_
  refine lstepB rfl rfl rfl (run_assign .const) ?_
  refine lnil ?_
  refine xw_then ?_
  refine cw_seq ?_
  refine cw_region ?_
  refine lstepB rfl rfl rfl (run_assign .const) ?_
  refine lnil ?_
  refine xw_then ?_
  refine cw_seq ?_
  refine cw_seq ?_
  refine cw_region ?_
  refine lstepB rfl rfl rfl (run_move (.tmp rfl)) ?_
  refine lstepB rfl rfl rfl (run_move .const) ?_
  refine lnil ?_
  refine xw_then ?_
  refine cw_block ?_
  refine cw_loop (S := Nat × Option (Nat × Nat × List Value)) (fun s => [(8, .int .i64 ((s.1 : Nat) : Int)), (5, (match s.2 with | none => .slice none 0 0 | some q => .slice (some ⟨q.1, 0, none⟩) s.1 q.2.1))]) [(0, _), (1, _), (7, _)] (fun s => (match s.2 with | none => [] | some q => [(q.1, Obj.cells q.2.2.toArray 67 (0, 0))])) (fun s => s.1 ≤ n ∧ match s.2 with | none => s.1 = 0 | some q => 1 ≤ s.1 ∧ InRow 2 s.1 q.2.1 q.2.2 (spansC ((alongL n G).take s.1))) (fun s => n - s.1) (0, none) ⟨Nat.zero_le _, rfl⟩ (by repeat (first | exact Less.nil | refine Less.cons rfl ?_)) (by repeat (first | exact Pick.nil | (apply Pick.cons; focus (repeat (first | exact Del.here | apply Del.there))))) ?_
  intro s hs
  obtain ⟨k, o⟩ := s
  obtain ⟨hk, ho⟩ := hs
  dsimp only at hk ho ⊢
  cases o
  case none =>
    dsimp only at ho ⊢
    subst ho
    refine cw_seq ?_
    refine cw_region ?_
    refine lstepB rfl rfl rfl (run_lss (.tmp rfl) (.tmp rfl) rfl) ?_
    refine lnil ?_
    refine xw_then ?_
    refine cw_seq ?_
    refine cw_cond_p (.tmp rfl) (fun hl2 => ?_) (fun hl2 => ?_)
    ·
      have hst := spans_succ (alongL_at (n := n) (k := 0) (G := G) (by omega))
      refine cw_skip ?_
      refine xw_then ?_
      refine cw_seq ?_
      refine cw_block ?_
      refine cw_seq ?_
      refine cw_region ?_
      refine lstepB rfl rfl rfl (run_move (.tmp rfl)) ?_
      refine lstepB rfl rfl rfl (run_assign (.tmp rfl)) ?_
      refine lnil ?_
      refine xw_then ?_
      refine cw_region ?_
      refine lstepB rfl rfl rfl (run_move (.tmp rfl)) ?_
      refine lstepB rfl rfl rfl (run_move (.tmp rfl)) ?_
      refine lstepB rfl rfl rfl (run_move (.tmp rfl)) ?_
      refine lstepB rfl rfl rfl (run_invoke hcb hm (.tmp rfl) (.cons (.tmp rfl) .nil) (fun w2 hS => hG 0 (by omega) w2 hS.kept)) ?_
      refine lstep rfl rfl rfl (LR.runs (lr_buildSlice_at (.cons (.tmp rfl) .nil) (fun w => bs68_1_0 w)) (by repeat (first | exact Pick.nil | (apply Pick.cons; focus (repeat (first | exact Del.here | apply Del.there))))) (by repeat (first | exact Dels.nil | (apply Dels.cons; focus (repeat (first | exact Del.here | apply Del.there)))))) ?_
      intro b15 _
      refine lstep rfl rfl rfl (LR.runs (R := [(b15, _)]) (A := []) (lr_append_nil ap68 (.tmp rfl) (.tmp rfl) (news := [.int .i64 (G 0).lo, .int .i64 (G 0).hi]) rfl (by omega) (by omega) (by decide) (news_own (by repeat (first | exact List.Mem.head _ | apply List.Mem.tail)))) (by repeat (first | exact Pick.nil | (apply Pick.cons; focus (repeat (first | exact Del.here | apply Del.there))))) (by repeat (first | exact Dels.nil | (apply Dels.cons; focus (repeat (first | exact Del.here | apply Del.there)))))) ?_
      intro ⟨gW, cgW, rgW⟩ hgW
      change InRow _ _ _ _ (spansC ((alongL n G).take 0) ++ _) at hgW
      rw [hst] at hgW
      refine lstepB rfl rfl rfl (run_assign (.tmp rfl)) ?_
      refine lnil ?_
      refine xw_in ?_
      refine xw_then ?_
      refine cw_region ?_
      refine lstepB rfl rfl rfl (run_add (.tmp rfl) .const (by first | exact IntWalk.i64_in _ (by omega) | exact rfl)) ?_
      refine lstepB rfl rfl rfl (run_move (.tmp rfl)) ?_
      refine lnil ?_
      exact xw_round (0 + 1, some (gW, cgW, rgW)) ⟨by simp only; omega, by simp only; omega, hgW⟩ (by show n - (0 + 1) < n - 0; omega) (by repeat (first | exact Less.nil | refine Less.cons rfl ?_)) (by repeat (first | exact Pick.nil | (apply Pick.cons; focus (repeat (first | exact Del.here | apply Del.there)))))
    ·
      exact absurd hn1 (by omega)
  case some q =>
    obtain ⟨gX, cX, rX⟩ := q
    dsimp only at ho ⊢
    obtain ⟨ho1, ho2⟩ := ho
    refine cw_seq ?_
    refine cw_region ?_
    refine lstepB rfl rfl rfl (run_lss (.tmp rfl) (.tmp rfl) rfl) ?_
    refine lnil ?_
    refine xw_then ?_
    refine cw_seq ?_
    refine cw_cond_p (.tmp rfl) (fun hl2 => ?_) (fun hl2 => ?_)
    ·
      have hst := spans_succ (alongL_at (n := n) (k := k) (G := G) (by omega))
      refine cw_skip ?_
      refine xw_then ?_
      refine cw_seq ?_
      refine cw_block ?_
      refine cw_seq ?_
      refine cw_region ?_
      refine lstepB rfl rfl rfl (run_move (.tmp rfl)) ?_
      refine lstepB rfl rfl rfl (run_assign (.tmp rfl)) ?_
      refine lnil ?_
      refine xw_then ?_
      refine cw_region ?_
      refine lstepB rfl rfl rfl (run_move (.tmp rfl)) ?_
      refine lstepB rfl rfl rfl (run_move (.tmp rfl)) ?_
      refine lstepB rfl rfl rfl (run_move (.tmp rfl)) ?_
      refine lstepB rfl rfl rfl (run_invoke hcb hm (.tmp rfl) (.cons (.tmp rfl) .nil) (fun w2 hS => hG k (by omega) w2 hS.kept)) ?_
      refine lstep rfl rfl rfl (LR.runs (lr_buildSlice_at (.cons (.tmp rfl) .nil) (fun w => bs68_1_0 w)) (by repeat (first | exact Pick.nil | (apply Pick.cons; focus (repeat (first | exact Del.here | apply Del.there))))) (by repeat (first | exact Dels.nil | (apply Dels.cons; focus (repeat (first | exact Del.here | apply Del.there)))))) ?_
      intro b15 _
      refine lstep rfl rfl rfl (LR.runs (R := [(b15, _)]) (A := [(gX, _)]) (lr_append_row ap68 (.tmp rfl) ho2 (.tmp rfl) (news := [.int .i64 (G k).lo, .int .i64 (G k).hi]) rfl rfl (by omega) (by unfold maxLen; omega) (news_own (by repeat (first | exact List.Mem.head _ | apply List.Mem.tail)))) (by repeat (first | exact Pick.nil | (apply Pick.cons; focus (repeat (first | exact Del.here | apply Del.there))))) (by repeat (first | exact Dels.nil | (apply Dels.cons; focus (repeat (first | exact Del.here | apply Del.there)))))) ?_
      intro ⟨gW, cgW, rgW⟩ hgW
      rw [hst] at hgW
      refine lstepB rfl rfl rfl (run_assign (.tmp rfl)) ?_
      refine lnil ?_
      refine xw_in ?_
      refine xw_then ?_
      refine cw_region ?_
      refine lstepB rfl rfl rfl (run_add (.tmp rfl) .const (by first | exact IntWalk.i64_in _ (by omega) | exact rfl)) ?_
      refine lstepB rfl rfl rfl (run_move (.tmp rfl)) ?_
      refine lnil ?_
      exact xw_round (k + 1, some (gW, cgW, rgW)) ⟨by simp only; omega, by simp only; omega, hgW⟩ (by show n - (k + 1) < n - k; omega) (by repeat (first | exact Less.nil | refine Less.cons rfl ?_)) (by repeat (first | exact Pick.nil | (apply Pick.cons; focus (repeat (first | exact Del.here | apply Del.there)))))
    ·
      refine cw_exit ?_
      refine xw_then_exit ?_
      refine xw_then_exit ?_
      refine xw_in_exit ?_
      refine xw_then ?_
      refine cw_seq ?_
      refine cw_region ?_
      refine lstepB rfl rfl rfl (run_move (.tmp rfl)) ?_
      refine lstepB rfl rfl rfl (run_assign (.tmp rfl)) ?_
      refine lnil ?_
      refine xw_then ?_
      refine cw_ret ?_
      obtain rfl : k = n := by omega
      have ho3 : InRow 2 k cX rX (spansC (alongL k G)) := by rw [List.take_of_length_le (by rw [alongL_length]; exact Nat.le_refl _)] at ho2; exact ho2
      refine xw_ret1 Try.results69 rfl (fun w hS => ⟨(gX, cX, rX), ho3, rfl, hS.pick (by repeat (first | exact Pick.nil | (apply Pick.cons; focus (repeat (first | exact Del.here | apply Del.there)))))⟩)
def shallowN (l : List SpanD) (least : Int) : Nat → Nat × Nat
  | 0 => (0, 0)
  | k + 1 => (noteN (shallowN l least k).1 k (decide ((l.getD k default).hi < least)), noteN (shallowN l least k).2 k (decide ((l.getD k default).lo < least)))
theorem shallowN_lt (l : List SpanD) (least : Int) : ∀ k, (shallowN l least k).1 < 2 ^ k ∧ (shallowN l least k).2 < 2 ^ k
  | 0 => ⟨by show 0 < 2 ^ 0; decide, by show 0 < 2 ^ 0; decide⟩
  | k + 1 => by
    obtain ⟨h1, h2⟩ := shallowN_lt l least k
    have e : 2 ^ k < 2 ^ (k + 1) := Nat.pow_lt_pow_right (by omega) (by omega)
    exact ⟨noteN_lt (by omega) (by omega), noteN_lt (by omega) (by omega)⟩
theorem shallowN_small (l : List SpanD) (least : Int) {k : Nat} (hk : k ≤ 10) : (shallowN l least k).1 < 2 ^ 32 ∧ (shallowN l least k).2 < 2 ^ 32 := by
  obtain ⟨h1, h2⟩ := shallowN_lt l least k
  have e : 2 ^ k ≤ 2 ^ 32 := Nat.pow_le_pow_right (by omega) (by omega)
  omega
def sumN (l : List SpanD) : Nat → SpanD
  | 0 => ⟨0, 0⟩
  | k + 1 => ⟨(sumN l k).lo + (l.getD k default).lo, (sumN l k).hi + (l.getD k default).hi⟩
theorem sumN_in {l : List SpanD} (h : ∀ s ∈ l, (0 ≤ s.lo ∧ s.lo ≤ 1000000) ∧ (0 ≤ s.hi ∧ s.hi ≤ 1000000)) : ∀ {k : Nat}, k ≤ l.length → (0 ≤ (sumN l k).lo ∧ (sumN l k).lo ≤ 1000000 * k) ∧ (0 ≤ (sumN l k).hi ∧ (sumN l k).hi ≤ 1000000 * k)
  | 0, _ => by simp [sumN]
  | k + 1, hk => by
    obtain ⟨⟨h1, h2⟩, ⟨h3, h4⟩⟩ := sumN_in h (k := k) (by omega)
    obtain ⟨⟨h5, h6⟩, ⟨h7, h8⟩⟩ := h _ (List.mem_of_getElem? (getD_some (k := k) (by omega)))
    simp only [sumN]
    omega
set_option maxRecDepth 100000 in
set_option maxHeartbeats 4000000 in
theorem shallowK (l : List SpanD) (least : Int) (a : Option Addr) (c : Nat) (w : World) (hn : l.length ≤ 9) (hq : SpansAt w a l) : Gives Try.prog 68 [.slice a l.length c, .int .i64 least] w (.agg [.int .i64 ((shallowN l least l.length).1 : Int), .int .i64 ((shallowN l least l.length).2 : Int)].toArray) := by
  refine .mk <| enter (n := 29) Try.func68 rfl rfl rfl (by repeat (first | exact Fill.nil | apply Fill.cons)) ?_
  refine cw_seq ?_
  refine cw_region ?_
  refine lstep rfl rfl rfl (run_alloc zr81) ?_
  intro b4 _
  refine lnil ?_
  refine xw_then ?_
  refine cw_seq ?_
  refine cw_region ?_
  refine lstep rfl rfl rfl (run_alloc zr81) ?_
  intro b5 _
  refine lnil ?_
  refine xw_then ?_
  refine cw_seq ?_
  refine cw_seq ?_
  refine cw_region ?_
  refine lstepB rfl rfl rfl (run_move (.tmp rfl)) ?_
  refine lstepB rfl rfl rfl (run_len (.tmp rfl) sl68) ?_
  refine lstepB rfl rfl rfl (run_move .const) ?_
  refine lnil ?_
  refine xw_then ?_
  refine cw_block ?_
  refine cw_loop (S := Nat) (fun k => [(10, .int .i64 (k : Int))]) [(1, _), (4, _), (5, _), (8, _), (9, _)] (fun k => findH b5 (shallowN l least k).1 (shallowN l least k).2 :: findH b4 0 0 :: []) (fun k => k ≤ l.length) (fun k => l.length - k) 0 (Nat.zero_le _) (by repeat (first | exact Less.nil | refine Less.cons rfl ?_)) (by repeat (first | exact Pick.nil | (apply Pick.cons; focus (repeat (first | exact Del.here | apply Del.there))))) ?_
  intro k hk
  refine cw_seq ?_
  refine cw_region ?_
  refine lstepB rfl rfl rfl (run_lss (.tmp rfl) (.tmp rfl) (by first | exact decide_eq_true (by omega) | exact decide_eq_false (by omega) | exact rfl)) ?_
  refine lnil ?_
  refine xw_then ?_
  refine cw_seq ?_
  refine cw_cond_p (.tmp rfl) (fun hl2 => ?_) (fun hl2 => ?_)
  ·
    have hsk := getD_some (l := l) (k := k) (by omega)
    obtain ⟨b, o, rfl, hb, hc⟩ := hq.span (by omega)
    obtain ⟨hsm1, hsm2⟩ := shallowN_small l least (k := k) (by omega)
    refine cw_skip ?_
    refine xw_then ?_
    refine cw_seq ?_
    refine cw_block ?_
    refine cw_seq ?_
    refine cw_region ?_
    refine lstepB rfl rfl rfl (run_move (.tmp rfl)) ?_
    refine lstepB rfl rfl rfl (run_indexAddr (i := k) (off' := o + k * 2) (.tmp rfl) (.tmp rfl) el68 (by omega) rfl) ?_
    refine lstepB rfl rfl rfl (run_loadN_at (l := spanC (l.getD k default)) (.tmp rfl) kd67 sz67 rfl (fun w' hS j v hj => hS.old_cell (fun h => h) (hc k _ hsk j v hj))) ?_
    refine lstep rfl rfl rfl (run_alloc zr67) ?_
    intro b7 _
    refine lstepB rfl rfl rfl (run_assign (.tmp rfl)) ?_
    refine lstep0 rfl rfl (run_storeN (.tmp rfl) (.tmp rfl) rfl sz67 rfl (by repeat (first | exact Upd.here | apply Upd.there)) (by repeat (first | exact Put.done | apply Put.put | apply Put.skip))) ?_
    refine lnil ?_
    refine xw_then ?_
    refine cw_region ?_
    refine lstepB rfl rfl rfl (run_move (.tmp rfl)) ?_
    refine lstepB rfl rfl rfl (run_fieldAddr (.tmp rfl) fa67_0 (by first | exact Nat.zero_add _ | exact rfl)) ?_
    refine lstepB rfl rfl rfl (run_fieldAddr (.tmp rfl) fa28_1 (by first | exact Nat.zero_add _ | exact rfl)) ?_
    refine lstepB rfl rfl rfl (run_load1 (.tmp rfl) kd3 (by repeat (first | exact List.Mem.head _ | apply List.Mem.tail)) (by exact rfl)) ?_
    refine lstepB rfl rfl rfl (run_move (.tmp rfl)) ?_
    refine lstepB rfl rfl rfl (run_lss (.tmp rfl) (.tmp rfl) rfl) ?_
    refine lstepB rfl rfl rfl (run_fieldAddr (.tmp rfl) fa67_0 (by first | exact Nat.zero_add _ | exact rfl)) ?_
    refine lstepB rfl rfl rfl (run_fieldAddr (.tmp rfl) fa28_0 (by first | exact Nat.zero_add _ | exact rfl)) ?_
    refine lstepB rfl rfl rfl (run_load1 (.tmp rfl) kd3 (by repeat (first | exact List.Mem.head _ | apply List.Mem.tail)) (by exact rfl)) ?_
    refine lstepB rfl rfl rfl (run_move (.tmp rfl)) ?_
    refine lstepB rfl rfl rfl (run_lss (.tmp rfl) (.tmp rfl) rfl) ?_
    refine lstep rfl rfl rfl (LR.runs (R := []) (A := [(b5, _)]) (lr_call (X := Unit) (F := fun _ => True) (r := fun _ => .tuple #[]) (B := fun _ => [findH b5 (shallowN l least (k + 1)).1 (shallowN l least (k + 1)).2]) cb92 (.cons (.tmp rfl) (.cons (.tmp rfl) (.cons (.tmp rfl) (.cons (.tmp rfl) .nil)))) (fun w3 hS hA => noteK b5 _ _ k _ _ (by omega) hsm1 hsm2 w3 (hA (findH b5 (shallowN l least k).1 (shallowN l least k).2) (List.Mem.head _)))) (by repeat (first | exact Pick.nil | (apply Pick.cons; focus (repeat (first | exact Del.here | apply Del.there))))) (by repeat (first | exact Dels.nil | (apply Dels.cons; focus (repeat (first | exact Del.here | apply Del.there)))))) ?_
    intro _ _
    refine lnil ?_
    refine xw_in ?_
    refine xw_then ?_
    refine cw_region ?_
    refine lstepB rfl rfl rfl (run_add (.tmp rfl) .const (by first | exact IntWalk.i64_in _ (by omega) | exact rfl)) ?_
    refine lstepB rfl rfl rfl (run_move (.tmp rfl)) ?_
    refine lnil ?_
    exact xw_round (k + 1) (by show k + 1 ≤ _; omega) (by show l.length - (k + 1) < l.length - k; omega) (by repeat (first | exact Less.nil | refine Less.cons rfl ?_)) (by repeat (first | exact Pick.nil | (apply Pick.cons; focus (repeat (first | exact Del.here | apply Del.there)))))
  ·
    obtain rfl : k = l.length := by omega
    refine cw_exit ?_
    refine xw_then_exit ?_
    refine xw_then_exit ?_
    refine xw_in_exit ?_
    refine xw_then ?_
    refine cw_seq ?_
    refine cw_region ?_
    refine lstepB rfl rfl rfl (run_loadN (.tmp rfl) kd81 sz81 (by repeat (first | exact List.Mem.head _ | apply List.Mem.tail)) (by repeat (first | exact Sub.done | apply Sub.take | apply Sub.skip))) ?_
    refine lstep0 rfl rfl (run_storeN (.tmp rfl) (.tmp rfl) rfl sz81 rfl (by repeat (first | exact Upd.here | apply Upd.there)) (by repeat (first | exact Put.done | apply Put.put | apply Put.skip))) ?_
    refine lnil ?_
    refine xw_then ?_
    refine cw_ret ?_
    refine xw_retC1 rfl rfl kd81 sz81 (by repeat (first | exact List.Mem.head _ | apply List.Mem.tail)) (by repeat (first | exact Sub.done | apply Sub.take | apply Sub.skip)) (fun w hS => ⟨rfl, hS.kept⟩)
set_option maxRecDepth 100000 in
set_option maxHeartbeats 4000000 in
theorem sumK (l : List SpanD) (hl : ∀ s ∈ l, (0 ≤ s.lo ∧ s.lo ≤ 1000000) ∧ (0 ≤ s.hi ∧ s.hi ≤ 1000000)) (a : Option Addr) (c : Nat) (w : World) (hn : l.length ≤ 100) (hq : SpansAt w a l) : Gives Try.prog 71 [.slice a l.length c] w (spanV (sumN l l.length)) := by
  refine .mk <| enter (n := 32) Try.func71 rfl rfl rfl (by repeat (first | exact Fill.nil | apply Fill.cons)) ?_
  refine cw_seq ?_
  refine cw_region ?_
  refine lstep rfl rfl rfl (run_alloc zr67) ?_
  intro b2 _
  refine lnil ?_
  refine xw_then ?_
  refine cw_seq ?_
  refine cw_region ?_
  refine lstep rfl rfl rfl (run_alloc zr67) ?_
  intro b3 _
  refine lnil ?_
  refine xw_then ?_
  refine cw_seq ?_
  refine cw_seq ?_
  refine cw_region ?_
  refine lstepB rfl rfl rfl (run_move (.tmp rfl)) ?_
  refine lstepB rfl rfl rfl (run_len (.tmp rfl) sl68) ?_
  refine lstepB rfl rfl rfl (run_move .const) ?_
  refine lnil ?_
  refine xw_then ?_
  refine cw_block ?_
  refine cw_loop (S := Nat) (fun k => [(8, .int .i64 (k : Int))]) [(2, _), (3, _), (6, _), (7, _)] (fun k => (b3, Obj.cells (spanC (sumN l k)).toArray 67 (0, 0)) :: (b2, Obj.cells [.int .i64 0, .int .i64 0].toArray 67 (0, 0)) :: []) (fun k => k ≤ l.length) (fun k => l.length - k) 0 (Nat.zero_le _) (by repeat (first | exact Less.nil | refine Less.cons rfl ?_)) (by repeat (first | exact Pick.nil | (apply Pick.cons; focus (repeat (first | exact Del.here | apply Del.there))))) ?_
  intro k hk
  refine cw_seq ?_
  refine cw_region ?_
  refine lstepB rfl rfl rfl (run_lss (.tmp rfl) (.tmp rfl) (by first | exact decide_eq_true (by omega) | exact decide_eq_false (by omega) | exact rfl)) ?_
  refine lnil ?_
  refine xw_then ?_
  refine cw_seq ?_
  refine cw_cond_p (.tmp rfl) (fun hl2 => ?_) (fun hl2 => ?_)
  ·
    have hsk := getD_some (l := l) (k := k) (by omega)
    obtain ⟨b, o, rfl, hb, hc⟩ := hq.span (by omega)
    obtain ⟨⟨g1, g2⟩, ⟨g3, g4⟩⟩ := sumN_in hl (k := k) (by omega)
    obtain ⟨⟨g5, g6⟩, ⟨g7, g8⟩⟩ := hl _ (List.mem_of_getElem? hsk)
    refine cw_skip ?_
    refine xw_then ?_
    refine cw_seq ?_
    refine cw_block ?_
    refine cw_seq ?_
    refine cw_region ?_
    refine lstepB rfl rfl rfl (run_indexAddr (i := k) (off' := o + k * 2) (.tmp rfl) (.tmp rfl) el68 (by omega) rfl) ?_
    refine lstepB rfl rfl rfl (run_loadN_at (l := spanC (l.getD k default)) (.tmp rfl) kd67 sz67 rfl (fun w' hS j v hj => hS.old_cell (fun h => h) (hc k _ hsk j v hj))) ?_
    refine lstep rfl rfl rfl (run_alloc zr67) ?_
    intro b5 _
    refine lstep0 rfl rfl (run_storeN (.tmp rfl) (.tmp rfl) rfl sz67 rfl (by repeat (first | exact Upd.here | apply Upd.there)) (by repeat (first | exact Put.done | apply Put.put | apply Put.skip))) ?_
    refine lnil ?_
    refine xw_then ?_
    refine cw_seq ?_
    refine cw_region ?_
    refine lstepB rfl rfl rfl (run_fieldAddr (.tmp rfl) fa67_0 (by first | exact Nat.zero_add _ | exact rfl)) ?_
    refine lstepB rfl rfl rfl (run_fieldAddr (.tmp rfl) fa28_0 (by first | exact Nat.zero_add _ | exact rfl)) ?_
    refine lstepB rfl rfl rfl (run_load1 (.tmp rfl) kd3 (by repeat (first | exact List.Mem.head _ | apply List.Mem.tail)) (by exact rfl)) ?_
    refine lstepB rfl rfl rfl (run_fieldAddr (.tmp rfl) fa67_0 (by first | exact Nat.zero_add _ | exact rfl)) ?_
    refine lstepB rfl rfl rfl (run_fieldAddr (.tmp rfl) fa28_0 (by first | exact Nat.zero_add _ | exact rfl)) ?_
    refine lstepB rfl rfl rfl (run_load1 (.tmp rfl) kd3 (by repeat (first | exact List.Mem.head _ | apply List.Mem.tail)) (by exact rfl)) ?_
    refine lstepB rfl rfl rfl (run_add (c := (sumN l (k + 1)).lo) (.tmp rfl) (.tmp rfl) (IntWalk.i64_in _ (by omega))) ?_
    refine lstepB rfl rfl rfl (run_fieldAddr (.tmp rfl) fa67_0 (by first | exact Nat.zero_add _ | exact rfl)) ?_
    refine lstepB rfl rfl rfl (run_fieldAddr (.tmp rfl) fa28_0 (by first | exact Nat.zero_add _ | exact rfl)) ?_
    refine lstep0 rfl rfl (run_store1 (.tmp rfl) (.tmp rfl) rfl sz3 (by repeat (first | exact Upd.here | apply Upd.there)) (by repeat (first | exact Put.done | apply Put.put | apply Put.skip))) ?_
    refine lnil ?_
    refine xw_then ?_
    refine cw_region ?_
    refine lstepB rfl rfl rfl (run_fieldAddr (.tmp rfl) fa67_0 (by first | exact Nat.zero_add _ | exact rfl)) ?_
    refine lstepB rfl rfl rfl (run_fieldAddr (.tmp rfl) fa28_1 (by first | exact Nat.zero_add _ | exact rfl)) ?_
    refine lstepB rfl rfl rfl (run_load1 (.tmp rfl) kd3 (by repeat (first | exact List.Mem.head _ | apply List.Mem.tail)) (by exact rfl)) ?_
    refine lstepB rfl rfl rfl (run_fieldAddr (.tmp rfl) fa67_0 (by first | exact Nat.zero_add _ | exact rfl)) ?_
    refine lstepB rfl rfl rfl (run_fieldAddr (.tmp rfl) fa28_1 (by first | exact Nat.zero_add _ | exact rfl)) ?_
    refine lstepB rfl rfl rfl (run_load1 (.tmp rfl) kd3 (by repeat (first | exact List.Mem.head _ | apply List.Mem.tail)) (by exact rfl)) ?_
    refine lstepB rfl rfl rfl (run_add (c := (sumN l (k + 1)).hi) (.tmp rfl) (.tmp rfl) (IntWalk.i64_in _ (by omega))) ?_
    refine lstepB rfl rfl rfl (run_fieldAddr (.tmp rfl) fa67_0 (by first | exact Nat.zero_add _ | exact rfl)) ?_
    refine lstepB rfl rfl rfl (run_fieldAddr (.tmp rfl) fa28_1 (by first | exact Nat.zero_add _ | exact rfl)) ?_
    refine lstep0 rfl rfl (run_store1 (.tmp rfl) (.tmp rfl) rfl sz3 (by repeat (first | exact Upd.here | apply Upd.there)) (by repeat (first | exact Put.done | apply Put.put | apply Put.skip))) ?_
    refine lnil ?_
    refine xw_in ?_
    refine xw_then ?_
    refine cw_region ?_
    refine lstepB rfl rfl rfl (run_add (.tmp rfl) .const (by first | exact IntWalk.i64_in _ (by omega) | exact rfl)) ?_
    refine lstepB rfl rfl rfl (run_move (.tmp rfl)) ?_
    refine lnil ?_
    exact xw_round (k + 1) (by show k + 1 ≤ _; omega) (by show l.length - (k + 1) < l.length - k; omega) (by repeat (first | exact Less.nil | refine Less.cons rfl ?_)) (by repeat (first | exact Pick.nil | (apply Pick.cons; focus (repeat (first | exact Del.here | apply Del.there)))))
  ·
    obtain rfl : k = l.length := by omega
    refine cw_exit ?_
    refine xw_then_exit ?_
    refine xw_then_exit ?_
    refine xw_in_exit ?_
    refine xw_then ?_
    refine cw_seq ?_
    refine cw_region ?_
    refine lstepB rfl rfl rfl (run_loadN (.tmp rfl) kd67 sz67 (by repeat (first | exact List.Mem.head _ | apply List.Mem.tail)) (by repeat (first | exact Sub.done | apply Sub.take | apply Sub.skip))) ?_
    refine lstep0 rfl rfl (run_storeN (.tmp rfl) (.tmp rfl) rfl sz67 rfl (by repeat (first | exact Upd.here | apply Upd.there)) (by repeat (first | exact Put.done | apply Put.put | apply Put.skip))) ?_
    refine lnil ?_
    refine xw_then ?_
    refine cw_ret ?_
    refine xw_retC1 rfl rfl kd67 sz67 (by repeat (first | exact List.Mem.head _ | apply List.Mem.tail)) (by repeat (first | exact Sub.done | apply Sub.take | apply Sub.skip)) (fun w hS => ⟨rfl, hS.kept⟩)
end Go.Proofs.Ytjdeplehhmhpcaa
