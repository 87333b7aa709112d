/- Furrow: the sample, lists of numbers, and what the laws call alive. -/
import Derived.Test.YtjdeplehhmhpcaaFY
namespace Go.Proofs.Ytjdeplehhmhpcaa
open Go.RowKit En

set_option maxRecDepth 100000 in
set_option maxHeartbeats 4000000 in
theorem spanLK (a b : Int) (w : World) : Gives Try.prog 30 [.int .i64 a, .int .i64 b] w (.agg [.int .i64 a, .int .i64 b].toArray) := by
  refine .mk <| enter (n := 8) Try.func30 rfl rfl rfl (by repeat (first | exact Fill.nil | apply Fill.cons)) ?_
  refine cw_seq ?_
  refine cw_region ?_
  refine lstep rfl rfl rfl (run_alloc zr28) ?_
  intro b4 _
  refine lnil ?_
  refine xw_then ?_
  refine cw_seq ?_
  refine cw_region ?_
  refine lstepB rfl rfl rfl (run_move (.tmp rfl)) ?_
  refine lstepB rfl rfl rfl (run_move (.tmp rfl)) ?_
  refine lstepB rfl rfl rfl (run_build_at (.cons (.tmp rfl) (.cons (.tmp rfl) .nil)) (fun w => bd28_0_1 w)) ?_
  refine lstep0 rfl rfl (run_storeN (.tmp rfl) (.tmp rfl) rfl sz28 rfl (by repeat (first | exact Upd.here | apply Upd.there)) (by repeat (first | exact Put.done | apply Put.put | apply Put.skip))) ?_
  refine lnil ?_
  refine xw_then ?_
  refine cw_ret ?_
  refine xw_retC1 rfl rfl kd28 sz28 (by repeat (first | exact List.Mem.head _ | apply List.Mem.tail)) (by repeat (first | exact Sub.done | apply Sub.take | apply Sub.skip)) (fun w hS => ⟨rfl, hS.kept⟩)
def sampleF : FurrowD := ⟨[⟨0, 1⟩, ⟨2, 3⟩, ⟨0, 0⟩, ⟨1, 1⟩, ⟨5, 6⟩], List.replicate 5 ⟨30, 30⟩, [⟨15, 16⟩, ⟨14, 18⟩, ⟨15, 15⟩, ⟨12, 14⟩, ⟨16, 17⟩]⟩
theorem thirties (k : Nat) : spansC (List.replicate k ⟨30, 30⟩) ++ [.int .i64 30, .int .i64 30] = spansC (List.replicate (k + 1) ⟨30, 30⟩) := by
  rw [List.replicate_succ']
  simp [spansC, List.flatMap_append]
set_option maxRecDepth 100000 in
set_option maxHeartbeats 4000000 in
theorem sampleK (w : World) : CallsF Try.prog 29 ([] : List Value).toArray w fun e w' => ∃ s : Nat × Nat × Nat × Nat × List Value, InRow 2 5 s.2.2.2.1 s.2.2.2.2 (spansC sampleF.wids) ∧ e = .returned (furrowV sampleF (some ⟨s.1, 0, none⟩) (some ⟨s.2.2.1, 0, none⟩) (some ⟨s.2.1, 0, none⟩) 5 s.2.2.2.1 5) ∧ St w NoT [(s.1, Obj.cells (spansC sampleF.offs).toArray 28 (0, 0)), (s.2.2.1, Obj.cells s.2.2.2.2.toArray 28 (0, 0)), (s.2.1, Obj.cells (spansC sampleF.deps).toArray 28 (0, 0))] w' := by
  refine enter (n := 28) Try.func29 rfl rfl rfl (by repeat (first | exact Fill.nil | apply Fill.cons)) ?_
  refine cw_seq ?_
  refine cw_region ?_
  refine lstep rfl rfl rfl (run_alloc zr24) ?_
  intro b0 _
  refine lnil ?_
  refine xw_then ?_
  refine cw_seq ?_
  refine cw_region ?_
  refine lstepB rfl rfl rfl (run_call1 cb30 (.cons .const (.cons .const .nil)) (fun w _ => spanLK _ _ w)) ?_
  refine lstepB rfl rfl rfl (run_call1 cb30 (.cons .const (.cons .const .nil)) (fun w _ => spanLK _ _ w)) ?_
  refine lstepB rfl rfl rfl (run_call1 cb30 (.cons .const (.cons .const .nil)) (fun w _ => spanLK _ _ w)) ?_
  refine lstepB rfl rfl rfl (run_call1 cb30 (.cons .const (.cons .const .nil)) (fun w _ => spanLK _ _ w)) ?_
  refine lstepB rfl rfl rfl (run_call1 cb30 (.cons .const (.cons .const .nil)) (fun w _ => spanLK _ _ w)) ?_
  refine lstep rfl rfl rfl (LR.runs (lr_buildSlice_at (.cons (.tmp rfl) (.cons (.tmp rfl) (.cons (.tmp rfl) (.cons (.tmp rfl) (.cons (.tmp rfl) .nil))))) (fun w => bs22_5_0_1_2_3_4 w)) (by repeat (first | exact Pick.nil | (apply Pick.cons; focus (repeat (first | exact Del.here | apply Del.there))))) (by repeat (first | exact Dels.nil | (apply Dels.cons; focus (repeat (first | exact Del.here | apply Del.there)))))) ?_
  intro b7 _
  refine lstepB rfl rfl rfl (run_call1 cb30 (.cons .const (.cons .const .nil)) (fun w _ => spanLK _ _ w)) ?_
  refine lstepB rfl rfl rfl (run_call1 cb30 (.cons .const (.cons .const .nil)) (fun w _ => spanLK _ _ w)) ?_
  refine lstepB rfl rfl rfl (run_call1 cb30 (.cons .const (.cons .const .nil)) (fun w _ => spanLK _ _ w)) ?_
  refine lstepB rfl rfl rfl (run_call1 cb30 (.cons .const (.cons .const .nil)) (fun w _ => spanLK _ _ w)) ?_
  refine lstepB rfl rfl rfl (run_call1 cb30 (.cons .const (.cons .const .nil)) (fun w _ => spanLK _ _ w)) ?_
  refine lstep rfl rfl rfl (LR.runs (lr_buildSlice_at (.cons (.tmp rfl) (.cons (.tmp rfl) (.cons (.tmp rfl) (.cons (.tmp rfl) (.cons (.tmp rfl) .nil))))) (fun w => bs22_5_0_1_2_3_4 w)) (by repeat (first | exact Pick.nil | (apply Pick.cons; focus (repeat (first | exact Del.here | apply Del.there))))) (by repeat (first | exact Dels.nil | (apply Dels.cons; focus (repeat (first | exact Del.here | apply Del.there)))))) ?_
  intro b13 _
  refine lstepB rfl rfl rfl (run_build_at (.cons (.tmp rfl) (.cons (.tmp rfl) .nil)) (fun w => bd24_0_2 w)) ?_
  refine lstep rfl rfl rfl (run_alloc zr24) ?_
  intro b1 _
  refine lstep0 rfl rfl (run_storeN (.tmp rfl) (.tmp rfl) rfl sz24 rfl (by repeat (first | exact Upd.here | apply Upd.there)) (by repeat (first | exact Put.done | apply Put.put | apply Put.skip))) ?_
  refine lnil ?_
  refine xw_then ?_
  refine cw_seq ?_
  refine cw_seq ?_
  refine cw_region ?_
  refine lstepB rfl rfl rfl (run_fieldAddr (.tmp rfl) fa24_0 (by first | exact Nat.zero_add _ | exact rfl)) ?_
  refine lstepB rfl rfl rfl (run_load1 (.tmp rfl) kd22 (by repeat (first | exact List.Mem.head _ | apply List.Mem.tail)) (by exact rfl)) ?_
  refine lstepB rfl rfl rfl (run_len (.tmp rfl) sl22) ?_
  refine lstepB rfl rfl rfl (run_move .const) ?_
  refine lnil ?_
  refine xw_then ?_
  refine cw_block ?_
  refine cw_loop (S := Nat × Option (Nat × Nat × List Value)) (fun s => [(18, .int .i64 ((s.1 : Nat) : Int))]) [(0, _), (1, _), (17, _)] (fun s => (match s.2 with | none => [(b1, Obj.cells [.slice (some ⟨b7, 0, none⟩) 5 5, .slice none 0 0, .slice (some ⟨b13, 0, none⟩) 5 5].toArray 24 (0, 0))] | some q => [(q.1, Obj.cells q.2.2.toArray 28 (0, 0)), (b1, Obj.cells [.slice (some ⟨b7, 0, none⟩) 5 5, .slice (some ⟨q.1, 0, none⟩) s.1 q.2.1, .slice (some ⟨b13, 0, none⟩) 5 5].toArray 24 (0, 0))]) ++ (b0, Obj.cells [.slice none 0 0, .slice none 0 0, .slice none 0 0].toArray 24 (0, 0)) :: (b7, Obj.cells (spansC sampleF.offs).toArray 28 (0, 0)) :: (b13, Obj.cells (spansC sampleF.deps).toArray 28 (0, 0)) :: []) (fun s => s.1 ≤ 5 ∧ match s.2 with | none => s.1 = 0 | some q => 1 ≤ s.1 ∧ InRow 2 s.1 q.2.1 q.2.2 (spansC (List.replicate s.1 ⟨30, 30⟩))) (fun s => 5 - s.1) (0, none) ⟨by simp only; omega, rfl⟩ (by repeat (first | exact Less.nil | refine Less.cons rfl ?_)) (by repeat (first | exact Pick.nil | (apply Pick.cons; focus (repeat (first | exact Del.here | apply Del.there))))) ?_
  intro s hs
  obtain ⟨k, o⟩ := s
  obtain ⟨hk, ho⟩ := hs
  dsimp only at hk ho ⊢
  cases o
  case none =>
    dsimp only at ho ⊢
    subst ho
    refine cw_seq ?_
    refine cw_region ?_
    refine lstepB rfl rfl rfl (run_lss (.tmp rfl) (.tmp rfl) rfl) ?_
    refine lnil ?_
    refine xw_then ?_
    refine cw_seq ?_
    refine cw_cond_p (.tmp rfl) (fun hl2 => ?_) (fun hl2 => ?_)
    ·
      refine cw_skip ?_
      refine xw_then ?_
      refine cw_seq ?_
      refine cw_block ?_
      refine cw_chain2 (σ := [0, 1, 2, 3, 4, 5, 6]) [⟨0, [], [], [], 0⟩, ⟨0, [0], [], [], 1⟩, ⟨0, [], [], [], 0⟩, ⟨2, [], [], [4], 4⟩, ⟨1, [4], [], [5], 15⟩, ⟨0, [], [], [], 31⟩, ⟨0, [], [0], [0], 63⟩] [(0, _), (1, _), (2, _), (3, _)] (by kernel_rfl) (by kernel_rfl) rfl ?_
      refine .det (B := []) rfl rfl (.inl rfl) .nil .nil rfl (RunB.lr (run_fieldAddr (.tmp rfl) fa24_1 (by first | exact Nat.zero_add _ | exact rfl))) ?_
      refine .det (B := []) rfl rfl (.inl rfl) (.cons rfl .nil) .nil rfl (RunB.lr (run_load1 (.tmp rfl) kd22 (by repeat (first | exact List.Mem.head _ | apply List.Mem.tail)) (by exact rfl))) ?_
      refine .det (B := []) rfl rfl (.inl rfl) .nil .nil rfl (RunB.lr (run_call1 cb30 (.cons .const (.cons .const .nil)) (fun w _ => spanLK _ _ w))) ?_
      refine .flo rfl rfl rfl (.lit rfl (.cons (.tmp rfl) .nil) (fun w => bs22_1_0 w)) trivial rfl rfl rfl ?_
      intro b23
      refine .ext (B := fun q => [(5, (q.1, _))]) rfl rfl (.inl rfl) (.cons rfl .nil) .nil (fun _ => rfl) (inrow_some (n := 1) (xs := [.int .i64 30, .int .i64 30]) rfl (by decide)) (lr_append_nil ap22 (.tmp rfl) (.tmp rfl) (news := [.int .i64 30, .int .i64 30]) rfl (by omega) (by omega) (by decide) (news_own (by repeat (first | exact List.Mem.head _ | apply List.Mem.tail)))) ?_
      rintro ⟨gW, cW, rW⟩ hW
      refine .det (B := []) rfl rfl (.inl rfl) .nil .nil rfl (RunB.lr (run_fieldAddr (.tmp rfl) fa24_1 (by first | exact Nat.zero_add _ | exact rfl))) ?_
      refine .det (B := [(0, (_, _))]) rfl rfl (.inl rfl) .nil (.cons rfl .nil) rfl (lr_store1 (.tmp rfl) (.tmp rfl) rfl sz22 (by repeat (first | exact Put.done | apply Put.put | apply Put.skip))) ?_
      refine chain_nil (ts := [5, 0, 1, 2, 3]) (.cons rfl (.cons rfl (.cons rfl (.cons rfl (.cons rfl .nil))))) (by decide) ?_
      have hW2 : InRow 2 1 cW rW (spansC (List.replicate 1 ⟨30, 30⟩)) := hW
      refine xw_in ?_
      refine xw_then ?_
      refine cw_region ?_
      refine lstepB rfl rfl rfl (run_add (.tmp rfl) .const (by first | exact IntWalk.i64_in _ (by omega) | exact rfl)) ?_
      refine lstepB rfl rfl rfl (run_move (.tmp rfl)) ?_
      refine lnil ?_
      exact xw_round (0 + 1, some (gW, cW, rW)) ⟨by simp only; omega, by simp only; omega, hW2⟩ (by show 5 - (0 + 1) < 5 - 0; omega) (by repeat (first | exact Less.nil | refine Less.cons rfl ?_)) (by repeat (first | exact Pick.nil | (apply Pick.cons; focus (repeat (first | exact Del.here | apply Del.there)))))
    ·
      exact absurd (show ((0 : Nat) : Int) < ((5 : Nat) : Int) by omega) hl2
  case some q =>
    obtain ⟨gX, cX, rX⟩ := q
    dsimp only at ho ⊢
    obtain ⟨ho1, ho2⟩ := ho
    refine cw_seq ?_
    refine cw_region ?_
    refine lstepB rfl rfl rfl (run_lss (.tmp rfl) (.tmp rfl) rfl) ?_
    refine lnil ?_
    refine xw_then ?_
    refine cw_seq ?_
    refine cw_cond_p (.tmp rfl) (fun hl2 => ?_) (fun hl2 => ?_)
    ·
      refine cw_skip ?_
      refine xw_then ?_
      refine cw_seq ?_
      refine cw_block ?_
      refine cw_chain2 (σ := [0, 1, 2, 3, 4, 5, 6]) [⟨0, [], [], [], 0⟩, ⟨0, [1], [], [], 1⟩, ⟨0, [], [], [], 0⟩, ⟨2, [], [], [5], 4⟩, ⟨1, [5], [0], [0], 15⟩, ⟨0, [], [], [], 31⟩, ⟨0, [], [1], [1], 63⟩] [(0, _), (1, _), (2, _), (3, _), (4, _)] (by kernel_rfl) (by kernel_rfl) rfl ?_
      refine .det (B := []) rfl rfl (.inl rfl) .nil .nil rfl (RunB.lr (run_fieldAddr (.tmp rfl) fa24_1 (by first | exact Nat.zero_add _ | exact rfl))) ?_
      refine .det (B := []) rfl rfl (.inl rfl) (.cons rfl .nil) .nil rfl (RunB.lr (run_load1 (.tmp rfl) kd22 (by repeat (first | exact List.Mem.head _ | apply List.Mem.tail)) (by exact rfl))) ?_
      refine .det (B := []) rfl rfl (.inl rfl) .nil .nil rfl (RunB.lr (run_call1 cb30 (.cons .const (.cons .const .nil)) (fun w _ => spanLK _ _ w))) ?_
      refine .flo rfl rfl rfl (.lit rfl (.cons (.tmp rfl) .nil) (fun w => bs22_1_0 w)) trivial rfl rfl rfl ?_
      intro b23
      refine .ext (B := fun q => [(0, (q.1, _))]) rfl rfl (.inl rfl) (.cons rfl .nil) (.cons rfl .nil) (fun _ => rfl) (inrow_some (by rw [List.length_append, spansC_length, List.length_replicate]; simp only [List.length_cons, List.length_nil]; omega) (by unfold maxLen; omega)) (lr_append_row ap22 (.tmp rfl) ho2 (.tmp rfl) (news := [.int .i64 30, .int .i64 30]) rfl rfl (by omega) (by unfold maxLen; omega) (news_own (by repeat (first | exact List.Mem.head _ | apply List.Mem.tail)))) ?_
      rintro ⟨gW, cW, rW⟩ hW
      refine .det (B := []) rfl rfl (.inl rfl) .nil .nil rfl (RunB.lr (run_fieldAddr (.tmp rfl) fa24_1 (by first | exact Nat.zero_add _ | exact rfl))) ?_
      refine .det (B := [(1, (_, _))]) rfl rfl (.inl rfl) .nil (.cons rfl .nil) rfl (lr_store1 (.tmp rfl) (.tmp rfl) rfl sz22 (by repeat (first | exact Put.done | apply Put.put | apply Put.skip))) ?_
      refine chain_nil (ts := [0, 1, 2, 3, 4]) (.cons rfl (.cons rfl (.cons rfl (.cons rfl (.cons rfl .nil))))) (by decide) ?_
      have hW2 : InRow 2 (k + 1) cW rW (spansC (List.replicate (k + 1) ⟨30, 30⟩)) := by rw [← thirties]; exact hW
      refine xw_in ?_
      refine xw_then ?_
      refine cw_region ?_
      refine lstepB rfl rfl rfl (run_add (.tmp rfl) .const (by first | exact IntWalk.i64_in _ (by omega) | exact rfl)) ?_
      refine lstepB rfl rfl rfl (run_move (.tmp rfl)) ?_
      refine lnil ?_
      exact xw_round (k + 1, some (gW, cW, rW)) ⟨by simp only; omega, by simp only; omega, hW2⟩ (by show 5 - (k + 1) < 5 - k; omega) (by repeat (first | exact Less.nil | refine Less.cons rfl ?_)) (by repeat (first | exact Pick.nil | (apply Pick.cons; focus (repeat (first | exact Del.here | apply Del.there)))))
    ·
      obtain rfl : k = 5 := by omega
      refine cw_exit ?_
      refine xw_then_exit ?_
      refine xw_then_exit ?_
      refine xw_in_exit ?_
      refine xw_then ?_
      refine cw_seq ?_
      refine cw_region ?_
      refine lstepB rfl rfl rfl (run_loadN (.tmp rfl) kd24 sz24 (by repeat (first | exact List.Mem.head _ | apply List.Mem.tail)) (by repeat (first | exact Sub.done | apply Sub.take | apply Sub.skip))) ?_
      refine lstep0 rfl rfl (run_storeN (.tmp rfl) (.tmp rfl) rfl sz24 rfl (by repeat (first | exact Upd.here | apply Upd.there)) (by repeat (first | exact Put.done | apply Put.put | apply Put.skip))) ?_
      refine lnil ?_
      refine xw_then ?_
      refine cw_ret ?_
      exact xw_retC1 rfl rfl kd24 sz24 (by repeat (first | exact List.Mem.head _ | apply List.Mem.tail)) (by repeat (first | exact Sub.done | apply Sub.take | apply Sub.skip)) (fun w hS => ⟨(b7, b13, gX, cX, rX), ho2, rfl, hS.pick (by repeat (first | exact Pick.nil | (apply Pick.cons; focus (repeat (first | exact Del.here | apply Del.there)))))⟩)
theorem beq_take {l m : List Int} {k : Nat} {x y : Int} (h : l.length = m.length) (hk : ∀ j : Nat, j < k → l[j]? = m[j]?) (h1 : l[k]? = some x) (h2 : m[k]? = some y) : (x = y → ∀ j : Nat, j < k + 1 → l[j]? = m[j]?) ∧ (x ≠ y → l ≠ m) := by
  refine ⟨fun e j hj => ?_, fun e h3 => ?_⟩
  · rcases Nat.lt_succ_iff_lt_or_eq.1 hj with h4 | rfl
    · exact hk j h4
    · rw [h1, h2, e]
  · subst h3
    rw [h1] at h2
    cases h2
    exact e rfl
set_option maxRecDepth 100000 in
set_option maxHeartbeats 4000000 in
theorem intsK (l m : List Int) (a b : Option Addr) (ca cb : Nat) (w : World) (hl : l.length ≤ 1000000) (hm : m.length ≤ 1000000) (hp : IntsAt w a l) (hq : IntsAt w b m) : Gives Try.prog 22 [.slice a l.length ca, .slice b m.length cb] w (.bool (decide (l = m))) := by
  refine .mk <| enter (n := 26) Try.func22 rfl rfl rfl (by repeat (first | exact Fill.nil | apply Fill.cons)) ?_
  refine cw_seq ?_
  refine cw_region ?_
  refine lstepB rfl rfl rfl (run_assign .const) ?_
  refine lnil ?_
  refine xw_then ?_
  refine cw_seq ?_
  refine cw_seq ?_
  refine cw_region ?_
  refine lstepB rfl rfl rfl (run_move (.tmp rfl)) ?_
  refine lstepB rfl rfl rfl (run_len (.tmp rfl) sl33) ?_
  refine lstepB rfl rfl rfl (run_move (.tmp rfl)) ?_
  refine lstepB rfl rfl rfl (run_len (.tmp rfl) sl33) ?_
  refine lstepB rfl rfl rfl (run_neq (.tmp rfl) (.tmp rfl) rfl) ?_
  refine lnil ?_
  refine xw_then ?_
  refine cw_cond_p (.tmp rfl) (fun hc => ?_) (fun hc => ?_)
  ·
    refine cw_seq ?_
    refine cw_region ?_
    refine lstepB rfl rfl rfl (run_assign .const) ?_
    refine lnil ?_
    refine xw_then ?_
    refine cw_ret ?_
    refine xw_then_ret ?_
    refine xw_ret1 Try.results22 rfl (fun w hS => ⟨by rw [decide_eq_false (fun e => hc (by rw [e]))], hS.kept⟩)
  ·
    have hlen : l.length = m.length := by omega
    refine cw_skip ?_
    refine xw_then ?_
    refine cw_seq ?_
    refine cw_seq ?_
    refine cw_region ?_
    refine lstepB rfl rfl rfl (run_assign .const) ?_
    refine lnil ?_
    refine xw_then ?_
    refine cw_block ?_
    refine cw_loop (S := Nat) (fun k => [(5, .int .i64 (k : Int))]) [(0, _), (1, _)] (fun k => []) (fun k => k ≤ l.length ∧ ∀ j : Nat, j < k → l[j]? = m[j]?) (fun k => l.length - k) 0 ⟨Nat.zero_le _, fun j h => absurd h (Nat.not_lt_zero j)⟩ (by repeat (first | exact Less.nil | refine Less.cons rfl ?_)) (by repeat (first | exact Pick.nil | (apply Pick.cons; focus (repeat (first | exact Del.here | apply Del.there))))) ?_
    intro k hk
    refine cw_seq ?_
    refine cw_seq ?_
    refine cw_region ?_
    refine lstepB rfl rfl rfl (run_move (.tmp rfl)) ?_
    refine lstepB rfl rfl rfl (run_move (.tmp rfl)) ?_
    refine lstepB rfl rfl rfl (run_len (.tmp rfl) sl33) ?_
    refine lstepB rfl rfl rfl (run_lss (.tmp rfl) (.tmp rfl) (by first | exact decide_eq_true (by omega) | exact decide_eq_false (by omega) | exact rfl)) ?_
    refine lnil ?_
    refine xw_then ?_
    refine cw_cond_p (.tmp rfl) (fun hl => ?_) (fun hl => ?_)
    ·
      obtain ⟨x, hx⟩ : ∃ x, l[k]? = some x := ⟨_, List.getElem?_eq_getElem (by omega)⟩
      obtain ⟨y, hy⟩ : ∃ x, m[k]? = some x := ⟨_, List.getElem?_eq_getElem (by omega)⟩
      obtain ⟨b, o, rfl, hb, hcl⟩ := hp.int (by omega)
      obtain ⟨b', o', rfl, hb', hcm⟩ := hq.int (by omega)
      obtain ⟨t1, t2⟩ := beq_take hlen hk.2 hx hy
      refine cw_skip ?_
      refine xw_then ?_
      refine cw_seq ?_
      refine cw_block ?_
      refine cw_seq ?_
      refine cw_chain2 (σ := [0, 1, 2, 3, 4, 5, 6, 7, 8]) [⟨0, [], [], [], 0⟩, ⟨0, [], [], [], 0⟩, ⟨0, [], [], [], 3⟩, ⟨0, [], [], [], 7⟩, ⟨0, [], [], [], 0⟩, ⟨0, [], [], [], 0⟩, ⟨0, [], [], [], 48⟩, ⟨0, [], [], [], 112⟩, ⟨0, [], [], [], 255⟩] [] (by kernel_rfl) (by kernel_rfl) rfl ?_
      refine .det (B := []) rfl rfl (.inl rfl) .nil .nil rfl (RunB.lr (run_move (.tmp rfl))) ?_
      refine .det (B := []) rfl rfl (.inl rfl) .nil .nil rfl (RunB.lr (run_move (.tmp rfl))) ?_
      refine .det (B := []) rfl rfl (.inl rfl) .nil .nil rfl (RunB.lr (run_indexAddr (i := k) (off' := o + k) (.tmp rfl) (.tmp rfl) el33 (by omega) (by rw [Nat.mul_one]))) ?_
      refine .det (B := []) rfl rfl (.inl rfl) .nil .nil rfl (RunB.lr (run_load1_at (.tmp rfl) kd3 (fun w' hS => hS.old_cell (fun h => h) (hcl k x hx)))) ?_
      refine .det (B := []) rfl rfl (.inl rfl) .nil .nil rfl (RunB.lr (run_move (.tmp rfl))) ?_
      refine .det (B := []) rfl rfl (.inl rfl) .nil .nil rfl (RunB.lr (run_move (.tmp rfl))) ?_
      refine .det (B := []) rfl rfl (.inl rfl) .nil .nil rfl (RunB.lr (run_indexAddr (i := k) (off' := o' + k) (.tmp rfl) (.tmp rfl) el33 (by omega) (by rw [Nat.mul_one]))) ?_
      refine .det (B := []) rfl rfl (.inl rfl) .nil .nil rfl (RunB.lr (run_load1_at (.tmp rfl) kd3 (fun w' hS => hS.old_cell (fun h => h) (hcm k y hy)))) ?_
      refine .det (B := []) rfl rfl (.inl rfl) .nil .nil rfl (RunB.lr (run_neq (.tmp rfl) (.tmp rfl) rfl)) ?_
      refine chain_nil (ts := []) .nil (by decide) ?_
      refine xw_then ?_
      refine cw_cond_p (.tmp rfl) (fun hc2 => ?_) (fun hc2 => ?_)
      ·
        refine cw_seq ?_
        refine cw_region ?_
        refine lstepB rfl rfl rfl (run_assign .const) ?_
        refine lnil ?_
        refine xw_then ?_
        refine cw_ret ?_
        refine xw_in_ret ?_
        refine xw_then_ret ?_
        refine xw_then_ret ?_
        refine xw_in_ret ?_
        refine xw_then_ret ?_
        refine xw_ret1 Try.results22 rfl (fun w hS => ⟨by rw [decide_eq_false (t2 hc2)], hS.kept⟩)
      ·
        refine cw_skip ?_
        refine xw_in ?_
        refine xw_then ?_
        refine cw_region ?_
        refine lstepB rfl rfl rfl (run_move (.tmp rfl)) ?_
        refine lstepB rfl rfl rfl (run_add (.tmp rfl) .const (by first | exact IntWalk.i64_in _ (by omega) | exact rfl)) ?_
        refine lstepB rfl rfl rfl (run_assign (.tmp rfl)) ?_
        refine lnil ?_
        exact xw_round (k + 1) ⟨by omega, t1 (by omega)⟩ (by show l.length - (k + 1) < l.length - k; omega) (by repeat (first | exact Less.nil | refine Less.cons rfl ?_)) (by repeat (first | exact Pick.nil | (apply Pick.cons; focus (repeat (first | exact Del.here | apply Del.there)))))
    ·
      obtain rfl : k = l.length := by omega
      have he : l = m := by
        apply List.ext_getElem?
        intro j
        rcases Nat.lt_or_ge j l.length with h | h
        · exact hk.2 j h
        · rw [List.getElem?_eq_none h, List.getElem?_eq_none (by omega)]
      refine cw_exit ?_
      refine xw_then_exit ?_
      refine xw_then_exit ?_
      refine xw_in_exit ?_
      refine xw_then ?_
      refine cw_seq ?_
      refine cw_region ?_
      refine lstepB rfl rfl rfl (run_assign .const) ?_
      refine lnil ?_
      refine xw_then ?_
      refine cw_ret ?_
      refine xw_ret1 Try.results22 rfl (fun w hS => ⟨by rw [decide_eq_true he], hS.kept⟩)
theorem s_valid : validB sampleF = true := by decide +kernel
theorem s_bend : bendR sampleF = (⟨3, 6⟩, 0) := by decide +kernel
theorem s_at2 : atR sampleF 2 = (⟨3, 4⟩, 0) := by decide +kernel
theorem s_at1 : atR sampleF 1 = (⟨3, 6⟩, 0) := by decide +kernel
theorem s_at3 : atR sampleF 3 = (⟨3, 4⟩, 0) := by decide +kernel
theorem s_at0 : atR sampleF 0 = (⟨0, 0⟩, 2) := by decide +kernel
theorem s_at4 : atR sampleF 4 = (⟨0, 0⟩, 2) := by decide +kernel
theorem s_straight : wayS sampleF.offs (mostB (bendT sampleF.offs).lo) = some [1, 2, 0, 1, 5] := by decide +kernel
theorem s_worst : worstR sampleF = ((0, 14), 0) := by decide +kernel
theorem s_wrong2 : wrongR sampleF 2 = (6, 0) := by decide +kernel
theorem s_wrong3 : wrongR sampleF 3 = (0, 0) := by decide +kernel
theorem s_shallow : shallowR sampleF 15 = ((8, 10), 0) := by decide +kernel
theorem s_shallow0 : shallowR sampleF 0 = ((0, 0), 0) := by decide +kernel
theorem s_soil : soilR sampleF = (⟨2160, 2400⟩, 0) := by decide +kernel
theorem s_lens : Lens sampleF := ⟨by decide⟩
theorem sampleAt {w : World} {s : Nat × Nat × Nat × Nat × List Value} (hs : InRow 2 5 s.2.2.2.1 s.2.2.2.2 (spansC sampleF.wids)) (h1 : w.heap[s.1]? = some (Obj.cells (spansC sampleF.offs).toArray 28 (0, 0))) (h2 : w.heap[s.2.2.1]? = some (Obj.cells s.2.2.2.2.toArray 28 (0, 0))) (h3 : w.heap[s.2.1]? = some (Obj.cells (spansC sampleF.deps).toArray 28 (0, 0))) : FurrowAt w sampleF (some ⟨s.1, 0, none⟩) (some ⟨s.2.2.1, 0, none⟩) (some ⟨s.2.1, 0, none⟩) :=
  ⟨spansAt_cells h1, spansAt_row h2 hs, spansAt_cells h3⟩
end Go.Proofs.Ytjdeplehhmhpcaa
