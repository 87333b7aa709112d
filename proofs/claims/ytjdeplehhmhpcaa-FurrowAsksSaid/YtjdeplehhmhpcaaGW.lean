/- Furrow: the document's own Wrong; FurrowAsks' walk. -/
import Derived.Test.YtjdeplehhmhpcaaGV
namespace Go.Proofs.Ytjdeplehhmhpcaa
open Go.RowKit En

theorem size_full : ∀ n : Fin 9, ∀ s : Fin 256, s.1 < 2 ^ n.1 → sizeN s.1 < sizeN (2 ^ n.1 - 1) ∨ s.1 = 2 ^ n.1 - 1 := by decide +kernel
/-- The best set of those that are tried so far. -/
structure BestW (f : FurrowD) (most : Int) (k b : Nat) : Prop where
  saved : savedB f.offs most b = true
  lt : b < 2 ^ f.offs.length
  min : ∀ u, u < k → savedB f.offs most u = true → sizeN b < sizeN u ∨ sizeN b = sizeN u ∧ b ≤ u
  old : b < k ∨ b = 2 ^ f.offs.length - 1
namespace BestW
variable {f : FurrowD} {most : Int} {k b : Nat}
theorem yes (h : BestW f most k b) (hk : k < 2 ^ f.offs.length) (hs : sizeN k < sizeN b) (hv : savedB f.offs most k = true) : BestW f most (k + 1) k :=
  ⟨hv, hk, fun u hu hu2 => by
    rcases Nat.lt_succ_iff_lt_or_eq.1 hu with h1 | rfl
    · have := h.min u h1 hu2; omega
    · exact .inr ⟨rfl, Nat.le_refl _⟩, .inl (Nat.lt_succ_self _)⟩
theorem no (h : BestW f most k b) (hn : f.offs.length ≤ 8) (hk : k < 2 ^ f.offs.length) (hs : savedB f.offs most k = true → ¬ sizeN k < sizeN b) : BestW f most (k + 1) b :=
  ⟨h.saved, h.lt, fun u hu hu2 => by
    rcases Nat.lt_succ_iff_lt_or_eq.1 hu with h1 | rfl
    · exact h.min u h1 hu2
    · have h2 := hs hu2
      have e : 2 ^ f.offs.length ≤ 2 ^ 8 := Nat.pow_le_pow_right (by omega) hn
      have h3 := size_full ⟨f.offs.length, by omega⟩ ⟨u, by omega⟩ hk
      simp only at h3
      rcases h.old with h4 | h4
      · omega
      · rw [← h4] at h3; omega, by have := h.old; omega⟩
theorem done (h : BestW f most (2 ^ f.offs.length) b) (hv : ValidF f) (hm : 0 ≤ most) : wrongN f most = (b : Int) := by
  obtain ⟨s, h1, h2, h3, A, B, h4, h5⟩ := wrong_spec hv hm
  have a := sets_first hv.len h4 h5 h.lt h.saved
  have c := h.min s h2 h3
  rw [h1]
  have : s = b := by omega
  rw [this]
end BestW
set_option maxRecDepth 100000 in
set_option maxHeartbeats 4000000 in
theorem rwrongK (f : FurrowD) (oa wa da : Option Addr) (oc wc dc : Nat) (most : Int) (w : World) (hm : Lens f) (hf : FurrowAt w f oa wa da) : Gives Try.prog 24 [furrowV f oa wa da oc wc dc, .int .i64 most] w (.tuple #[.int .i64 (wrongR f most).1, .int .i64 (wrongR f most).2]) := by
  unfold wrongR
  cases hv : validB f
  ·
    refine .mk <| enter (n := 40) Try.func24 rfl rfl rfl (by repeat (first | exact Fill.nil | apply Fill.cons)) ?_
    refine cw_seq ?_
    refine cw_region ?_
    refine lstep rfl rfl rfl (run_boxN (.tmp rfl)) ?_
    intro b2 _
    refine lstepB rfl rfl rfl (run_assign .const) ?_
    refine lstepB rfl rfl rfl (run_assign .const) ?_
    refine lnil ?_
    refine xw_then ?_
    refine cw_seq ?_
    refine cw_seq ?_
    refine cw_region ?_
    refine lstepB rfl rfl rfl (run_loadN (.tmp rfl) kd24 sz24 (by repeat (first | exact List.Mem.head _ | apply List.Mem.tail)) (by repeat (first | exact Sub.done | apply Sub.take | apply Sub.skip))) ?_
    refine lstepB rfl rfl rfl (run_call1 cb35 (.cons (.tmp rfl) .nil) (fun w2 hS => (rFurrowK f oa wa da oc wc dc w2 hm (hf.kept hS.kept)).as (congrArg Value.bool hv))) ?_
    refine lstepB rfl rfl rfl (run_not (.tmp rfl) (by first | exact Bool.not_true | exact Bool.not_false | exact rfl)) ?_
    refine lnil ?_
    refine xw_then ?_
    refine cw_cond_true (.tmp rfl) ?_
    refine cw_seq ?_
    refine cw_region ?_
    refine lstepB rfl rfl rfl (run_assign .const) ?_
    refine lstepB rfl rfl rfl (run_assign .const) ?_
    refine lnil ?_
    refine xw_then ?_
    refine cw_ret ?_
    refine xw_then_ret ?_
    refine xw_ret2 Try.results24 rfl rfl (fun w hS => ⟨rfl, hS.kept⟩)
  ·
    have hvf := validF hv
    have hfine := hvf.fine
    have hn8 := hvf.len
    by_cases h0 : 0 ≤ most
    ·
      rw [if_pos rfl, if_pos h0]
      have hpn : 2 ^ f.offs.length ≤ 256 := Nat.pow_le_pow_right (n := 2) (by omega) (show f.offs.length ≤ 8 by omega)
      have hpp := Nat.two_pow_pos f.offs.length
      have hB0 : BestW f most 0 (2 ^ f.offs.length - 1) := ⟨saved_all h0, by omega, fun u hu => absurd hu (Nat.not_lt_zero u), .inr rfl⟩
      refine .mk <| enter (n := 40) Try.func24 rfl rfl rfl (by repeat (first | exact Fill.nil | apply Fill.cons)) ?_
      refine cw_seq ?_
      refine cw_region ?_
      refine lstep rfl rfl rfl (run_boxN (.tmp rfl)) ?_
      intro b2 _
      refine lstepB rfl rfl rfl (run_assign .const) ?_
      refine lstepB rfl rfl rfl (run_assign .const) ?_
      refine lnil ?_
      refine xw_then ?_
      refine cw_seq ?_
      refine cw_seq ?_
      refine cw_region ?_
      refine lstepB rfl rfl rfl (run_loadN (.tmp rfl) kd24 sz24 (by repeat (first | exact List.Mem.head _ | apply List.Mem.tail)) (by repeat (first | exact Sub.done | apply Sub.take | apply Sub.skip))) ?_
      refine lstepB rfl rfl rfl (run_call1 cb35 (.cons (.tmp rfl) .nil) (fun w2 hS => (rFurrowK f oa wa da oc wc dc w2 hm (hf.kept hS.kept)).as (congrArg Value.bool hv))) ?_
      refine lstepB rfl rfl rfl (run_not (.tmp rfl) (by first | exact Bool.not_true | exact Bool.not_false | exact rfl)) ?_
      refine lnil ?_
      refine xw_then ?_
      refine cw_cond_false (.tmp rfl) ?_
      refine cw_skip ?_
      refine xw_then ?_
      refine cw_seq ?_
      refine cw_seq ?_
      refine cw_region ?_
      refine lstepB rfl rfl rfl (run_move (.tmp rfl)) ?_
      refine lstepB rfl rfl rfl (run_lss (.tmp rfl) .const (decide_eq_false (by omega))) ?_
      refine lnil ?_
      refine xw_then ?_
      refine cw_cond_false (.tmp rfl) ?_
      refine cw_skip ?_
      refine xw_then ?_
      refine cw_seq ?_
      refine cw_region ?_
      refine lstepB rfl rfl rfl (run_fieldAddr (.tmp rfl) fa24_0 (by first | exact Nat.zero_add _ | exact rfl)) ?_
      refine lstepB rfl rfl rfl (run_load1 (.tmp rfl) kd22 (by repeat (first | exact List.Mem.head _ | apply List.Mem.tail)) (by exact rfl)) ?_
      refine lstepB rfl rfl rfl (run_len (.tmp rfl) sl22) ?_
      refine lstepB rfl rfl rfl (run_call1 cb59 (.cons (.tmp rfl) .nil) (fun w _ => powerK f.offs.length (by omega) w)) ?_
      refine lstepB rfl rfl rfl (run_sub (c := ((2 ^ f.offs.length - 1 : Nat) : Int)) (.tmp rfl) .const (by rw [show ((2 ^ f.offs.length - 1 : Nat) : Int) = ((2 ^ f.offs.length : Nat) : Int) - 1 by omega]; exact IntWalk.i64_in _ (by omega))) ?_
      refine lstepB rfl rfl rfl (run_assign (.tmp rfl)) ?_
      refine lnil ?_
      refine xw_then ?_
      refine cw_seq ?_
      refine cw_seq ?_
      refine cw_region ?_
      refine lstepB rfl rfl rfl (run_assign .const) ?_
      refine lnil ?_
      refine xw_then ?_
      refine cw_block ?_
      refine cw_loop (S := Nat × Nat) (fun st => [(7, .int .i64 ((st.1 : Nat) : Int)), (6, .int .i64 ((st.2 : Nat) : Int))]) [(1, _), (2, _)] (fun st => (b2, Obj.cells (furrowC f oa wa da oc wc dc).toArray 24 (0, 0)) :: []) (fun st => st.1 ≤ 2 ^ f.offs.length ∧ BestW f most st.1 st.2) (fun st => 2 ^ f.offs.length - st.1) (0, 2 ^ f.offs.length - 1) ⟨Nat.zero_le _, hB0⟩ (by repeat (first | exact Less.nil | refine Less.cons rfl ?_)) (by repeat (first | exact Pick.nil | (apply Pick.cons; focus (repeat (first | exact Del.here | apply Del.there))))) ?_
      intro st hs
      obtain ⟨k, b⟩ := st
      obtain ⟨hk, hB⟩ := hs
      dsimp only at hk hB ⊢
      have hbl := hB.lt
      refine cw_seq ?_
      refine cw_seq ?_
      refine cw_region ?_
      refine lstepB rfl rfl rfl (run_move (.tmp rfl)) ?_
      refine lstepB rfl rfl rfl (run_fieldAddr (.tmp rfl) fa24_0 (by first | exact Nat.zero_add _ | exact rfl)) ?_
      refine lstepB rfl rfl rfl (run_load1 (.tmp rfl) kd22 (by repeat (first | exact List.Mem.head _ | apply List.Mem.tail)) (by exact rfl)) ?_
      refine lstepB rfl rfl rfl (run_len (.tmp rfl) sl22) ?_
      refine lstepB rfl rfl rfl (run_call1 cb59 (.cons (.tmp rfl) .nil) (fun w _ => powerK f.offs.length (by omega) w)) ?_
      refine lstepB rfl rfl rfl (run_lss (.tmp rfl) (.tmp rfl) rfl) ?_
      refine lnil ?_
      refine xw_then ?_
      refine cw_cond_p (.tmp rfl) (fun hl => ?_) (fun hl => ?_)
      ·
        have hkn : k < 2 ^ f.offs.length := by omega
        by_cases c1 : sizeN k < sizeN b
        ·
          have hn1 : 1 ≤ f.offs.length := by
            rcases Nat.eq_zero_or_pos f.offs.length with h | h
            · rw [h] at hkn hbl
              have e1 : k = 0 := by omega
              have e2 : b = 0 := by omega
              rw [e1, e2] at c1
              omega
            · exact h
          cases hsv : savedB f.offs most k
          ·
            refine cw_skip ?_
            refine xw_then ?_
            refine cw_seq ?_
            refine cw_block ?_
            refine cw_seq ?_
            refine cw_region ?_
            refine lstepB rfl rfl rfl (run_move (.tmp rfl)) ?_
            refine lstepB rfl rfl rfl (run_call1 cb36 (.cons (.tmp rfl) .nil) (fun w2 _ => sizeK k (by omega) w2)) ?_
            refine lstepB rfl rfl rfl (run_move (.tmp rfl)) ?_
            refine lstepB rfl rfl rfl (run_call1 cb36 (.cons (.tmp rfl) .nil) (fun w2 _ => sizeK b (by omega) w2)) ?_
            refine lstepB rfl rfl rfl (run_lss (.tmp rfl) (.tmp rfl) (decide_eq_true (by omega))) ?_
            refine lstepB rfl rfl rfl (run_move (.tmp rfl)) ?_
            refine lyes rfl rfl rfl rfl ?_
            refine gstepB rfl rfl (run_loadN (.tmp rfl) kd24 sz24 (by repeat (first | exact List.Mem.head _ | apply List.Mem.tail)) (by repeat (first | exact Sub.done | apply Sub.take | apply Sub.skip))) ?_
            refine lyes rfl rfl rfl rfl ?_
            refine gstepB rfl rfl (run_move (.tmp rfl)) ?_
            refine lyes rfl rfl rfl rfl ?_
            refine gstep rfl rfl (LR.runs (R := []) (A := []) (lr_gives cb66 (.cons (.tmp rfl) (.cons (.tmp rfl) .nil)) (fun w2 hS => rfreeK f oa wa da oc wc dc k (by omega) w2 hn1 hn8 (hf.kept hS.kept))) (by repeat (first | exact Pick.nil | (apply Pick.cons; focus (repeat (first | exact Del.here | apply Del.there))))) (by repeat (first | exact Dels.nil | (apply Dels.cons; focus (repeat (first | exact Del.here | apply Del.there)))))) ?_
            intro ⟨gF, cF, rF⟩ hF
            dsimp only at hF ⊢
            refine lyes rfl rfl rfl rfl ?_
            refine gstepB rfl rfl (run_move (.tmp rfl)) ?_
            refine lyes rfl rfl rfl rfl ?_
            refine gstepB rfl rfl (run_call1 cb65 (.cons (.tmp rfl) (.cons (.tmp rfl) (.cons .const .nil))) (fun w2 hS => by have h := canK (freedL_fine hfine k) (by rw [freedL_length]; omega) most (freedL f.offs k).length [] (by simp) (fun j hj => absurd hj (Nat.not_lt_zero j)) (fun x hx => by cases hx) (some ⟨gF, 0, none⟩) cF none 0 w2 (spansAt_row (hS.mem (b := gF) (by repeat (first | exact List.Mem.head _ | apply List.Mem.tail))) hF) (fun i r h => by simp at h); rw [canF_most, freedL_length, show canMost (freedL f.offs k) most = savedB f.offs most k from rfl, hsv] at h; exact h)) ?_
            refine lstepB rfl rfl rfl (by first | exact run_pick_true (.tmp rfl) (.tmp rfl) | exact run_pick_false (.tmp rfl) .const) ?_
            refine lnil ?_
            refine xw_then ?_
            refine cw_cond_false (.tmp rfl) ?_
            refine cw_skip ?_
            refine xw_in ?_
            refine xw_then ?_
            refine cw_region ?_
            refine lstepB rfl rfl rfl (run_move (.tmp rfl)) ?_
            refine lstepB rfl rfl rfl (run_add (c := ((k + 1 : Nat) : Int)) (.tmp rfl) .const (by rw [show (k : Int) + 1 = ((k + 1 : Nat) : Int) by omega]; exact IntWalk.i64_in _ (by omega))) ?_
            refine lstepB rfl rfl rfl (run_assign (.tmp rfl)) ?_
            refine lnil ?_
            exact xw_round (k + 1, b) ⟨by simp only; omega, hB.no hn8 hkn (fun h => by rw [hsv] at h; cases h)⟩ (by show 2 ^ f.offs.length - (k + 1) < 2 ^ f.offs.length - k; omega) (by repeat (first | exact Less.nil | refine Less.cons rfl ?_)) (by repeat (first | exact Pick.nil | (apply Pick.cons; focus (repeat (first | exact Del.here | apply Del.there)))))
          ·
            refine cw_skip ?_
            refine xw_then ?_
            refine cw_seq ?_
            refine cw_block ?_
            refine cw_seq ?_
            refine cw_region ?_
            refine lstepB rfl rfl rfl (run_move (.tmp rfl)) ?_
            refine lstepB rfl rfl rfl (run_call1 cb36 (.cons (.tmp rfl) .nil) (fun w2 _ => sizeK k (by omega) w2)) ?_
            refine lstepB rfl rfl rfl (run_move (.tmp rfl)) ?_
            refine lstepB rfl rfl rfl (run_call1 cb36 (.cons (.tmp rfl) .nil) (fun w2 _ => sizeK b (by omega) w2)) ?_
            refine lstepB rfl rfl rfl (run_lss (.tmp rfl) (.tmp rfl) (decide_eq_true (by omega))) ?_
            refine lstepB rfl rfl rfl (run_move (.tmp rfl)) ?_
            refine lyes rfl rfl rfl rfl ?_
            refine gstepB rfl rfl (run_loadN (.tmp rfl) kd24 sz24 (by repeat (first | exact List.Mem.head _ | apply List.Mem.tail)) (by repeat (first | exact Sub.done | apply Sub.take | apply Sub.skip))) ?_
            refine lyes rfl rfl rfl rfl ?_
            refine gstepB rfl rfl (run_move (.tmp rfl)) ?_
            refine lyes rfl rfl rfl rfl ?_
            refine gstep rfl rfl (LR.runs (R := []) (A := []) (lr_gives cb66 (.cons (.tmp rfl) (.cons (.tmp rfl) .nil)) (fun w2 hS => rfreeK f oa wa da oc wc dc k (by omega) w2 hn1 hn8 (hf.kept hS.kept))) (by repeat (first | exact Pick.nil | (apply Pick.cons; focus (repeat (first | exact Del.here | apply Del.there))))) (by repeat (first | exact Dels.nil | (apply Dels.cons; focus (repeat (first | exact Del.here | apply Del.there)))))) ?_
            intro ⟨gF, cF, rF⟩ hF
            dsimp only at hF ⊢
            refine lyes rfl rfl rfl rfl ?_
            refine gstepB rfl rfl (run_move (.tmp rfl)) ?_
            refine lyes rfl rfl rfl rfl ?_
            refine gstepB rfl rfl (run_call1 cb65 (.cons (.tmp rfl) (.cons (.tmp rfl) (.cons .const .nil))) (fun w2 hS => by have h := canK (freedL_fine hfine k) (by rw [freedL_length]; omega) most (freedL f.offs k).length [] (by simp) (fun j hj => absurd hj (Nat.not_lt_zero j)) (fun x hx => by cases hx) (some ⟨gF, 0, none⟩) cF none 0 w2 (spansAt_row (hS.mem (b := gF) (by repeat (first | exact List.Mem.head _ | apply List.Mem.tail))) hF) (fun i r h => by simp at h); rw [canF_most, freedL_length, show canMost (freedL f.offs k) most = savedB f.offs most k from rfl, hsv] at h; exact h)) ?_
            refine lstepB rfl rfl rfl (by first | exact run_pick_true (.tmp rfl) (.tmp rfl) | exact run_pick_false (.tmp rfl) .const) ?_
            refine lnil ?_
            refine xw_then ?_
            refine cw_cond_true (.tmp rfl) ?_
            refine cw_region ?_
            refine lstepB rfl rfl rfl (run_move (.tmp rfl)) ?_
            refine lstepB rfl rfl rfl (run_assign (.tmp rfl)) ?_
            refine lnil ?_
            refine xw_in ?_
            refine xw_then ?_
            refine cw_region ?_
            refine lstepB rfl rfl rfl (run_move (.tmp rfl)) ?_
            refine lstepB rfl rfl rfl (run_add (c := ((k + 1 : Nat) : Int)) (.tmp rfl) .const (by rw [show (k : Int) + 1 = ((k + 1 : Nat) : Int) by omega]; exact IntWalk.i64_in _ (by omega))) ?_
            refine lstepB rfl rfl rfl (run_assign (.tmp rfl)) ?_
            refine lnil ?_
            exact xw_round (k + 1, k) ⟨by simp only; omega, hB.yes hkn c1 hsv⟩ (by show 2 ^ f.offs.length - (k + 1) < 2 ^ f.offs.length - k; omega) (by repeat (first | exact Less.nil | refine Less.cons rfl ?_)) (by repeat (first | exact Pick.nil | (apply Pick.cons; focus (repeat (first | exact Del.here | apply Del.there)))))
        ·
          refine cw_skip ?_
          refine xw_then ?_
          refine cw_seq ?_
          refine cw_block ?_
          refine cw_seq ?_
          refine cw_region ?_
          refine lstepB rfl rfl rfl (run_move (.tmp rfl)) ?_
          refine lstepB rfl rfl rfl (run_call1 cb36 (.cons (.tmp rfl) .nil) (fun w2 _ => sizeK k (by omega) w2)) ?_
          refine lstepB rfl rfl rfl (run_move (.tmp rfl)) ?_
          refine lstepB rfl rfl rfl (run_call1 cb36 (.cons (.tmp rfl) .nil) (fun w2 _ => sizeK b (by omega) w2)) ?_
          refine lstepB rfl rfl rfl (run_lss (.tmp rfl) (.tmp rfl) (decide_eq_false (by omega))) ?_
          refine lstepB rfl rfl rfl (run_move (.tmp rfl)) ?_
          refine lskip rfl rfl rfl rfl rfl rfl rfl ?_
          refine lskip rfl rfl rfl rfl rfl rfl rfl ?_
          refine lskip rfl rfl rfl rfl rfl rfl rfl ?_
          refine lskip rfl rfl rfl rfl rfl rfl rfl ?_
          refine lskip rfl rfl rfl rfl rfl rfl rfl ?_
          refine lstepB rfl rfl rfl (by first | exact run_pick_true (.tmp rfl) (.tmp rfl) | exact run_pick_false (.tmp rfl) .const) ?_
          refine lnil ?_
          refine xw_then ?_
          refine cw_cond_false (.tmp rfl) ?_
          refine cw_skip ?_
          refine xw_in ?_
          refine xw_then ?_
          refine cw_region ?_
          refine lstepB rfl rfl rfl (run_move (.tmp rfl)) ?_
          refine lstepB rfl rfl rfl (run_add (c := ((k + 1 : Nat) : Int)) (.tmp rfl) .const (by rw [show (k : Int) + 1 = ((k + 1 : Nat) : Int) by omega]; exact IntWalk.i64_in _ (by omega))) ?_
          refine lstepB rfl rfl rfl (run_assign (.tmp rfl)) ?_
          refine lnil ?_
          exact xw_round (k + 1, b) ⟨by simp only; omega, hB.no hn8 hkn (fun _ => c1)⟩ (by show 2 ^ f.offs.length - (k + 1) < 2 ^ f.offs.length - k; omega) (by repeat (first | exact Less.nil | refine Less.cons rfl ?_)) (by repeat (first | exact Pick.nil | (apply Pick.cons; focus (repeat (first | exact Del.here | apply Del.there)))))
      ·
        obtain rfl : k = 2 ^ f.offs.length := by omega
        have hd := hB.done hvf h0
        refine cw_exit ?_
        refine xw_then_exit ?_
        refine xw_then_exit ?_
        refine xw_in_exit ?_
        refine xw_then ?_
        refine cw_seq ?_
        refine cw_region ?_
        refine lstepB rfl rfl rfl (run_move (.tmp rfl)) ?_
        refine lstepB rfl rfl rfl (run_assign (.tmp rfl)) ?_
        refine lstepB rfl rfl rfl (run_assign .const) ?_
        refine lnil ?_
        refine xw_then ?_
        refine cw_ret ?_
        refine xw_ret2 Try.results24 rfl rfl (fun w hS => ⟨by rw [hd], hS.kept⟩)
    ·
      rw [if_pos rfl, if_neg h0]
      refine .mk <| enter (n := 40) Try.func24 rfl rfl rfl (by repeat (first | exact Fill.nil | apply Fill.cons)) ?_
      refine cw_seq ?_
      refine cw_region ?_
      refine lstep rfl rfl rfl (run_boxN (.tmp rfl)) ?_
      intro b2 _
      refine lstepB rfl rfl rfl (run_assign .const) ?_
      refine lstepB rfl rfl rfl (run_assign .const) ?_
      refine lnil ?_
      refine xw_then ?_
      refine cw_seq ?_
      refine cw_seq ?_
      refine cw_region ?_
      refine lstepB rfl rfl rfl (run_loadN (.tmp rfl) kd24 sz24 (by repeat (first | exact List.Mem.head _ | apply List.Mem.tail)) (by repeat (first | exact Sub.done | apply Sub.take | apply Sub.skip))) ?_
      refine lstepB rfl rfl rfl (run_call1 cb35 (.cons (.tmp rfl) .nil) (fun w2 hS => (rFurrowK f oa wa da oc wc dc w2 hm (hf.kept hS.kept)).as (congrArg Value.bool hv))) ?_
      refine lstepB rfl rfl rfl (run_not (.tmp rfl) (by first | exact Bool.not_true | exact Bool.not_false | exact rfl)) ?_
      refine lnil ?_
      refine xw_then ?_
      refine cw_cond_false (.tmp rfl) ?_
      refine cw_skip ?_
      refine xw_then ?_
      refine cw_seq ?_
      refine cw_seq ?_
      refine cw_region ?_
      refine lstepB rfl rfl rfl (run_move (.tmp rfl)) ?_
      refine lstepB rfl rfl rfl (run_lss (.tmp rfl) .const (decide_eq_true (by omega))) ?_
      refine lnil ?_
      refine xw_then ?_
      refine cw_cond_true (.tmp rfl) ?_
      refine cw_seq ?_
      refine cw_region ?_
      refine lstepB rfl rfl rfl (run_assign .const) ?_
      refine lstepB rfl rfl rfl (run_assign .const) ?_
      refine lnil ?_
      refine xw_then ?_
      refine cw_ret ?_
      refine xw_then_ret ?_
      refine xw_ret2 Try.results24 rfl rfl (fun w hS => ⟨rfl, hS.kept⟩)
set_option maxRecDepth 100000 in
set_option maxHeartbeats 4000000 in
theorem furrowAsks_any (f : FurrowD) (oa wa da : Option Addr) (oc wc dc : Nat) (most least : Int) (w : World) (hbnd : f.offs.length ≤ 9223372036854775807 ∧ f.wids.length ≤ 9223372036854775807 ∧ f.deps.length ≤ 9223372036854775807) (hf : FurrowAt w f oa wa da) : Gives Try.prog 4 [furrowV f oa wa da oc wc dc, .int .i64 most, .int .i64 least] w (.bool true) := by
  cases hh : heavyB f 4 6
  ·
    have h40 : ¬ 40 < lenM f := fun h => by unfold heavyB at hh; rw [if_pos h] at hh; cases hh
    have hm := lenM_lens h40
    refine .mk <| enter (n := 96) Try.func4 rfl rfl rfl (by repeat (first | exact Fill.nil | apply Fill.cons)) ?_
    refine cw_seq ?_
    refine cw_region ?_
    refine lstep rfl rfl rfl (run_boxN (.tmp rfl)) ?_
    intro b3 _
    refine lstepB rfl rfl rfl (run_assign .const) ?_
    refine lnil ?_
    refine xw_then ?_
    refine cw_seq ?_
    refine cw_seq ?_
    refine cw_region ?_
    refine lstepB rfl rfl rfl (run_loadN (.tmp rfl) kd24 sz24 (by repeat (first | exact List.Mem.head _ | apply List.Mem.tail)) (by repeat (first | exact Sub.done | apply Sub.take | apply Sub.skip))) ?_
    refine lstepB rfl rfl rfl (run_call1 cb12 (.cons (.tmp rfl) (.cons .const (.cons .const .nil))) (fun w2 hS => (heavyK f oa wa da oc wc dc 4 6 w2 hbnd (hf.kept hS.kept)).as (congrArg Value.bool hh))) ?_
    refine lnil ?_
    refine xw_then ?_
    refine cw_cond_false (.tmp rfl) ?_
    refine cw_skip ?_
    refine xw_then ?_
    refine cw_seq ?_
    refine cw_region ?_
    refine lstepB rfl rfl rfl (run_loadN (.tmp rfl) kd24 sz24 (by repeat (first | exact List.Mem.head _ | apply List.Mem.tail)) (by repeat (first | exact Sub.done | apply Sub.take | apply Sub.skip))) ?_
    refine lstepB rfl rfl rfl (run_move (.tmp rfl)) ?_
    refine lstepB rfl rfl rfl (run_call1 cb23 (.cons (.tmp rfl) (.cons (.tmp rfl) .nil)) (fun w2 hS => wrongQ f oa wa da oc wc dc most w2 hm (hf.kept hS.kept))) ?_
    refine lstepB rfl rfl rfl (run_move (.tmp rfl)) ?_
    refine lstepB rfl rfl rfl (run_extract (.tmp rfl) rfl) ?_
    refine lstepB rfl rfl rfl (run_extract (.tmp rfl) rfl) ?_
    refine lstepB rfl rfl rfl (run_assign (.tmp rfl)) ?_
    refine lstepB rfl rfl rfl (run_assign (.tmp rfl)) ?_
    refine lnil ?_
    refine xw_then ?_
    refine cw_seq ?_
    refine cw_region ?_
    refine lstepB rfl rfl rfl (run_loadN (.tmp rfl) kd24 sz24 (by repeat (first | exact List.Mem.head _ | apply List.Mem.tail)) (by repeat (first | exact Sub.done | apply Sub.take | apply Sub.skip))) ?_
    refine lstepB rfl rfl rfl (run_move (.tmp rfl)) ?_
    refine lstepB rfl rfl rfl (run_call1 cb24 (.cons (.tmp rfl) (.cons (.tmp rfl) .nil)) (fun w2 hS => rwrongK f oa wa da oc wc dc most w2 hm (hf.kept hS.kept))) ?_
    refine lstepB rfl rfl rfl (run_move (.tmp rfl)) ?_
    refine lstepB rfl rfl rfl (run_extract (.tmp rfl) rfl) ?_
    refine lstepB rfl rfl rfl (run_extract (.tmp rfl) rfl) ?_
    refine lstepB rfl rfl rfl (run_assign (.tmp rfl)) ?_
    refine lstepB rfl rfl rfl (run_assign (.tmp rfl)) ?_
    refine lnil ?_
    refine xw_then ?_
    refine cw_seq ?_
    refine cw_region ?_
    refine lstepB rfl rfl rfl (run_loadN (.tmp rfl) kd24 sz24 (by repeat (first | exact List.Mem.head _ | apply List.Mem.tail)) (by repeat (first | exact Sub.done | apply Sub.take | apply Sub.skip))) ?_
    refine lstepB rfl rfl rfl (run_move (.tmp rfl)) ?_
    refine lstepB rfl rfl rfl (run_call1 cb25 (.cons (.tmp rfl) (.cons (.tmp rfl) .nil)) (fun w2 hS => shallowQ f oa wa da oc wc dc least w2 hm (hf.kept hS.kept))) ?_
    refine lstepB rfl rfl rfl (run_move (.tmp rfl)) ?_
    refine lstepB rfl rfl rfl (run_extract (.tmp rfl) rfl) ?_
    refine lstepB rfl rfl rfl (run_extract (.tmp rfl) rfl) ?_
    refine lstepB rfl rfl rfl (run_extract (.tmp rfl) rfl) ?_
    refine lstepB rfl rfl rfl (run_assign (.tmp rfl)) ?_
    refine lstepB rfl rfl rfl (run_assign (.tmp rfl)) ?_
    refine lstepB rfl rfl rfl (run_assign (.tmp rfl)) ?_
    refine lnil ?_
    refine xw_then ?_
    refine cw_seq ?_
    refine cw_region ?_
    refine lstepB rfl rfl rfl (run_loadN (.tmp rfl) kd24 sz24 (by repeat (first | exact List.Mem.head _ | apply List.Mem.tail)) (by repeat (first | exact Sub.done | apply Sub.take | apply Sub.skip))) ?_
    refine lstepB rfl rfl rfl (run_move (.tmp rfl)) ?_
    refine lstepB rfl rfl rfl (run_call1 cb26 (.cons (.tmp rfl) (.cons (.tmp rfl) .nil)) (fun w2 hS => rshallowK f oa wa da oc wc dc least w2 hm (hf.kept hS.kept))) ?_
    refine lstepB rfl rfl rfl (run_move (.tmp rfl)) ?_
    refine lstepB rfl rfl rfl (run_extract (.tmp rfl) rfl) ?_
    refine lstepB rfl rfl rfl (run_extract (.tmp rfl) rfl) ?_
    refine lstepB rfl rfl rfl (run_extract (.tmp rfl) rfl) ?_
    refine lstepB rfl rfl rfl (run_assign (.tmp rfl)) ?_
    refine lstepB rfl rfl rfl (run_assign (.tmp rfl)) ?_
    refine lstepB rfl rfl rfl (run_assign (.tmp rfl)) ?_
    refine lnil ?_
    refine xw_then ?_
    refine cw_seq ?_
    refine cw_region ?_
    refine lstepB rfl rfl rfl (run_loadN (.tmp rfl) kd24 sz24 (by repeat (first | exact List.Mem.head _ | apply List.Mem.tail)) (by repeat (first | exact Sub.done | apply Sub.take | apply Sub.skip))) ?_
    refine lstepB rfl rfl rfl (run_call1 cb27 (.cons (.tmp rfl) .nil) (fun w2 hS => soilQ f oa wa da oc wc dc  w2 hm (hf.kept hS.kept))) ?_
    refine lstepB rfl rfl rfl (run_move (.tmp rfl)) ?_
    refine lstepB rfl rfl rfl (run_extract (.tmp rfl) rfl) ?_
    refine lstepB rfl rfl rfl (run_extract (.tmp rfl) rfl) ?_
    refine lstep rfl rfl rfl (run_alloc zr28) ?_
    intro b17 _
    refine lstep0 rfl rfl (run_storeN (.tmp rfl) (.tmp rfl) rfl sz28 rfl (by repeat (first | exact Upd.here | apply Upd.there)) (by repeat (first | exact Put.done | apply Put.put | apply Put.skip))) ?_
    refine lstepB rfl rfl rfl (run_assign (.tmp rfl)) ?_
    refine lnil ?_
    refine xw_then ?_
    refine cw_seq ?_
    refine cw_region ?_
    refine lstepB rfl rfl rfl (run_loadN (.tmp rfl) kd24 sz24 (by repeat (first | exact List.Mem.head _ | apply List.Mem.tail)) (by repeat (first | exact Sub.done | apply Sub.take | apply Sub.skip))) ?_
    refine lstepB rfl rfl rfl (run_call1 cb28 (.cons (.tmp rfl) .nil) (fun w2 hS => rsoilK f oa wa da oc wc dc  w2 hm (hf.kept hS.kept))) ?_
    refine lstepB rfl rfl rfl (run_move (.tmp rfl)) ?_
    refine lstepB rfl rfl rfl (run_extract (.tmp rfl) rfl) ?_
    refine lstepB rfl rfl rfl (run_extract (.tmp rfl) rfl) ?_
    refine lstep rfl rfl rfl (run_alloc zr28) ?_
    intro b19 _
    refine lstep0 rfl rfl (run_storeN (.tmp rfl) (.tmp rfl) rfl sz28 rfl (by repeat (first | exact Upd.here | apply Upd.there)) (by repeat (first | exact Put.done | apply Put.put | apply Put.skip))) ?_
    refine lstepB rfl rfl rfl (run_assign (.tmp rfl)) ?_
    refine lnil ?_
    refine xw_then ?_
    refine cw_seq ?_
    refine cw_region ?_
    refine lstepB rfl rfl rfl (run_move (.tmp rfl)) ?_
    refine lstepB rfl rfl rfl (run_move (.tmp rfl)) ?_
    refine lstepB rfl rfl rfl (run_eql (.tmp rfl) (.tmp rfl) (decide_eq_true rfl)) ?_
    refine lstepB rfl rfl rfl (run_move (.tmp rfl)) ?_
    refine lyes rfl rfl rfl rfl ?_
    refine gstepB rfl rfl (run_move (.tmp rfl)) ?_
    refine lyes rfl rfl rfl rfl ?_
    refine gstepB rfl rfl (run_move (.tmp rfl)) ?_
    refine lyes rfl rfl rfl rfl ?_
    refine gstepB rfl rfl (run_eql (.tmp rfl) (.tmp rfl) (decide_eq_true rfl)) ?_
    refine lstepB rfl rfl rfl (by first | exact run_pick_true (.tmp rfl) (.tmp rfl) | exact run_pick_false (.tmp rfl) .const) ?_
    refine lstepB rfl rfl rfl (run_move (.tmp rfl)) ?_
    refine lyes rfl rfl rfl rfl ?_
    refine gstepB rfl rfl (run_move (.tmp rfl)) ?_
    refine lyes rfl rfl rfl rfl ?_
    refine gstepB rfl rfl (run_move (.tmp rfl)) ?_
    refine lyes rfl rfl rfl rfl ?_
    refine gstepB rfl rfl (run_eql (.tmp rfl) (.tmp rfl) (decide_eq_true rfl)) ?_
    refine lstepB rfl rfl rfl (by first | exact run_pick_true (.tmp rfl) (.tmp rfl) | exact run_pick_false (.tmp rfl) .const) ?_
    refine lstepB rfl rfl rfl (run_move (.tmp rfl)) ?_
    refine lyes rfl rfl rfl rfl ?_
    refine gstepB rfl rfl (run_move (.tmp rfl)) ?_
    refine lyes rfl rfl rfl rfl ?_
    refine gstepB rfl rfl (run_move (.tmp rfl)) ?_
    refine lyes rfl rfl rfl rfl ?_
    refine gstepB rfl rfl (run_eql (.tmp rfl) (.tmp rfl) (decide_eq_true rfl)) ?_
    refine lstepB rfl rfl rfl (by first | exact run_pick_true (.tmp rfl) (.tmp rfl) | exact run_pick_false (.tmp rfl) .const) ?_
    refine lstepB rfl rfl rfl (run_move (.tmp rfl)) ?_
    refine lyes rfl rfl rfl rfl ?_
    refine gstepB rfl rfl (run_move (.tmp rfl)) ?_
    refine lyes rfl rfl rfl rfl ?_
    refine gstepB rfl rfl (run_move (.tmp rfl)) ?_
    refine lyes rfl rfl rfl rfl ?_
    refine gstepB rfl rfl (run_eql (.tmp rfl) (.tmp rfl) (decide_eq_true rfl)) ?_
    refine lstepB rfl rfl rfl (by first | exact run_pick_true (.tmp rfl) (.tmp rfl) | exact run_pick_false (.tmp rfl) .const) ?_
    refine lstepB rfl rfl rfl (run_move (.tmp rfl)) ?_
    refine lyes rfl rfl rfl rfl ?_
    refine gstepB rfl rfl (run_loadN (.tmp rfl) kd28 sz28 (by repeat (first | exact List.Mem.head _ | apply List.Mem.tail)) (by repeat (first | exact Sub.done | apply Sub.take | apply Sub.skip))) ?_
    refine lyes rfl rfl rfl rfl ?_
    refine gstepB rfl rfl (run_loadN (.tmp rfl) kd28 sz28 (by repeat (first | exact List.Mem.head _ | apply List.Mem.tail)) (by repeat (first | exact Sub.done | apply Sub.take | apply Sub.skip))) ?_
    refine lyes rfl rfl rfl rfl ?_
    refine gstepB rfl rfl (run_eql_agg (.tmp rfl) (.tmp rfl) eg28 (eql28 (r := true) (by simp))) ?_
    refine lstepB rfl rfl rfl (by first | exact run_pick_true (.tmp rfl) (.tmp rfl) | exact run_pick_false (.tmp rfl) .const) ?_
    refine lstepB rfl rfl rfl (run_move (.tmp rfl)) ?_
    refine lyes rfl rfl rfl rfl ?_
    refine gstepB rfl rfl (run_move (.tmp rfl)) ?_
    refine lyes rfl rfl rfl rfl ?_
    refine gstepB rfl rfl (run_move (.tmp rfl)) ?_
    refine lyes rfl rfl rfl rfl ?_
    refine gstepB rfl rfl (run_eql (.tmp rfl) (.tmp rfl) (decide_eq_true rfl)) ?_
    refine lstepB rfl rfl rfl (by first | exact run_pick_true (.tmp rfl) (.tmp rfl) | exact run_pick_false (.tmp rfl) .const) ?_
    refine lstepB rfl rfl rfl (run_move (.tmp rfl)) ?_
    refine lyes rfl rfl rfl rfl ?_
    refine gstepB rfl rfl (run_call1 cb13 .nil (fun w _ => aliveK w)) ?_
    refine lstepB rfl rfl rfl (by first | exact run_pick_true (.tmp rfl) (.tmp rfl) | exact run_pick_false (.tmp rfl) .const) ?_
    refine lstepB rfl rfl rfl (run_assign (.tmp rfl)) ?_
    refine lnil ?_
    refine xw_then ?_
    refine cw_ret ?_
    refine xw_ret1 Try.results4 rfl (fun w hS => ⟨rfl, hS.kept⟩)
  ·
    refine .mk <| enter (n := 96) Try.func4 rfl rfl rfl (by repeat (first | exact Fill.nil | apply Fill.cons)) ?_
    refine cw_seq ?_
    refine cw_region ?_
    refine lstep rfl rfl rfl (run_boxN (.tmp rfl)) ?_
    intro b3 _
    refine lstepB rfl rfl rfl (run_assign .const) ?_
    refine lnil ?_
    refine xw_then ?_
    refine cw_seq ?_
    refine cw_seq ?_
    refine cw_region ?_
    refine lstepB rfl rfl rfl (run_loadN (.tmp rfl) kd24 sz24 (by repeat (first | exact List.Mem.head _ | apply List.Mem.tail)) (by repeat (first | exact Sub.done | apply Sub.take | apply Sub.skip))) ?_
    refine lstepB rfl rfl rfl (run_call1 cb12 (.cons (.tmp rfl) (.cons .const (.cons .const .nil))) (fun w2 hS => (heavyK f oa wa da oc wc dc 4 6 w2 hbnd (hf.kept hS.kept)).as (congrArg Value.bool hh))) ?_
    refine lnil ?_
    refine xw_then ?_
    refine cw_cond_true (.tmp rfl) ?_
    refine cw_seq ?_
    refine cw_region ?_
    refine lstepB rfl rfl rfl (run_call1 cb13 .nil (fun w _ => aliveK w)) ?_
    refine lstepB rfl rfl rfl (run_assign (.tmp rfl)) ?_
    refine lnil ?_
    refine xw_then ?_
    refine cw_ret ?_
    refine xw_then_ret ?_
    refine xw_ret1 Try.results4 rfl (fun w hS => ⟨rfl, hS.kept⟩)
end Go.Proofs.Ytjdeplehhmhpcaa
