/- Package slices: Grow and Concat, of pits. -/
import Derived.Test.YtfmbnobkenngaaaGZ
namespace Go.Proofs.Ytfmbnobkenngaaa
open Go.RowKit En

theorem pits_plain : ∀ l : List PitD, (pitsC l).all plainV = true
  | [] => rfl
  | p :: r => by
    show ((pitC p) ++ pitsC r).all plainV = true
    rw [List.all_append, pits_plain r]; rfl
theorem pitsC_length : ∀ l : List PitD, (pitsC l).length = l.length * 9
  | [] => rfl
  | p :: r => by
    show ((pitC p) ++ pitsC r).length = _
    rw [List.length_append, pitsC_length r]; simp only [List.length_cons, List.length_nil]; omega
theorem pitsC_append (a b : List PitD) : pitsC (a ++ b) = pitsC a ++ pitsC b := List.flatMap_append ..
theorem pits_flat {w : World} {b : Nat} : ∀ (l : List PitD) (o : Nat), (∀ i p, l[i]? = some p → ∀ j v, (pitC p)[j]? = some v → w.cell? ⟨b, o + i * 9 + j, none⟩ = some v) → ∀ j u, (pitsC l)[j]? = some u → w.cell? ⟨b, o + j, none⟩ = some u
  | [], _, _, j, u, h => by cases h
  | p :: r, o, h, j, u, hj => by
    have e : pitsC (p :: r) = pitC p ++ pitsC r := rfl
    rw [e] at hj
    by_cases hlt : j < 9
    · rw [List.getElem?_append_left (by exact hlt)] at hj
      have := h 0 p rfl j u hj
      simpa using this
    · rw [List.getElem?_append_right (by exact Nat.le_of_not_lt hlt)] at hj
      have := pits_flat r (o + 9) (fun i q hi k v hk => by
        have := h (i + 1) q (by simpa using hi) k v hk
        rw [show o + (i + 1) * 9 + k = o + 9 + i * 9 + k by omega] at this
        exact this) (j - 9) u hj
      rw [show o + 9 + (j - 9) = o + j by omega] at this
      exact this
/-- Slices of pits, in a slice. -/
structure SlsAt (w : World) (b o : Nat) (Ls : List (List PitD)) : Prop where
  at_ : ∀ i l, Ls[i]? = some l → ∃ b1 o1 c1, w.cell? ⟨b, o + i, none⟩ = some (.slice (some ⟨b1, o1, none⟩) l.length c1) ∧ ∀ j p, l[j]? = some p → ∀ k v, (pitC p)[k]? = some v → w.cell? ⟨b1, o1 + j * 9 + k, none⟩ = some v
theorem flat_succ {Ls : List (List PitD)} {k : Nat} {l : List PitD} (h : Ls[k]? = some l) : (Ls.take (k + 1)).flatten = (Ls.take k).flatten ++ l := by
  simp [List.take_add_one, h]
theorem flat_le (Ls : List (List PitD)) (k : Nat) : (Ls.take k).flatten.length ≤ Ls.flatten.length := by
  have : Ls.flatten = (Ls.take k).flatten ++ (Ls.drop k).flatten := by rw [← List.flatten_append, List.take_append_drop]
  rw [this, List.length_append]; omega
theorem flat_nil {Ls : List (List PitD)} (h : Ls.flatten = []) {k : Nat} {l : List PitD} (hk : Ls[k]? = some l) : l = [] := List.flatten_eq_nil_iff.1 h l (List.mem_of_getElem? hk)
set_option maxRecDepth 100000 in
set_option maxHeartbeats 4000000 in
theorem grow0K (w : World) : Gives Try.prog 94 [.slice none 0 0, .int .i64 0] w (.slice none 0 0) := by
  refine .mk <| enter (n := 27) Try.func94 rfl rfl rfl (by repeat (first | exact Fill.nil | apply Fill.cons)) ?_
  refine cw_seq ?_
  refine cw_region ?_
  refine lstepB rfl rfl rfl (run_assign .const) ?_
  refine lnil ?_
  refine xw_then ?_
  refine cw_seq ?_
  refine cw_seq ?_
  refine cw_region ?_
  refine lstepB rfl rfl rfl (run_move (.tmp rfl)) ?_
  refine lstepB rfl rfl rfl (run_lss (.tmp rfl) .const (by first | exact decide_eq_true (by omega) | exact decide_eq_false (by omega) | exact rfl)) ?_
  refine lnil ?_
  refine xw_then ?_
  refine cw_cond_false (.tmp rfl) ?_
  refine cw_skip ?_
  refine xw_then ?_
  refine cw_seq ?_
  refine cw_seq ?_
  refine cw_region ?_
  refine lstepB rfl rfl rfl (run_move (.tmp rfl)) ?_
  refine lstepB rfl rfl rfl (run_move (.tmp rfl)) ?_
  refine lstepB rfl rfl rfl (run_cap (.tmp rfl) sl22) ?_
  refine lstepB rfl rfl rfl (run_move (.tmp rfl)) ?_
  refine lstepB rfl rfl rfl (run_len (.tmp rfl) sl22) ?_
  refine lstepB rfl rfl rfl (run_sub (.tmp rfl) (.tmp rfl) (by first | exact IntWalk.i64_in _ (by omega) | exact rfl)) ?_
  refine lstepB rfl rfl rfl (run_sub (c := 0) (.tmp rfl) (.tmp rfl) (by rw [IntWalk.i64_in _ (by omega)]; omega)) ?_
  refine lstepB rfl rfl rfl (run_assign (.tmp rfl)) ?_
  refine lnil ?_
  refine xw_then ?_
  refine cw_seq ?_
  refine cw_region ?_
  refine lstepB rfl rfl rfl (run_move (.tmp rfl)) ?_
  refine lstepB rfl rfl rfl (run_gtr (.tmp rfl) .const (by first | exact decide_eq_true (by omega) | exact decide_eq_false (by omega) | exact rfl)) ?_
  refine lnil ?_
  refine xw_then ?_
  refine cw_cond_false (.tmp rfl) ?_
  refine cw_skip ?_
  refine xw_then ?_
  refine cw_seq ?_
  refine cw_region ?_
  refine lstepB rfl rfl rfl (run_move (.tmp rfl)) ?_
  refine lstepB rfl rfl rfl (run_assign (.tmp rfl)) ?_
  refine lnil ?_
  refine xw_then ?_
  refine cw_ret ?_
  refine xw_ret1 Try.results94 rfl (fun w hS => ⟨rfl, hS.kept⟩)
set_option maxRecDepth 100000 in
set_option maxHeartbeats 4000000 in
theorem growK (n : Nat) (hn : 0 < n) (hm : n ≤ 1000) (w : World) : CallsF Try.prog 94 (([.slice none 0 0, .int .i64 (n : Int)] : List Value)).toArray w fun e w' => ∃ q : Nat × Nat × List Value, InRow 9 0 q.2.1 q.2.2 [] ∧ e = .returned (.slice (some ⟨q.1, 0, none⟩) 0 q.2.1) ∧ St w NoT [(q.1, Obj.cells q.2.2.toArray 55 (0, 0))] w' := by
  refine enter (n := 27) Try.func94 rfl rfl rfl (by repeat (first | exact Fill.nil | apply Fill.cons)) ?_
  refine cw_seq ?_
  refine cw_region ?_
  refine lstepB rfl rfl rfl (run_assign .const) ?_
  refine lnil ?_
  refine xw_then ?_
  refine cw_seq ?_
  refine cw_seq ?_
  refine cw_region ?_
  refine lstepB rfl rfl rfl (run_move (.tmp rfl)) ?_
  refine lstepB rfl rfl rfl (run_lss (.tmp rfl) .const (by first | exact decide_eq_true (by omega) | exact decide_eq_false (by omega) | exact rfl)) ?_
  refine lnil ?_
  refine xw_then ?_
  refine cw_cond_false (.tmp rfl) ?_
  refine cw_skip ?_
  refine xw_then ?_
  refine cw_seq ?_
  refine cw_seq ?_
  refine cw_region ?_
  refine lstepB rfl rfl rfl (run_move (.tmp rfl)) ?_
  refine lstepB rfl rfl rfl (run_move (.tmp rfl)) ?_
  refine lstepB rfl rfl rfl (run_cap (.tmp rfl) sl22) ?_
  refine lstepB rfl rfl rfl (run_move (.tmp rfl)) ?_
  refine lstepB rfl rfl rfl (run_len (.tmp rfl) sl22) ?_
  refine lstepB rfl rfl rfl (run_sub (.tmp rfl) (.tmp rfl) (by first | exact IntWalk.i64_in _ (by omega) | exact rfl)) ?_
  refine lstepB rfl rfl rfl (run_sub (c := (n : Int)) (.tmp rfl) (.tmp rfl) (by rw [IntWalk.i64_in _ (by omega)]; omega)) ?_
  refine lstepB rfl rfl rfl (run_assign (.tmp rfl)) ?_
  refine lnil ?_
  refine xw_then ?_
  refine cw_seq ?_
  refine cw_region ?_
  refine lstepB rfl rfl rfl (run_move (.tmp rfl)) ?_
  refine lstepB rfl rfl rfl (run_gtr (.tmp rfl) .const (by first | exact decide_eq_true (by omega) | exact decide_eq_false (by omega) | exact rfl)) ?_
  refine lnil ?_
  refine xw_then ?_
  refine cw_cond_true (.tmp rfl) ?_
  refine cw_region ?_
  refine lstepB rfl rfl rfl (run_move (.tmp rfl)) ?_
  refine lstepB rfl rfl rfl (run_move (.tmp rfl)) ?_
  refine lstepB rfl rfl rfl (run_cap (.tmp rfl) sl22) ?_
  refine lstepB rfl rfl rfl (run_sliceH (hi := 0) (.tmp rfl) (.tmp rfl) el22 (Nat.le_refl _)) ?_
  refine lstepB rfl rfl rfl (run_move (.tmp rfl)) ?_
  refine lstep rfl rfl rfl (LR.runs (R := []) (A := []) (lr_append_zeros ap22 Try.underlying3 (by omega) (.tmp rfl) (.tmp rfl) (by omega) (by omega) (by unfold maxLen; omega)) (by repeat (first | exact Pick.nil | (apply Pick.cons; focus (repeat (first | exact Del.here | apply Del.there))))) (by repeat (first | exact Dels.nil | (apply Dels.cons; focus (repeat (first | exact Del.here | apply Del.there)))))) ?_
  intro ⟨gN, cN, rN⟩ hN
  refine lstepB rfl rfl rfl (run_move (.tmp rfl)) ?_
  refine lstepB rfl rfl rfl (run_len (.tmp rfl) sl22) ?_
  refine lstepB rfl rfl rfl (run_sliceH (hi := 0) (.tmp rfl) (.tmp rfl) el22 (Nat.zero_le _)) ?_
  refine lstepB rfl rfl rfl (run_assign (.tmp rfl)) ?_
  refine lnil ?_
  refine xw_then ?_
  refine cw_seq ?_
  refine cw_region ?_
  refine lstepB rfl rfl rfl (run_move (.tmp rfl)) ?_
  refine lstepB rfl rfl rfl (run_assign (.tmp rfl)) ?_
  refine lnil ?_
  refine xw_then ?_
  refine cw_ret ?_
  refine xw_ret1 Try.results94 rfl (fun w hS => ⟨(gN, cN, rN), ⟨Nat.zero_le _, hN.2.1, hN.2.2, by simp⟩, rfl, hS⟩)
set_option maxRecDepth 100000 in
set_option maxHeartbeats 4000000 in
theorem concat0K (Ls : List (List PitD)) (b o c : Nat) (w : World) (hA : SlsAt w b o Ls) (hq : Ls.length ≤ 1000) (hnil : Ls.flatten = []) : Gives Try.prog 70 [.slice (some ⟨b, o, none⟩) Ls.length c] w (.slice none 0 0) := by
  have hm : Ls.flatten.length ≤ 1000 := by rw [hnil]; exact Nat.zero_le _
  refine .mk <| enter (n := 36) Try.func70 rfl rfl rfl (by repeat (first | exact Fill.nil | apply Fill.cons)) ?_
  refine cw_seq ?_
  refine cw_region ?_
  refine lstepB rfl rfl rfl (run_assign .const) ?_
  refine lnil ?_
  refine xw_then ?_
  refine cw_seq ?_
  refine cw_region ?_
  refine lstepB rfl rfl rfl (run_assign .const) ?_
  refine lnil ?_
  refine xw_then ?_
  refine cw_seq ?_
  refine cw_seq ?_
  refine cw_region ?_
  refine lstepB rfl rfl rfl (run_move (.tmp rfl)) ?_
  refine lstepB rfl rfl rfl (run_len (.tmp rfl) sl128) ?_
  refine lstepB rfl rfl rfl (run_move .const) ?_
  refine lnil ?_
  refine xw_then ?_
  refine cw_block ?_
  refine cw_loop (S := Nat) (fun k => [(11, .int .i64 (k : Int)), (3, .int .i64 ((((Ls.take k).flatten.length : Nat) : Nat) : Int))]) [(0, _), (2, _), (9, _), (10, _)] (fun k => []) (fun k => k ≤ Ls.length) (fun k => Ls.length - k) 0 (Nat.zero_le _) (by repeat (first | exact Less.nil | refine Less.cons rfl ?_)) (by repeat (first | exact Pick.nil | (apply Pick.cons; focus (repeat (first | exact Del.here | apply Del.there))))) ?_
  intro k hk
  refine cw_seq ?_
  refine cw_region ?_
  refine lstepB rfl rfl rfl (run_lss (.tmp rfl) (.tmp rfl) (by first | exact decide_eq_true (by omega) | exact decide_eq_false (by omega) | exact rfl)) ?_
  refine lnil ?_
  refine xw_then ?_
  refine cw_seq ?_
  refine cw_cond_p (.tmp rfl) (fun hl1 => ?_) (fun hl1 => ?_)
  ·
    obtain ⟨l, hl⟩ : ∃ l, Ls[k]? = some l := ⟨_, List.getElem?_eq_getElem (by omega)⟩
    obtain ⟨b1, o1, c1, hcell, hpits⟩ := hA.at_ k l hl
    have hle := flat_le Ls (k + 1)
    rw [flat_succ hl, List.length_append] at hle
    refine cw_skip ?_
    refine xw_then ?_
    refine cw_seq ?_
    refine cw_block ?_
    refine cw_seq ?_
    refine cw_region ?_
    refine lstepB rfl rfl rfl (run_indexAddr (i := k) (off' := o + k) (.tmp rfl) (.tmp rfl) el128 (by omega) (by omega)) ?_
    refine lstepB rfl rfl rfl (run_load1_at (v := .slice (some ⟨b1, o1, none⟩) l.length c1) (.tmp rfl) kd22 (fun w' hS => hS.old_cell (fun h => h) hcell)) ?_
    refine lstepB rfl rfl rfl (run_assign (.tmp rfl)) ?_
    refine lnil ?_
    refine xw_then ?_
    refine cw_seq ?_
    refine cw_region ?_
    refine lstepB rfl rfl rfl (run_move (.tmp rfl)) ?_
    refine lstepB rfl rfl rfl (run_move (.tmp rfl)) ?_
    refine lstepB rfl rfl rfl (run_len (.tmp rfl) sl22) ?_
    refine lstepB rfl rfl rfl (run_add (c := ((((Ls.take (k + 1)).flatten.length : Nat) : Nat) : Int)) (.tmp rfl) (.tmp rfl) (by rw [IntWalk.i64_in _ (by omega), flat_succ hl, List.length_append]; omega)) ?_
    refine lstepB rfl rfl rfl (run_assign (.tmp rfl)) ?_
    refine lnil ?_
    refine xw_then ?_
    refine cw_seq ?_
    refine cw_region ?_
    refine lstepB rfl rfl rfl (run_move (.tmp rfl)) ?_
    refine lstepB rfl rfl rfl (run_lss (.tmp rfl) .const (by first | exact decide_eq_true (by omega) | exact decide_eq_false (by omega) | exact rfl)) ?_
    refine lnil ?_
    refine xw_then ?_
    refine cw_cond_false (.tmp rfl) ?_
    refine cw_skip ?_
    refine xw_in ?_
    refine xw_then ?_
    refine cw_region ?_
    refine lstepB rfl rfl rfl (run_add (.tmp rfl) .const (by first | exact IntWalk.i64_in _ (by omega) | exact rfl)) ?_
    refine lstepB rfl rfl rfl (run_move (.tmp rfl)) ?_
    refine lnil ?_
    exact xw_round (k + 1) (by show k + 1 ≤ _; omega) (by show Ls.length - (k + 1) < Ls.length - k; omega) (by repeat (first | exact Less.nil | refine Less.cons rfl ?_)) (by repeat (first | exact Pick.nil | (apply Pick.cons; focus (repeat (first | exact Del.here | apply Del.there)))))
  ·
    obtain rfl : k = Ls.length := by omega
    rw [List.take_length]
    refine cw_exit ?_
    refine xw_then_exit ?_
    refine xw_then_exit ?_
    refine xw_in_exit ?_
    refine xw_then ?_
    refine cw_seq ?_
    refine cw_region ?_
    refine lstepB rfl rfl rfl (run_move (.tmp rfl)) ?_
    rw [hnil]
    refine lstepB rfl rfl rfl (run_call1 cb94 (.cons .const (.cons (.tmp rfl) .nil)) (fun w2 _ => grow0K w2)) ?_
    refine lstepB rfl rfl rfl (run_assign (.tmp rfl)) ?_
    refine lnil ?_
    refine xw_then ?_
    refine cw_seq ?_
    refine cw_seq ?_
    refine cw_region ?_
    refine lstepB rfl rfl rfl (run_move (.tmp rfl)) ?_
    refine lstepB rfl rfl rfl (run_len (.tmp rfl) sl128) ?_
    refine lstepB rfl rfl rfl (run_move .const) ?_
    refine lnil ?_
    refine xw_then ?_
    refine cw_block ?_
    refine cw_loop (S := Nat) (fun k => [(27, .int .i64 (k : Int))]) [(6, _), (25, _), (26, _)] (fun k => []) (fun k => k ≤ Ls.length) (fun k => Ls.length - k) 0 (Nat.zero_le _) (by repeat (first | exact Less.nil | refine Less.cons rfl ?_)) (by repeat (first | exact Pick.nil | (apply Pick.cons; focus (repeat (first | exact Del.here | apply Del.there))))) ?_
    intro k hk
    refine cw_seq ?_
    refine cw_region ?_
    refine lstepB rfl rfl rfl (run_lss (.tmp rfl) (.tmp rfl) (by first | exact decide_eq_true (by omega) | exact decide_eq_false (by omega) | exact rfl)) ?_
    refine lnil ?_
    refine xw_then ?_
    refine cw_seq ?_
    refine cw_cond_p (.tmp rfl) (fun hl2 => ?_) (fun hl2 => ?_)
    ·
      obtain ⟨l, hl⟩ : ∃ l, Ls[k]? = some l := ⟨_, List.getElem?_eq_getElem (by omega)⟩
      obtain ⟨b1, o1, c1, hcell, hpits⟩ := hA.at_ k l hl
      have hle := flat_le Ls (k + 1)
      rw [flat_succ hl, List.length_append] at hle
      obtain rfl := flat_nil hnil hl
      refine cw_skip ?_
      refine xw_then ?_
      refine cw_seq ?_
      refine cw_block ?_
      refine cw_seq ?_
      refine cw_region ?_
      refine lstepB rfl rfl rfl (run_indexAddr (i := k) (off' := o + k) (.tmp rfl) (.tmp rfl) el128 (by omega) (by omega)) ?_
      refine lstepB rfl rfl rfl (run_load1_at (v := .slice (some ⟨b1, o1, none⟩) 0 c1) (.tmp rfl) kd22 (fun w' hS => hS.old_cell (fun h => h) hcell)) ?_
      refine lstepB rfl rfl rfl (run_assign (.tmp rfl)) ?_
      refine lnil ?_
      refine xw_then ?_
      refine cw_region ?_
      refine lstepB rfl rfl rfl (run_move (.tmp rfl)) ?_
      refine lstepB rfl rfl rfl (run_move (.tmp rfl)) ?_
      refine lstepB rfl rfl rfl (run_append_none ap22 (.tmp rfl) (.tmp rfl)) ?_
      refine lstepB rfl rfl rfl (run_assign (.tmp rfl)) ?_
      refine lnil ?_
      refine xw_in ?_
      refine xw_then ?_
      refine cw_region ?_
      refine lstepB rfl rfl rfl (run_add (.tmp rfl) .const (by first | exact IntWalk.i64_in _ (by omega) | exact rfl)) ?_
      refine lstepB rfl rfl rfl (run_move (.tmp rfl)) ?_
      refine lnil ?_
      exact xw_round (k + 1) (by show k + 1 ≤ _; omega) (by show Ls.length - (k + 1) < Ls.length - k; omega) (by repeat (first | exact Less.nil | refine Less.cons rfl ?_)) (by repeat (first | exact Pick.nil | (apply Pick.cons; focus (repeat (first | exact Del.here | apply Del.there)))))
    ·
      obtain rfl : k = Ls.length := by omega
      refine cw_exit ?_
      refine xw_then_exit ?_
      refine xw_then_exit ?_
      refine xw_in_exit ?_
      refine xw_then ?_
      refine cw_seq ?_
      refine cw_region ?_
      refine lstepB rfl rfl rfl (run_move (.tmp rfl)) ?_
      refine lstepB rfl rfl rfl (run_assign (.tmp rfl)) ?_
      refine lnil ?_
      refine xw_then ?_
      refine cw_ret ?_
      refine xw_ret1 Try.results70 rfl (fun w hS => ⟨rfl, hS.kept⟩)
set_option maxRecDepth 100000 in
set_option maxHeartbeats 4000000 in
theorem concatK (Ls : List (List PitD)) (b o c : Nat) (w : World) (hA : SlsAt w b o Ls) (hq : Ls.length ≤ 1000) (hm : Ls.flatten.length ≤ 1000) (hpos : 0 < Ls.flatten.length) : CallsF Try.prog 70 (([.slice (some ⟨b, o, none⟩) Ls.length c] : List Value)).toArray w fun e w' => ∃ q : Nat × Nat × List Value, InRow 9 Ls.flatten.length q.2.1 q.2.2 (pitsC Ls.flatten) ∧ e = .returned (.slice (some ⟨q.1, 0, none⟩) Ls.flatten.length q.2.1) ∧ St w NoT [(q.1, Obj.cells q.2.2.toArray 55 (0, 0))] w' := by
  refine enter (n := 36) Try.func70 rfl rfl rfl (by repeat (first | exact Fill.nil | apply Fill.cons)) ?_
  refine cw_seq ?_
  refine cw_region ?_
  refine lstepB rfl rfl rfl (run_assign .const) ?_
  refine lnil ?_
  refine xw_then ?_
  refine cw_seq ?_
  refine cw_region ?_
  refine lstepB rfl rfl rfl (run_assign .const) ?_
  refine lnil ?_
  refine xw_then ?_
  refine cw_seq ?_
  refine cw_seq ?_
  refine cw_region ?_
  refine lstepB rfl rfl rfl (run_move (.tmp rfl)) ?_
  refine lstepB rfl rfl rfl (run_len (.tmp rfl) sl128) ?_
  refine lstepB rfl rfl rfl (run_move .const) ?_
  refine lnil ?_
  refine xw_then ?_
  refine cw_block ?_
  refine cw_loop (S := Nat) (fun k => [(11, .int .i64 (k : Int)), (3, .int .i64 ((((Ls.take k).flatten.length : Nat) : Nat) : Int))]) [(0, _), (2, _), (9, _), (10, _)] (fun k => []) (fun k => k ≤ Ls.length) (fun k => Ls.length - k) 0 (Nat.zero_le _) (by repeat (first | exact Less.nil | refine Less.cons rfl ?_)) (by repeat (first | exact Pick.nil | (apply Pick.cons; focus (repeat (first | exact Del.here | apply Del.there))))) ?_
  intro k hk
  refine cw_seq ?_
  refine cw_region ?_
  refine lstepB rfl rfl rfl (run_lss (.tmp rfl) (.tmp rfl) (by first | exact decide_eq_true (by omega) | exact decide_eq_false (by omega) | exact rfl)) ?_
  refine lnil ?_
  refine xw_then ?_
  refine cw_seq ?_
  refine cw_cond_p (.tmp rfl) (fun hl1 => ?_) (fun hl1 => ?_)
  ·
    obtain ⟨l, hl⟩ : ∃ l, Ls[k]? = some l := ⟨_, List.getElem?_eq_getElem (by omega)⟩
    obtain ⟨b1, o1, c1, hcell, hpits⟩ := hA.at_ k l hl
    have hle := flat_le Ls (k + 1)
    rw [flat_succ hl, List.length_append] at hle
    refine cw_skip ?_
    refine xw_then ?_
    refine cw_seq ?_
    refine cw_block ?_
    refine cw_seq ?_
    refine cw_region ?_
    refine lstepB rfl rfl rfl (run_indexAddr (i := k) (off' := o + k) (.tmp rfl) (.tmp rfl) el128 (by omega) (by omega)) ?_
    refine lstepB rfl rfl rfl (run_load1_at (v := .slice (some ⟨b1, o1, none⟩) l.length c1) (.tmp rfl) kd22 (fun w' hS => hS.old_cell (fun h => h) hcell)) ?_
    refine lstepB rfl rfl rfl (run_assign (.tmp rfl)) ?_
    refine lnil ?_
    refine xw_then ?_
    refine cw_seq ?_
    refine cw_region ?_
    refine lstepB rfl rfl rfl (run_move (.tmp rfl)) ?_
    refine lstepB rfl rfl rfl (run_move (.tmp rfl)) ?_
    refine lstepB rfl rfl rfl (run_len (.tmp rfl) sl22) ?_
    refine lstepB rfl rfl rfl (run_add (c := ((((Ls.take (k + 1)).flatten.length : Nat) : Nat) : Int)) (.tmp rfl) (.tmp rfl) (by rw [IntWalk.i64_in _ (by omega), flat_succ hl, List.length_append]; omega)) ?_
    refine lstepB rfl rfl rfl (run_assign (.tmp rfl)) ?_
    refine lnil ?_
    refine xw_then ?_
    refine cw_seq ?_
    refine cw_region ?_
    refine lstepB rfl rfl rfl (run_move (.tmp rfl)) ?_
    refine lstepB rfl rfl rfl (run_lss (.tmp rfl) .const (by first | exact decide_eq_true (by omega) | exact decide_eq_false (by omega) | exact rfl)) ?_
    refine lnil ?_
    refine xw_then ?_
    refine cw_cond_false (.tmp rfl) ?_
    refine cw_skip ?_
    refine xw_in ?_
    refine xw_then ?_
    refine cw_region ?_
    refine lstepB rfl rfl rfl (run_add (.tmp rfl) .const (by first | exact IntWalk.i64_in _ (by omega) | exact rfl)) ?_
    refine lstepB rfl rfl rfl (run_move (.tmp rfl)) ?_
    refine lnil ?_
    exact xw_round (k + 1) (by show k + 1 ≤ _; omega) (by show Ls.length - (k + 1) < Ls.length - k; omega) (by repeat (first | exact Less.nil | refine Less.cons rfl ?_)) (by repeat (first | exact Pick.nil | (apply Pick.cons; focus (repeat (first | exact Del.here | apply Del.there)))))
  ·
    obtain rfl : k = Ls.length := by omega
    rw [List.take_length]
    refine cw_exit ?_
    refine xw_then_exit ?_
    refine xw_then_exit ?_
    refine xw_in_exit ?_
    refine xw_then ?_
    refine cw_seq ?_
    refine cw_region ?_
    refine lstepB rfl rfl rfl (run_move (.tmp rfl)) ?_
    refine lstep rfl rfl rfl (LR.runs (R := []) (A := []) (lr_gives cb94 (.cons .const (.cons (.tmp rfl) .nil)) (fun w2 hS => growK _ hpos hm w2)) (by repeat (first | exact Pick.nil | (apply Pick.cons; focus (repeat (first | exact Del.here | apply Del.there))))) (by repeat (first | exact Dels.nil | (apply Dels.cons; focus (repeat (first | exact Del.here | apply Del.there)))))) ?_
    intro ⟨gN, cN, rN⟩ hN
    refine lstepB rfl rfl rfl (run_assign (.tmp rfl)) ?_
    refine lnil ?_
    refine xw_then ?_
    refine cw_seq ?_
    refine cw_seq ?_
    refine cw_region ?_
    refine lstepB rfl rfl rfl (run_move (.tmp rfl)) ?_
    refine lstepB rfl rfl rfl (run_len (.tmp rfl) sl128) ?_
    refine lstepB rfl rfl rfl (run_move .const) ?_
    refine lnil ?_
    refine xw_then ?_
    refine cw_block ?_
    refine cw_loop (S := Nat × Nat × Nat × List Value) (fun z => [(27, .int .i64 (z.1 : Int)), (6, .slice (some ⟨z.2.1, 0, none⟩) ((Ls.take z.1).flatten.length : Nat) z.2.2.1)]) [(25, _), (26, _)] (fun z => [(z.2.1, Obj.cells z.2.2.2.toArray 55 (0, 0))]) (fun z => z.1 ≤ Ls.length ∧ InRow 9 ((Ls.take z.1).flatten.length : Nat) z.2.2.1 z.2.2.2 (pitsC (Ls.take z.1).flatten)) (fun z => Ls.length - z.1) (0, gN, cN, rN) ⟨Nat.zero_le _, hN⟩ (by repeat (first | exact Less.nil | refine Less.cons rfl ?_)) (by repeat (first | exact Pick.nil | (apply Pick.cons; focus (repeat (first | exact Del.here | apply Del.there))))) ?_
    intro z hz
    obtain ⟨k, gV, cV, rV⟩ := z
    obtain ⟨hk, hV⟩ := hz
    dsimp only at hk hV ⊢
    refine cw_seq ?_
    refine cw_region ?_
    refine lstepB rfl rfl rfl (run_lss (.tmp rfl) (.tmp rfl) (by first | exact decide_eq_true (by omega) | exact decide_eq_false (by omega) | exact rfl)) ?_
    refine lnil ?_
    refine xw_then ?_
    refine cw_seq ?_
    refine cw_cond_p (.tmp rfl) (fun hl2 => ?_) (fun hl2 => ?_)
    ·
      obtain ⟨l, hl⟩ : ∃ l, Ls[k]? = some l := ⟨_, List.getElem?_eq_getElem (by omega)⟩
      obtain ⟨b1, o1, c1, hcell, hpits⟩ := hA.at_ k l hl
      have hle := flat_le Ls (k + 1)
      rw [flat_succ hl, List.length_append] at hle
      refine cw_skip ?_
      refine xw_then ?_
      refine cw_seq ?_
      refine cw_block ?_
      refine cw_seq ?_
      refine cw_region ?_
      refine lstepB rfl rfl rfl (run_indexAddr (i := k) (off' := o + k) (.tmp rfl) (.tmp rfl) el128 (by omega) (by omega)) ?_
      refine lstepB rfl rfl rfl (run_load1_at (v := .slice (some ⟨b1, o1, none⟩) l.length c1) (.tmp rfl) kd22 (fun w' hS => hS.old_cell (fun h => h) hcell)) ?_
      refine lstepB rfl rfl rfl (run_assign (.tmp rfl)) ?_
      refine lnil ?_
      refine xw_then ?_
      refine cw_region ?_
      refine lstepB rfl rfl rfl (run_move (.tmp rfl)) ?_
      refine lstepB rfl rfl rfl (run_move (.tmp rfl)) ?_
      refine lstep rfl rfl rfl (LR.runs (R := []) (A := [(gV, _)]) (lr_append_row ap22 (.tmp rfl) hV (.tmp rfl) (news := pitsC l) (pitsC_length l) (pits_plain l) (by omega) (by unfold maxLen; omega) (fun w' hS => pits_flat l o1 (fun i p hi j v hj => hS.old_cell (fun h => h) (hpits i p hi j v hj)))) (by repeat (first | exact Pick.nil | (apply Pick.cons; focus (repeat (first | exact Del.here | apply Del.there))))) (by repeat (first | exact Dels.nil | (apply Dels.cons; focus (repeat (first | exact Del.here | apply Del.there)))))) ?_
      intro ⟨gW, cW, rW⟩ hW
      rw [← pitsC_append, ← flat_succ hl] at hW
      dsimp only at hW
      have hlen' : (Ls.take k).flatten.length + l.length = (Ls.take (k + 1)).flatten.length := by rw [flat_succ hl, List.length_append]
      rw [hlen'] at hW ⊢
      refine lstepB rfl rfl rfl (run_assign (.tmp rfl)) ?_
      refine lnil ?_
      refine xw_in ?_
      refine xw_then ?_
      refine cw_region ?_
      refine lstepB rfl rfl rfl (run_add (.tmp rfl) .const (by first | exact IntWalk.i64_in _ (by omega) | exact rfl)) ?_
      refine lstepB rfl rfl rfl (run_move (.tmp rfl)) ?_
      refine lnil ?_
      exact xw_round (k + 1, gW, cW, rW) ⟨by omega, hW⟩ (by show Ls.length - (k + 1) < Ls.length - k; omega) (by repeat (first | exact Less.nil | refine Less.cons rfl ?_)) (by repeat (first | exact Pick.nil | (apply Pick.cons; focus (repeat (first | exact Del.here | apply Del.there)))))
    ·
      obtain rfl : k = Ls.length := by omega
      rw [List.take_length] at hV ⊢
      refine cw_exit ?_
      refine xw_then_exit ?_
      refine xw_then_exit ?_
      refine xw_in_exit ?_
      refine xw_then ?_
      refine cw_seq ?_
      refine cw_region ?_
      refine lstepB rfl rfl rfl (run_move (.tmp rfl)) ?_
      refine lstepB rfl rfl rfl (run_assign (.tmp rfl)) ?_
      refine lnil ?_
      refine xw_then ?_
      refine cw_ret ?_
      refine xw_ret1 Try.results70 rfl (fun w hS => ⟨(gV, cV, rV), hV, rfl, hS⟩)
end Go.Proofs.Ytfmbnobkenngaaa
