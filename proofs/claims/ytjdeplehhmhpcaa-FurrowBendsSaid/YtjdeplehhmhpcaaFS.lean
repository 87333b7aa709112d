/- Package furrow: sets, which yields the sets of stations. -/
import Derived.Test.YtjdeplehhmhpcaaFR
namespace Go.Proofs.Ytjdeplehhmhpcaa
open Go.RowKit En

section
variable {P : Program} {r : Option Nat} {ds : List Deferred} {ops : Array Oper} {Q : Exit → Act → World → Prop} {n : Nat} {E : Env} {w0 : World} {T : Nat → Prop} {H : Heap}
theorem lskipV {l : List Oper} {d g t t' : Nat} {b : Bool} {v : Value} {xs : Array Operand} {ts : Array TypeId} {ty : TypeId} {pos : String} {af : Array Edge} (ht : (ops[g]?).bind (·.dst) = some t) (hb : En.look t E = some v) (htn : Nat.blt t n = true) (hc : noB v b = true) (hn : Nat.blt d n = true) (hu : En.look t' E = some undef)
    (k : LW r ds P ops Q l n ((d, undef) :: E) w0 T H) : LW r ds P ops Q (⟨some d, .call ⟨.value (.tmp t'), xs, ts⟩, ty, pos, af, some (g, b)⟩ :: l) n E w0 T H := fun a w hF hS => by
  unfold wpListIn
  rw [if_neg (by simp only [Region.wanted, not_yielded hF ht hb htn hc]; exact Bool.false_ne_true)]
  refine ⟨fun f hf => ?_, k _ _ (hF.put hn _) hS⟩
  have e : a.eval (.tmp t') = undef := hF.ev (.tmp hu)
  simp only [Oper.about, resolve, e] at hf
  simp [undef, Deferred.ofValue, Target.leads, go_sem] at hf
/-- A call of yield behind a guard that says yes. -/
theorem gyield {l : List Oper} {x y : Operand} {i : Nat} {v : Value} {d g t : Nat} {b : Bool} {ts : Array TypeId} {ty : TypeId} {pos : String} {af : Array Edge} {Rt : Value → World → World → Prop} {Rp : List PanicEntry → World → World → Prop} (ht : (ops[g]?).bind (·.dst) = some t) (hb : En.look t E = some (.bool b)) (htn : Nat.blt t n = true) (hn : Nat.blt d n = true)
    (hx : Ev E x (.func (.yield i) #[] #[])) (hy : Ev E y v)
    (h : ∀ w, St w0 T H w → En.Yields P i #[v] w fun e w' => (∃ u, e = .returned u ∧ Rt u w w') ∨ ∃ ch, e = .panicked ch ∧ Rp ch w w')
    (k1 : ∀ u w w', St w0 T H w → Rt u w w' → ∃ w1 T1 H1, St w1 T1 H1 w' ∧ LW r ds P ops Q l n ((d, u) :: E) w1 T1 H1) (k2 : ∀ ch w w', St w0 T H w → Rp ch w w' → ∃ w1 T1 H1, St w1 T1 H1 w' ∧ XW ds Q (.panic ch) n E w1 T1 H1) :
    LW r ds P ops Q (⟨some d, .call ⟨.value x, #[y], ts⟩, ty, pos, af, some (g, b)⟩ :: l) n E w0 T H := fun a w hF hS => by
  unfold wpListIn
  rw [if_pos (by simp [Region.wanted, yielded_of hF ht hb htn])]
  refine ⟨fun q hq => ?_, ?_⟩
  · simp only [Oper.about, resolve, hF.ev hx] at hq
    simp [Deferred.ofValue, Target.leads, go_sem] at hq
  obtain ⟨fn, tm, asg, bd, h1, h2⟩ := h w hS
  rw [show (FF P r).round = r from rfl, Oper.semAt_eq r _ _ (by intro c; simp)]
  rw [done_yield (hF.ev hx) (hF.ev hy) h1]
  refine ⟨fun hh => by simp [FF] at hh, ?_⟩
  refine (RoundIn.mono h2 ?_ : RoundIn (FF P none) (0 - 1) P i fn tm asg bd w _)
  rintro e w' (⟨u, rfl, hu⟩ | ⟨ch, rfl, hc⟩)
  · obtain ⟨w1, T1, H1, hS1, hk⟩ := k1 u w w' hS hu
    exact hk _ _ (hF.put hn _) hS1
  · obtain ⟨w1, T1, H1, hS1, hk⟩ := k2 ch w w' hS hc
    exact hk a w' hF hS1
end
/-- The sets of the first sizes, and of one more those below a number. -/
def setsU (n i j : Nat) : List Nat := (List.range i).flatMap (fun z => (List.range (2 ^ n)).filter fun s => decide (sizeN s = z)) ++ (List.range j).filter fun s => decide (sizeN s = i)
def setsL (n : Nat) : List Nat := setsU n (n + 1) 0
theorem setsU_yes {n i j : Nat} (h : sizeN j = i) : setsU n i (j + 1) = setsU n i j ++ [j] := by
  unfold setsU
  rw [List.range_succ, List.filter_append, List.append_assoc]
  simp [h]
theorem setsU_no {n i j : Nat} (h : sizeN j ≠ i) : setsU n i (j + 1) = setsU n i j := by
  unfold setsU
  rw [List.range_succ, List.filter_append]
  simp [h]
theorem setsU_next (n i : Nat) : setsU n i (2 ^ n) = setsU n (i + 1) 0 := by
  unfold setsU
  rw [List.range_succ, List.flatMap_append]
  simp
theorem setsU_pre (n i j : Nat) (hj : j ≤ 2 ^ n) : setsU n i j <+: setsU n i (2 ^ n) := by
  unfold setsU
  obtain ⟨t, ht⟩ : List.range j <+: List.range (2 ^ n) := by
    refine ⟨(List.range (2 ^ n)).drop j, ?_⟩
    rw [show List.range j = (List.range (2 ^ n)).take j by rw [List.take_range, Nat.min_eq_left hj]]
    exact List.take_append_drop _ _
  rw [← ht, List.filter_append, ← List.append_assoc]
  exact List.prefix_append _ _
theorem setsU_pre2 (n i : Nat) : ∀ d, setsU n i 0 <+: setsU n (i + d) 0
  | 0 => List.prefix_refl _
  | d + 1 => by
    refine (setsU_pre2 n i d).trans ?_
    rw [show i + (d + 1) = (i + d) + 1 by omega, ← setsU_next]
    exact setsU_pre n (i + d) 0 (Nat.zero_le _)
theorem sets_at {n i j : Nat} (hi : i ≤ n) (hj : j < 2 ^ n) (h : sizeN j = i) : (setsL n)[(setsU n i j).length]? = some j := by
  have h1 : setsU n i (j + 1) <+: setsL n := by
    refine (setsU_pre n i (j + 1) hj).trans ?_
    rw [setsU_next]
    have := setsU_pre2 n (i + 1) (n - i)
    rwa [show i + 1 + (n - i) = n + 1 by omega] at this
  obtain ⟨t, ht⟩ := h1
  rw [← ht, setsU_yes h, List.append_assoc, List.getElem?_append_right (Nat.le_refl _), Nat.sub_self]
  rfl
abbrev setsV (n : Nat) : List Value := intsV ((setsL n).map fun (s : Nat) => (s : Int))
theorem setsV_at {n i j : Nat} (hi : i ≤ n) (hj : j < 2 ^ n) (h : sizeN j = i) : (setsV n)[(setsU n i j).length]? = some (.int .i64 (j : Int)) := by simp [setsV, intsV, sets_at hi hj h]
theorem mem_setsU {n i j s : Nat} (hj : j ≤ 2 ^ n) (h : s ∈ setsU n i j) : s < 2 ^ n := by
  unfold setsU at h
  rcases List.mem_append.1 h with h | h
  · obtain ⟨z, _, hz⟩ := List.mem_flatMap.1 h
    exact List.mem_range.1 (List.mem_filter.1 hz).1
  · exact Nat.lt_of_lt_of_le (List.mem_range.1 (List.mem_filter.1 h).1) hj
set_option maxRecDepth 100000 in
set_option maxHeartbeats 4000000 in
theorem sets_iter (n : Nat) (hn : n ≤ 8) (b : Nat) (w : World) (h1 : w.cell? ⟨b, 0, none⟩ = some (.int .i64 (n : Int))) :
    IterAt Try.prog 96 [.pointer (some ⟨b, 0, none⟩)] (setsV n) (fun c => c = b) w := by
  intro l J Jx Jp T w1 hb R hcap hJ
  have l1 : b < w.heap.size := World.block_lt_of_cell? w _ h1
  have hp10 : 2 ^ n ≤ 256 := Nat.pow_le_pow_right (n := 2) (by omega) hn
  refine enter (n := 28) Try.func96 rfl rfl rfl (by repeat (first | exact Fill.nil | apply Fill.cons)) ?_
  refine cw_seq ?_
  refine cw_region ?_
  refine lstepB rfl rfl rfl (run_load1_at (.tmp rfl) kd3 (fun w' hS => hS.old_cell (fun h => h) ((cell_kept hb l1).trans h1))) ?_
  refine lstepB rfl rfl rfl (run_add (.tmp rfl) .const (by first | exact IntWalk.i64_in _ (by omega) | exact rfl)) ?_
  refine lstepB rfl rfl rfl (run_move .const) ?_
  refine lnil ?_
  refine xw_then ?_
  refine cw_block ?_
  refine cw_loopW (S := Nat × World × (Nat → Prop)) (fun s => [(7, .int .i64 (s.1 : Int))]) [(0, _), (1, _), (6, _)] (fun s => s.2.1) (fun _ => NoT) (fun _ => []) (fun s => s.1 ≤ n + 1 ∧ J (setsU n s.1 0).length s.2.2 s.2.1 ∧ w1.heap.size ≤ s.2.1.heap.size ∧ ¬ s.2.2 b ∧ s.2.1.cell? ⟨b, 0, none⟩ = some (.int .i64 (n : Int))) (fun s => n + 1 - s.1) (0, w1, T) ⟨Nat.zero_le _, hJ, Nat.le_refl _, hcap b rfl, (cell_kept hb l1).trans h1⟩ (by repeat (first | exact Less.nil | refine Less.cons rfl ?_)) (fun _ h => h) ?_
  intro s hs
  obtain ⟨i, W, Ti⟩ := s
  obtain ⟨hi, hJi, hB, n1, c1⟩ := hs
  dsimp only at hi hJi hB n1 c1 ⊢
  refine cw_seq ?_
  refine cw_region ?_
  refine lstepB rfl rfl rfl (run_lss (.tmp rfl) (.tmp rfl) (by first | exact decide_eq_true (by omega) | exact decide_eq_false (by omega) | exact rfl)) ?_
  refine lnil ?_
  refine xw_then ?_
  refine cw_seq ?_
  refine cw_cond_p (.tmp rfl) (fun hl => ?_) (fun hl => ?_)
  ·
    have hin : i ≤ n := by omega
    refine cw_skip ?_
    refine xw_then ?_
    refine cw_seq ?_
    refine cw_block ?_
    refine cw_seq ?_
    refine cw_region ?_
    refine lstepB rfl rfl rfl (run_move (.tmp rfl)) ?_
    refine lstepB rfl rfl rfl (run_assign (.tmp rfl)) ?_
    refine lnil ?_
    refine xw_then ?_
    refine cw_seq ?_
    refine cw_region ?_
    refine lstepB rfl rfl rfl (run_load1_at (.tmp rfl) kd3 (fun w' hS => hS.old_cell (fun h => h) c1)) ?_
    refine lstepB rfl rfl rfl (run_shl (c' := ((2 ^ n : Nat) : Int)) .const (.tmp rfl) (by omega) (shl10 ⟨n, by omega⟩)) ?_
    refine lstepB rfl rfl rfl (run_move .const) ?_
    refine lnil ?_
    refine xw_then ?_
    refine cw_block ?_
    refine cw_loopW (S := Nat × World × (Nat → Prop)) (fun s => [(12, .int .i64 (s.1 : Int))]) [(0, _), (1, _), (6, _), (7, _), (3, _), (11, _)] (fun s => s.2.1) (fun _ => NoT) (fun _ => []) (fun s => s.1 ≤ 2 ^ n ∧ J (setsU n i s.1).length s.2.2 s.2.1 ∧ w1.heap.size ≤ s.2.1.heap.size ∧ ¬ s.2.2 b ∧ s.2.1.cell? ⟨b, 0, none⟩ = some (.int .i64 (n : Int))) (fun s => 2 ^ n - s.1) (0, W, Ti) ⟨Nat.zero_le _, hJi, hB, n1, c1⟩ (by repeat (first | exact Less.nil | refine Less.cons rfl ?_)) (fun _ h => h) ?_
    intro s hs
    obtain ⟨j, W2, Tj⟩ := s
    obtain ⟨hj, hJj, hB2, n2, c2⟩ := hs
    dsimp only at hj hJj hB2 n2 c2 ⊢
    refine cw_seq ?_
    refine cw_region ?_
    refine lstepB rfl rfl rfl (run_lss (.tmp rfl) (.tmp rfl) (by first | exact decide_eq_true (by omega) | exact decide_eq_false (by omega) | exact rfl)) ?_
    refine lnil ?_
    refine xw_then ?_
    refine cw_seq ?_
    refine cw_cond_p (.tmp rfl) (fun hl2 => ?_) (fun hl2 => ?_)
    ·
      have hjn : j < 2 ^ n := by omega
      have hj256 : j < 256 := by omega
      by_cases he : sizeN j = i
      ·
        refine cw_skip ?_
        refine xw_then ?_
        refine cw_seq ?_
        refine cw_block ?_
        refine cw_seq ?_
        refine cw_region ?_
        refine lstepB rfl rfl rfl (run_move (.tmp rfl)) ?_
        refine lstepB rfl rfl rfl (run_assign (.tmp rfl)) ?_
        refine lnil ?_
        refine xw_then ?_
        refine cw_seq ?_
        refine cw_region ?_
        refine lstepB rfl rfl rfl (run_move (.tmp rfl)) ?_
        refine lstepB rfl rfl rfl (run_convert_at (.tmp rfl) (fun w => cv3_118 (c := ((j : Nat) : Int)) (IntWalk.u64_in _ (by omega)) w)) ?_
        refine lstepB rfl rfl rfl (run_call1 cb97 (.cons (.tmp rfl) .nil) (fun w2 _ => onesK j hj256 w2)) ?_
        refine lstepB rfl rfl rfl (run_move (.tmp rfl)) ?_
        refine lstepB rfl rfl rfl (run_eql (.tmp rfl) (.tmp rfl) (by first | exact decide_eq_true (by omega) | exact decide_eq_false (by omega) | exact rfl)) ?_
        refine lstepB rfl rfl rfl (run_move (.tmp rfl)) ?_
        refine lyes rfl rfl rfl rfl ?_
        refine gstepB rfl rfl (run_move (.tmp rfl)) ?_
        refine lyes rfl rfl rfl rfl ?_
        refine gstepB rfl rfl (run_move (.tmp rfl)) ?_
        have hx := setsV_at hin hjn he
        refine gyield rfl rfl rfl rfl (.tmp rfl) (.tmp rfl) (fun w hS => R.yield hx hJj hB2 hS) (fun u w w' hS hR => ?_) (fun ch w w' hS hR => ?_)
        ·
          obtain ⟨h3, T', h4, h5⟩ := hR
          have k1 : w.heap.size ≤ w'.heap.size := h3.size
          have k0 : W2.heap.size ≤ w.heap.size := hS.size
          refine ⟨w', NoT, [], St.init _ _, ?_⟩
          rcases h5 with ⟨rfl, h5⟩ | ⟨rfl, h5⟩
          ·
            refine lyes rfl rfl rfl rfl ?_
            refine gstepB rfl rfl (run_not (.tmp rfl) (by first | exact Bool.not_true | exact Bool.not_false | exact rfl)) ?_
            refine lstepB rfl rfl rfl (by first | exact run_pick_true (.tmp rfl) (.tmp rfl) | exact run_pick_false (.tmp rfl) .const) ?_
            refine lnil ?_
            refine xw_then ?_
            refine cw_cond_false (.tmp rfl) ?_
            refine cw_skip ?_
            refine xw_in ?_
            refine xw_then ?_
            refine cw_region ?_
            refine lstepB rfl rfl rfl (run_add (.tmp rfl) .const (by first | exact IntWalk.i64_in _ (by omega) | exact rfl)) ?_
            refine lstepB rfl rfl rfl (run_move (.tmp rfl)) ?_
            refine lnil ?_
            have z1 : b < W2.heap.size := World.block_lt_of_cell? W2 _ c2
            have e1 := h3.old_cell n2 (hS.old_cell (fun h => h) c2)
            have hlen : (setsU n i (j + 1)).length = (setsU n i j).length + 1 := by rw [setsU_yes he, List.length_append]; rfl
            exact xw_roundW (j + 1, w', T') ⟨by show j + 1 ≤ 2 ^ n; omega, by rw [hlen]; exact h5, by show w1.heap.size ≤ w'.heap.size; omega, fun h => (h4 _ h).elim n2 (fun h => by omega), e1⟩ (by show 2 ^ n - (j + 1) < 2 ^ n - j; omega) (by repeat (first | exact Less.nil | refine Less.cons rfl ?_)) (fun _ h => h)
          ·
            refine lyes rfl rfl rfl rfl ?_
            refine gstepB rfl rfl (run_not (.tmp rfl) (by first | exact Bool.not_true | exact Bool.not_false | exact rfl)) ?_
            refine lstepB rfl rfl rfl (by first | exact run_pick_true (.tmp rfl) (.tmp rfl) | exact run_pick_false (.tmp rfl) .const) ?_
            refine lnil ?_
            refine xw_then ?_
            refine cw_cond_true (.tmp rfl) ?_
            refine cw_ret ?_
            refine xw_in_ret ?_
            refine xw_then_ret ?_
            refine xw_then_ret ?_
            refine xw_in_ret ?_
            refine xw_in_ret ?_
            refine xw_then_ret ?_
            refine xw_then_ret ?_
            refine xw_in_ret ?_
            refine xw_ret0 Try.results96 (fun w2 hS2 => .inl ⟨rfl, .inr ⟨T', R.sX _ _ _ h5 (keepB_below hS2.kept ?_ (by omega))⟩⟩)
            exact R.lowX _ _ h5
        ·
          obtain ⟨h3, T', h4, h5⟩ := hR
          have k1 : w.heap.size ≤ w'.heap.size := h3.size
          have k0 : W2.heap.size ≤ w.heap.size := hS.size
          refine ⟨w', NoT, [], St.init _ _, ?_⟩
          refine xw_then_panic ?_
          refine xw_in_panic ?_
          refine xw_then_panic ?_
          refine xw_then_panic ?_
          refine xw_in_panic ?_
          refine xw_in_panic ?_
          refine xw_then_panic ?_
          refine xw_then_panic ?_
          refine xw_in_panic ?_
          refine xw_panic (fun w2 hS2 => .inr ⟨ch, rfl, T', R.sP _ _ _ _ h5 (keepB_below hS2.kept (R.lowP _ _ _ h5) (by omega))⟩)
      ·
        refine cw_skip ?_
        refine xw_then ?_
        refine cw_seq ?_
        refine cw_block ?_
        refine cw_seq ?_
        refine cw_region ?_
        refine lstepB rfl rfl rfl (run_move (.tmp rfl)) ?_
        refine lstepB rfl rfl rfl (run_assign (.tmp rfl)) ?_
        refine lnil ?_
        refine xw_then ?_
        refine cw_seq ?_
        refine cw_region ?_
        refine lstepB rfl rfl rfl (run_move (.tmp rfl)) ?_
        refine lstepB rfl rfl rfl (run_convert_at (.tmp rfl) (fun w => cv3_118 (c := ((j : Nat) : Int)) (IntWalk.u64_in _ (by omega)) w)) ?_
        refine lstepB rfl rfl rfl (run_call1 cb97 (.cons (.tmp rfl) .nil) (fun w2 _ => onesK j hj256 w2)) ?_
        refine lstepB rfl rfl rfl (run_move (.tmp rfl)) ?_
        refine lstepB rfl rfl rfl (run_eql (.tmp rfl) (.tmp rfl) (by first | exact decide_eq_true (by omega) | exact decide_eq_false (by omega) | exact rfl)) ?_
        refine lstepB rfl rfl rfl (run_move (.tmp rfl)) ?_
        refine lskip rfl rfl rfl rfl rfl rfl rfl ?_
        refine lskip rfl rfl rfl rfl rfl rfl rfl ?_
        refine lskipV rfl rfl rfl rfl rfl rfl ?_
        refine lskip rfl rfl rfl rfl rfl rfl rfl ?_
        refine lstepB rfl rfl rfl (by first | exact run_pick_true (.tmp rfl) (.tmp rfl) | exact run_pick_false (.tmp rfl) .const) ?_
        refine lnil ?_
        refine xw_then ?_
        refine cw_cond_false (.tmp rfl) ?_
        refine cw_skip ?_
        refine xw_in ?_
        refine xw_then ?_
        refine cw_region ?_
        refine lstepB rfl rfl rfl (run_add (.tmp rfl) .const (by first | exact IntWalk.i64_in _ (by omega) | exact rfl)) ?_
        refine lstepB rfl rfl rfl (run_move (.tmp rfl)) ?_
        refine lnil ?_
        exact xw_roundW (j + 1, W2, Tj) ⟨by show j + 1 ≤ 2 ^ n; omega, by rw [setsU_no he]; exact hJj, hB2, n2, c2⟩ (by show 2 ^ n - (j + 1) < 2 ^ n - j; omega) (by repeat (first | exact Less.nil | refine Less.cons rfl ?_)) (fun _ h => h)
    ·
      obtain rfl : j = 2 ^ n := by omega
      refine cw_exit ?_
      refine xw_then_exit ?_
      refine xw_then_exit ?_
      refine xw_in_exit ?_
      refine xw_in ?_
      refine xw_then ?_
      refine cw_region ?_
      refine lstepB rfl rfl rfl (run_add (.tmp rfl) .const (by first | exact IntWalk.i64_in _ (by omega) | exact rfl)) ?_
      refine lstepB rfl rfl rfl (run_move (.tmp rfl)) ?_
      refine lnil ?_
      exact xw_roundW (i + 1, W2, Tj) ⟨by show i + 1 ≤ n + 1; omega, by rw [← setsU_next]; exact hJj, hB2, n2, c2⟩ (by show n + 1 - (i + 1) < n + 1 - i; omega) (by repeat (first | exact Less.nil | refine Less.cons rfl ?_)) (fun _ h => h)
  ·
    obtain rfl : i = n + 1 := by omega
    rw [show (setsU n (n + 1) 0).length = (setsV n).length by simp [setsV, intsV, setsL]] at hJi
    refine cw_exit ?_
    refine xw_then_exit ?_
    refine xw_then_exit ?_
    refine xw_in_exit ?_
    refine xw_end0 Try.results96 (fun w2 hS2 => .inl ⟨rfl, .inl ⟨Ti, R.sJ _ _ _ _ hJi (keepB_below hS2.kept (R.low _ _ _ hJi) hB)⟩⟩)
set_option maxRecDepth 100000 in
set_option maxHeartbeats 4000000 in
theorem setsK (n : Nat) (w : World) : CallsF Try.prog 63 (([.int .i64 (n : Int)] : List Value)).toArray w fun e w' => ∃ s : Nat, True ∧ e = .returned (.func (.func 96) #[] [ptrV s].toArray) ∧ St w NoT [(s, Obj.cells [.int .i64 (n : Int)].toArray 3 (0, 0))] w' := by
  refine enter (n := 4) Try.func63 rfl rfl rfl (by repeat (first | exact Fill.nil | apply Fill.cons)) ?_
  refine cw_seq ?_
  refine cw_region ?_
  refine lstep rfl rfl rfl (run_box1 (.tmp rfl) rfl) ?_
  intro b1 _
  refine lstepB rfl rfl rfl (run_assign .const) ?_
  refine lnil ?_
  refine xw_then ?_
  refine cw_seq ?_
  refine cw_region ?_
  refine lstepB rfl rfl rfl (En.run_makeFunc .nil (.cons (.tmp rfl) .nil)) ?_
  refine lstepB rfl rfl rfl (run_assign (.tmp rfl)) ?_
  refine lnil ?_
  refine xw_then ?_
  refine cw_ret ?_
  refine xw_ret1 Try.results63 rfl (fun w2 hS => ⟨b1, trivial, rfl, hS.pick (by repeat (first | exact Pick.nil | (apply Pick.cons; focus (repeat (first | exact Del.here | apply Del.there)))))⟩)
end Go.Proofs.Ytjdeplehhmhpcaa
