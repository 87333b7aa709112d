/- Package furrow: what a set of wrong stations saves. -/
import Derived.Test.YtjdeplehhmhpcaaFP
namespace Go.Proofs.Ytjdeplehhmhpcaa
open Go.RowKit En

section
variable {P : Program} {E : Env} {w0 : World} {T : Nat → Prop} {H : Heap} {x y : Operand} {d : Option Tmp} {t tx ty tyy : TypeId} {pos : String} {af : Array Edge} {gd : Option (Nat × Bool)}
theorem run_and {k : IntKind} {a c c' : Int} (hx : Ev E x (.int k a)) (hy : Ev E y (.int k c)) (h : k.wrap ((BitVec.ofInt k.bits a &&& BitVec.ofInt k.bits c).toNat) = c') : RunB P E w0 T H ⟨d, .binOp .and tx x y tyy, ty, pos, af, gd⟩ (.int k c') := fun ρ w hρ hS => by
  refine doneO rfl ?_
  have e1 := hρ x _ (by simp [Op.operands]) hx
  have e2 := hρ y _ (by simp [Op.operands]) hy
  subst h
  simp [execOp, e1, e2, Done, go_sem, eqGuard, binOp, Op.intBits, Below.refl]
end
theorem and_small {a b : Nat} (ha : a < 2 ^ 32) (hb : b < 2 ^ 63) : IntKind.i64.wrap ((BitVec.ofInt IntKind.i64.bits (a : Int) &&& BitVec.ofInt IntKind.i64.bits (b : Int)).toNat) = ((a &&& b : Nat) : Int) := by
  have hlt : a &&& b ≤ a := Nat.and_le_left
  show IntKind.i64.wrap ((BitVec.ofInt 64 (a : Int) &&& BitVec.ofInt 64 (b : Int)).toNat : Int) = _
  have h1 : BitVec.ofInt 64 (a : Int) = BitVec.ofNat 64 a := BitVec.ofInt_natCast ..
  have h2 : BitVec.ofInt 64 (b : Int) = BitVec.ofNat 64 b := BitVec.ofInt_natCast ..
  rw [h1, h2, BitVec.toNat_and, BitVec.toNat_ofNat, BitVec.toNat_ofNat, Nat.mod_eq_of_lt (by omega), Nat.mod_eq_of_lt (by omega)]
  exact IntWalk.i64_in _ (by omega)
theorem and_pow {s k : Nat} : decide (((s &&& 2 ^ k : Nat) : Int) ≠ 0) = s.testBit k := by
  have h : s &&& 2 ^ k = if s.testBit k then 2 ^ k else 0 := by
    apply Nat.eq_of_testBit_eq
    intro i
    rw [Nat.testBit_and, Nat.testBit_two_pow]
    by_cases e : k = i
    · subst e
      cases s.testBit k <;> simp
    · split <;> simp [e, Nat.testBit_two_pow]
  rw [h]
  have := Nat.two_pow_pos k
  cases s.testBit k
  · rfl
  · simp only [if_true, decide_eq_true_eq, ne_eq]
    omega
/-- A course of which the stations of a set lie anywhere. -/
def freedS (l : List SpanD) (s : Nat) (k : Nat) : SpanD := if s.testBit k then ⟨-12, 12⟩ else l.getD k default
def freedL (l : List SpanD) (s : Nat) : List SpanD := (List.range l.length).map (freedS l s)
theorem freedL_length (l : List SpanD) (s : Nat) : (freedL l s).length = l.length := by simp [freedL]
theorem freedL_at {l : List SpanD} {s k : Nat} (h : k < l.length) : (freedL l s)[k]? = some (freedS l s k) := by simp [freedL, h]
theorem freedL_fine {l : List SpanD} (hl : FineC l) (s : Nat) : FineC (freedL l s) := fun x hx => by
  obtain ⟨k, hk, rfl⟩ := List.mem_map.1 hx
  unfold freedS
  split
  · exact ⟨by show (-900 : Int) ≤ -12; omega, by show (-12 : Int) ≤ 12; omega, by show (12 : Int) ≤ 900; omega, by show (12 : Int) - -12 ≤ 30; omega⟩
  · exact hl _ (List.mem_of_getElem? (getD_some (by simpa using hk)))
/-- .. of which the first ones are looked at. -/
def partL (l : List SpanD) (s k : Nat) : List SpanD := (freedL l s).take k ++ l.drop k
theorem partL_length {l : List SpanD} {s k : Nat} (hk : k ≤ l.length) : (partL l s k).length = l.length := by
  rw [partL, List.length_append, List.length_take, freedL_length, List.length_drop]; omega
theorem partL_succ {l : List SpanD} {s k : Nat} (hk : k < l.length) : partL l s (k + 1) = (partL l s k).set k (freedS l s k) := by
  have e : ((freedL l s).take k).length = k := by rw [List.length_take, freedL_length]; omega
  unfold partL
  rw [List.set_append_right _ _ (by omega), e, Nat.sub_self, List.take_add_one, freedL_at hk, List.drop_eq_getElem_cons hk]
  simp only [List.set_cons_zero, List.append_assoc, Option.toList, List.singleton_append]
theorem partL_done (l : List SpanD) (s : Nat) : partL l s l.length = freedL l s := by
  unfold partL
  rw [List.drop_length, List.append_nil, ← freedL_length l s, List.take_length]
theorem partL_same {l : List SpanD} {s k : Nat} (hk : k < l.length) (h : s.testBit k = false) : partL l s (k + 1) = partL l s k := by
  rw [partL_succ hk]
  have e : ((freedL l s).take k).length = k := by rw [List.length_take, freedL_length]; omega
  have h1 : (partL l s k)[k]? = some (freedS l s k) := by
    unfold partL
    rw [List.getElem?_append_right (by omega), e, Nat.sub_self, List.getElem?_drop, Nat.add_zero, getD_some hk]
    simp [freedS, h]
  obtain ⟨h2, h3⟩ := List.getElem?_eq_some_iff.1 h1
  rw [← h3]
  exact List.set_getElem_self h2
theorem put_span2 {s : SpanD} : ∀ (L : List SpanD) (i : Nat), i < L.length → Put (spansC L) (i * 2) [.int .i64 s.lo, .int .i64 s.hi] (spansC (L.set i s))
  | [], i, h => absurd h (Nat.not_lt_zero i)
  | a :: r, 0, _ => .put (.put .done)
  | a :: r, i + 1, h => by
    rw [show (i + 1) * 2 = i * 2 + 2 by omega]
    exact .skip (.skip (put_span2 r i (by simpa using h)))
theorem lr_makeSpans {E : Env} {w0 : World} {T : Nat → Prop} {R : Heap} {d : Option Tmp} {ty : TypeId} {pos : String} {af : Array Edge} {g : Option (Nat × Bool)} {x y : Operand} {n : Nat} (hx : Ev E x (.int .i64 (n : Int))) (hy : Ev E y (.int .i64 (n : Int))) (hb : n ≤ 100) :
    LR Try.prog E w0 T R [] ⟨d, .makeSlice 69 x y, ty, pos, af, g⟩ (fun _ : Nat => True) (fun b => .slice (some ⟨b, 0, none⟩) n n) (fun b => [(b, Obj.cells (List.replicate (n * 2) (Value.int .i64 0)).toArray 67 (0, 0))]) :=
  lr_make0 ap69 (z0 := .int .i64 0) (sz := 2) zr67 (by omega) hx hy (by omega) (by unfold maxLen; omega)
set_option maxRecDepth 100000 in
set_option maxHeartbeats 4000000 in
theorem freed_cons (l : List SpanD) (s : Nat) (hs : s < 2 ^ 32) (hn1 : 1 ≤ l.length) (hn : l.length ≤ 9) (a : Option Addr) (c : Nat) (w : World) (hq : SpansAt w a l) : CallsF Try.prog 98 (([.slice a l.length c, .int .i64 (s : Int)] : List Value)).toArray w fun e w' => ∃ g : Nat, True ∧ e = .returned (.slice (some ⟨g, 0, none⟩) l.length l.length) ∧ St w NoT [(g, Obj.cells (spansC (freedL l s)).toArray 67 (0, 0))] w' := by
  obtain ⟨bc, oc, rfl, hbc, cc⟩ := hq.span (by omega)
  refine enter (n := 29) Try.func98 rfl rfl rfl (by repeat (first | exact Fill.nil | apply Fill.cons)) ?_
  refine cw_seq ?_
  refine cw_region ?_
  refine lstepB rfl rfl rfl (run_assign .const) ?_
  refine lnil ?_
  refine xw_then ?_
  refine cw_seq ?_
  refine cw_region ?_
  refine lstepB rfl rfl rfl (run_move (.tmp rfl)) ?_
  refine lstepB rfl rfl rfl (run_len (.tmp rfl) sl69) ?_
  refine lstep rfl rfl rfl (LR.runs (R := []) (A := []) (lr_makeSpans (.tmp rfl) (.tmp rfl) (by omega)) (by repeat (first | exact Pick.nil | (apply Pick.cons; focus (repeat (first | exact Del.here | apply Del.there))))) (by repeat (first | exact Dels.nil | (apply Dels.cons; focus (repeat (first | exact Del.here | apply Del.there)))))) ?_
  intro b9 _
  refine lstepB rfl rfl rfl (run_assign (.tmp rfl)) ?_
  refine lnil ?_
  refine xw_then ?_
  refine cw_seq ?_
  refine cw_region ?_
  refine lstepB rfl rfl rfl (run_move (.tmp rfl)) ?_
  refine lstepB rfl rfl rfl (run_move (.tmp rfl)) ?_
  refine lstep1 rfl rfl rfl (run_copySpans (.tmp rfl) (.tmp rfl) rfl List.length_replicate (by repeat (first | exact Upd.here | apply Upd.there)) (fun w' hS i s hi j v hj => hS.old_cell (fun h => h) (cc i s hi j v hj))) ?_
  refine lnil ?_
  refine xw_then ?_
  refine cw_seq ?_
  refine cw_seq ?_
  refine cw_region ?_
  refine lstepB rfl rfl rfl (run_move (.tmp rfl)) ?_
  refine lstepB rfl rfl rfl (run_len (.tmp rfl) sl69) ?_
  refine lstepB rfl rfl rfl (run_move .const) ?_
  refine lnil ?_
  refine xw_then ?_
  refine cw_block ?_
  refine cw_loop (S := Nat) (fun k => [(15, .int .i64 (k : Int))]) [(0, _), (1, _), (5, _), (13, _), (14, _)] (fun k => [(b9, Obj.cells (spansC (partL l s k)).toArray 67 (0, 0))]) (fun k => k ≤ l.length) (fun k => l.length - k) 0 (Nat.zero_le _) (by repeat (first | exact Less.nil | refine Less.cons rfl ?_)) (by repeat (first | exact Pick.nil | (apply Pick.cons; focus (repeat (first | exact Del.here | apply Del.there))))) ?_
  intro k hk
  refine cw_seq ?_
  refine cw_region ?_
  refine lstepB rfl rfl rfl (run_lss (.tmp rfl) (.tmp rfl) (by first | exact decide_eq_true (by omega) | exact decide_eq_false (by omega) | exact rfl)) ?_
  refine lnil ?_
  refine xw_then ?_
  refine cw_seq ?_
  refine cw_cond_p (.tmp rfl) (fun hl2 => ?_) (fun hl2 => ?_)
  ·
    have hk2 := shl10 ⟨k, by omega⟩
    have hp10 := pow10 ⟨k, by omega⟩
    simp only at hk2 hp10
    refine cw_skip ?_
    refine xw_then ?_
    refine cw_seq ?_
    refine cw_block ?_
    refine cw_seq ?_
    refine cw_region ?_
    refine lstepB rfl rfl rfl (run_move (.tmp rfl)) ?_
    refine lstepB rfl rfl rfl (run_assign (.tmp rfl)) ?_
    refine lnil ?_
    refine xw_then ?_
    refine cw_seq ?_
    refine cw_region ?_
    refine lstepB rfl rfl rfl (run_move (.tmp rfl)) ?_
    refine lstepB rfl rfl rfl (run_move (.tmp rfl)) ?_
    refine lstepB rfl rfl rfl (run_shl (c' := ((2 ^ k : Nat) : Int)) .const (.tmp rfl) (by omega) hk2) ?_
    refine lstepB rfl rfl rfl (run_and (c' := ((s &&& 2 ^ k : Nat) : Int)) (.tmp rfl) (.tmp rfl) (and_small (by omega) (by omega))) ?_
    refine lstepB rfl rfl rfl (run_neq (.tmp rfl) .const and_pow) ?_
    refine lnil ?_
    refine xw_then ?_
    have hk3 : k < l.length := by omega
    refine cw_cond (.tmp rfl) (fun hc2 => ?_) (fun hc2 => ?_)
    ·
      have hst := partL_succ (s := s) hk3
      have hput := put_span2 (s := ⟨-12, 12⟩) (partL l s k) k (by rw [partL_length (by omega)]; exact hk3)
      rw [show freedS l s k = ⟨-12, 12⟩ by simp [freedS, hc2]] at hst
      refine cw_region ?_
      refine lstepB rfl rfl rfl (run_move (.tmp rfl)) ?_
      refine lstepB rfl rfl rfl (run_move (.tmp rfl)) ?_
      refine lstepB rfl rfl rfl (run_call1 cb83 (.cons .const (.cons .const .nil)) (fun w2 _ => betweenK _ _ w2)) ?_
      refine lstepB rfl rfl rfl (run_indexAddr (i := k) (off' := k * 2) (.tmp rfl) (.tmp rfl) el69 (by omega) (Nat.zero_add _)) ?_
      refine lstep0 rfl rfl (run_storeN (.tmp rfl) (.tmp rfl) rfl sz67 rfl (by repeat (first | exact Upd.here | apply Upd.there)) hput) ?_
      refine lnil ?_
      refine xw_in ?_
      refine xw_then ?_
      refine cw_region ?_
      refine lstepB rfl rfl rfl (run_add (.tmp rfl) .const (by first | exact IntWalk.i64_in _ (by omega) | exact rfl)) ?_
      refine lstepB rfl rfl rfl (run_move (.tmp rfl)) ?_
      refine lnil ?_
      rw [← hst]
      exact xw_round (k + 1) (by show k + 1 ≤ _; omega) (by show l.length - (k + 1) < l.length - k; omega) (by repeat (first | exact Less.nil | refine Less.cons rfl ?_)) (by repeat (first | exact Pick.nil | (apply Pick.cons; focus (repeat (first | exact Del.here | apply Del.there)))))
    ·
      have hst := partL_same (s := s) hk3 hc2
      refine cw_skip ?_
      refine xw_in ?_
      refine xw_then ?_
      refine cw_region ?_
      refine lstepB rfl rfl rfl (run_add (.tmp rfl) .const (by first | exact IntWalk.i64_in _ (by omega) | exact rfl)) ?_
      refine lstepB rfl rfl rfl (run_move (.tmp rfl)) ?_
      refine lnil ?_
      rw [← hst]
      exact xw_round (k + 1) (by show k + 1 ≤ _; omega) (by show l.length - (k + 1) < l.length - k; omega) (by repeat (first | exact Less.nil | refine Less.cons rfl ?_)) (by repeat (first | exact Pick.nil | (apply Pick.cons; focus (repeat (first | exact Del.here | apply Del.there)))))
  ·
    obtain rfl : k = l.length := by omega
    refine cw_exit ?_
    refine xw_then_exit ?_
    refine xw_then_exit ?_
    refine xw_in_exit ?_
    refine xw_then ?_
    refine cw_seq ?_
    refine cw_region ?_
    refine lstepB rfl rfl rfl (run_move (.tmp rfl)) ?_
    refine lstepB rfl rfl rfl (run_assign (.tmp rfl)) ?_
    refine lnil ?_
    refine xw_then ?_
    refine cw_ret ?_
    refine xw_ret1 Try.results98 rfl (fun w hS => ⟨b9, trivial, rfl, by rw [← partL_done l s]; exact hS.pick (by repeat (first | exact Pick.nil | (apply Pick.cons; focus (repeat (first | exact Del.here | apply Del.there)))))⟩)
theorem run_copyNone {E : Env} {w0 : World} {T : Nat → Prop} {H : Heap} {d : Option Tmp} {ty : TypeId} {pos : String} {af : Array Edge} {g : Option (Nat × Bool)} {x y : Operand} {k c sc : Nat} {a : Option Addr} (hx : Ev E x (.slice (some ⟨k, 0, none⟩) 0 c)) (hy : Ev E y (.slice a 0 sc)) :
    RunB Try.prog E w0 T H ⟨d, .call ⟨.builtin .copy, [x, y].toArray, [69, 69].toArray⟩, ty, pos, af, g⟩ (.int .i64 0) := fun ρ w hρ hS => by
  refine doneO rfl ?_
  have e1 := hρ x _ (by simp [Op.operands, Call.operands]) hx
  have e2 := hρ y _ (by simp [Op.operands, Call.operands]) hy
  have hf : (Builtin.firstCells 2 0 (.slice a 0 sc)).run Try.prog w = .ok #[] w := by
    cases a with
    | none => simp [run_firstCells_none]
    | some a =>
      have := run_firstCells_some (P := Try.prog) w 2 0 a 0 sc [] (by simp) (by simp)
      simpa using this
  have h : (Builtin.copy_ #[69, 69] ty #[.slice (some ⟨k, 0, none⟩) 0 c, .slice a 0 sc]).run Try.prog w = .ok (goInt 0) w := by
    obtain ⟨i, hi, hz⟩ := Option.map_eq_some_iff.1 in67
    simp [Builtin.copy_, run_underlying un69, Builtin.lenOf, sizeOf, typeInfo, hi, hz, hf, storeCells]
  simp [execOp, e1, e2, Done, go_sem, h, goInt, Below.refl]
set_option maxRecDepth 100000 in
set_option maxHeartbeats 4000000 in
theorem freed_nil (s : Nat) (a : Option Addr) (c : Nat) (w : World) : CallsF Try.prog 98 (([.slice a 0 c, .int .i64 (s : Int)] : List Value)).toArray w fun e w' => ∃ g : Nat, True ∧ e = .returned (.slice (some ⟨g, 0, none⟩) 0 0) ∧ St w NoT [(g, Obj.cells [].toArray 67 (0, 0))] w' := by
  refine enter (n := 29) Try.func98 rfl rfl rfl (by repeat (first | exact Fill.nil | apply Fill.cons)) ?_
  refine cw_seq ?_
  refine cw_region ?_
  refine lstepB rfl rfl rfl (run_assign .const) ?_
  refine lnil ?_
  refine xw_then ?_
  refine cw_seq ?_
  refine cw_region ?_
  refine lstepB rfl rfl rfl (run_move (.tmp rfl)) ?_
  refine lstepB rfl rfl rfl (run_len (.tmp rfl) sl69) ?_
  refine lstep rfl rfl rfl (LR.runs (R := []) (A := []) (lr_makeSpans (n := 0) (.tmp rfl) (.tmp rfl) (by omega)) (by repeat (first | exact Pick.nil | (apply Pick.cons; focus (repeat (first | exact Del.here | apply Del.there))))) (by repeat (first | exact Dels.nil | (apply Dels.cons; focus (repeat (first | exact Del.here | apply Del.there)))))) ?_
  intro b9 _
  refine lstepB rfl rfl rfl (run_assign (.tmp rfl)) ?_
  refine lnil ?_
  refine xw_then ?_
  refine cw_seq ?_
  refine cw_region ?_
  refine lstepB rfl rfl rfl (run_move (.tmp rfl)) ?_
  refine lstepB rfl rfl rfl (run_move (.tmp rfl)) ?_
  refine lstepB rfl rfl rfl (run_copyNone (.tmp rfl) (.tmp rfl)) ?_
  refine lnil ?_
  refine xw_then ?_
  refine cw_seq ?_
  refine cw_seq ?_
  refine cw_region ?_
  refine lstepB rfl rfl rfl (run_move (.tmp rfl)) ?_
  refine lstepB rfl rfl rfl (run_len (.tmp rfl) sl69) ?_
  refine lstepB rfl rfl rfl (run_move .const) ?_
  refine lnil ?_
  refine xw_then ?_
  refine cw_block ?_
  refine cw_loop (S := Nat) (fun k => [(15, .int .i64 (k : Int))]) [(0, _), (1, _), (5, _), (13, _), (14, _)] (fun k => [(b9, Obj.cells [].toArray 67 (0, 0))]) (fun k => k = 0) (fun k => 0 - k) 0 rfl (by repeat (first | exact Less.nil | refine Less.cons rfl ?_)) (by repeat (first | exact Pick.nil | (apply Pick.cons; focus (repeat (first | exact Del.here | apply Del.there))))) ?_
  intro k hk
  subst hk
  refine cw_seq ?_
  refine cw_region ?_
  refine lstepB rfl rfl rfl (run_lss (.tmp rfl) (.tmp rfl) (by first | exact decide_eq_true (by omega) | exact decide_eq_false (by omega) | exact rfl)) ?_
  refine lnil ?_
  refine xw_then ?_
  refine cw_seq ?_
  refine cw_cond_false (.tmp rfl) ?_
  refine cw_exit ?_
  refine xw_then_exit ?_
  refine xw_then_exit ?_
  refine xw_in_exit ?_
  refine xw_then ?_
  refine cw_seq ?_
  refine cw_region ?_
  refine lstepB rfl rfl rfl (run_move (.tmp rfl)) ?_
  refine lstepB rfl rfl rfl (run_assign (.tmp rfl)) ?_
  refine lnil ?_
  refine xw_then ?_
  refine cw_ret ?_
  refine xw_ret1 Try.results98 rfl (fun w hS => ⟨b9, trivial, rfl, hS.pick (by repeat (first | exact Pick.nil | (apply Pick.cons; focus (repeat (first | exact Del.here | apply Del.there)))))⟩)
end Go.Proofs.Ytjdeplehhmhpcaa
