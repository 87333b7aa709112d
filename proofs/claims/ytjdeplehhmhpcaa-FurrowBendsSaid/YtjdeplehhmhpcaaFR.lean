/- Package furrow: savedBy; how many are in a set. -/
import Derived.Test.YtjdeplehhmhpcaaFQ
namespace Go.Proofs.Ytjdeplehhmhpcaa
open Go.RowKit En

def savedB (l : List SpanD) (most : Int) (s : Nat) : Bool := (wayS (freedL l s) (mostB most)).isSome
abbrev claimV (a : Option Addr) (n c : Nat) (most : Int) : Value := .agg [.slice a n c, .int .i64 most].toArray
theorem askedN {n : Nat} (l : List SpanD) (hl : l.length = n) (F : Fn) (fs cs : Array Value) (ok : Int → Bool) (a : Option Addr) (c : Nat) (w : World) (hn1 : 1 ≤ n) (hn : n ≤ 100) (hq : SpansAt w a l) :
    CallsF Try.prog 81 (([.slice a n c, .func F fs cs] : List Value)).toArray w fun e w' => ∃ q : Nat × Nat × List Value, InRow 3 n q.2.1 q.2.2 (spotsC (askedL l (.func F fs cs) ok)) ∧ e = .returned (.slice (some ⟨q.1, 0, none⟩) n q.2.1) ∧ St w NoT [(q.1, Obj.cells q.2.2.toArray 124 (0, 0))] w' := by
  subst hl
  exact asked_cons l F fs cs ok a c w hn1 hn hq
theorem inrow_askedN {n : Nat} {l : List SpanD} (hl : l.length = n) {v : Value} {ok : Int → Bool} (hn : n ≤ 100) : ∃ q : Nat × Nat × List Value, InRow 3 n q.2.1 q.2.2 (spotsC (askedL l v ok)) := by
  subst hl
  exact inrow_asked hn
theorem spansAt_cells {w : World} {b : Nat} {te : TypeId} {fr : Nat × Nat} {l : List SpanD} (h : w.heap[b]? = some (.cells (spansC l).toArray te fr)) : SpansAt w (some ⟨b, 0, none⟩) l := rowsAt_cells h fun i r hi j v hj => by
  rw [List.getElem?_map] at hi
  obtain ⟨m, hm, rfl⟩ := Option.map_eq_some_iff.1 hi
  obtain ⟨a1, a2⟩ := spansC_at l i m hm
  match j, hj with
  | 0, hj => cases hj; simpa using a1
  | 1, hj => cases hj; simpa using a2
set_option maxRecDepth 100000 in
set_option maxHeartbeats 4000000 in
theorem saved_cons {l : List SpanD} (hl : FineC l) (hn1 : 1 ≤ l.length) (hn : l.length ≤ 9) (most : Int) (s : Nat) (hs : s < 2 ^ 32) (a : Option Addr) (c : Nat) (w : World) (hq : SpansAt w a l) : Gives Try.prog 64 [claimV a l.length c most, .int .i64 (s : Int)] w (.bool (savedB l most s)) := by
  refine .mk <| enter (n := 14) Try.func64 rfl rfl rfl (by repeat (first | exact Fill.nil | apply Fill.cons)) ?_
  refine cw_seq ?_
  refine cw_region ?_
  refine lstep rfl rfl rfl (run_boxN (.tmp rfl)) ?_
  intro b2 _
  refine lstepB rfl rfl rfl (run_assign .const) ?_
  refine lnil ?_
  refine xw_then ?_
  refine cw_seq ?_
  refine cw_chain2 (σ := [0, 1, 2, 4, 5, 3, 6, 7, 8, 9]) [⟨0, [], [], [], 0⟩, ⟨0, [0], [], [], 1⟩, ⟨0, [], [], [], 0⟩, ⟨1, [], [], [1], 7⟩, ⟨0, [], [], [], 0⟩, ⟨0, [0], [], [], 16⟩, ⟨1, [], [], [2], 63⟩, ⟨1, [1], [], [3], 127⟩, ⟨0, [3, 2], [], [], 255⟩, ⟨0, [], [], [], 511⟩] [(0, _)] (by kernel_rfl) (by kernel_rfl) rfl ?_
  refine .det (B := []) rfl rfl (.inl rfl) .nil .nil rfl (RunB.lr (run_fieldAddr (.tmp rfl) fa92_0 (by first | exact Nat.zero_add _ | exact rfl))) ?_
  refine .det (B := []) rfl rfl (.inl rfl) (.cons rfl .nil) .nil rfl (RunB.lr (run_load1 (.tmp rfl) kd69 (by repeat (first | exact List.Mem.head _ | apply List.Mem.tail)) (by exact rfl))) ?_
  refine .det (B := []) rfl rfl (.inl rfl) .nil .nil rfl (RunB.lr (run_move (.tmp rfl))) ?_
  refine .det (B := []) rfl rfl (.inl rfl) .nil .nil rfl (RunB.lr (run_fieldAddr (.tmp rfl) fa92_1 (by first | exact Nat.zero_add _ | exact rfl))) ?_
  refine .det (B := []) rfl rfl (.inl rfl) (.cons rfl .nil) .nil rfl (RunB.lr (run_load1 (.tmp rfl) kd3 (by repeat (first | exact List.Mem.head _ | apply List.Mem.tail)) (by exact rfl))) ?_
  refine .ext (B := fun q => [(1, (q, _))]) rfl rfl (.inl rfl) .nil .nil (fun _ => rfl) ⟨0, trivial⟩ (lr_gives cb98 (.cons (.tmp rfl) (.cons (.tmp rfl) .nil)) (fun w2 hS => freed_cons l s hs hn1 hn a c w2 (hq.kept hS.kept))) ?_
  intro gF _
  refine .ext (B := fun q => [(2, (q, _))]) rfl rfl (.inl rfl) .nil .nil (fun _ => rfl) ⟨0, trivial⟩ (lr_gives cb82 (.cons (.tmp rfl) .nil) (fun w2 hS => make101K _ w2)) ?_
  intro gM _
  refine .ext (B := fun q => [(3, (q.1, _))]) rfl rfl (.inl rfl) (.cons rfl .nil) .nil (fun _ => rfl) (inrow_askedN (freedL_length l s) (by omega)) (lr_gives cb81 (.cons (.tmp rfl) (.cons (.tmp rfl) .nil)) (fun w2 hS => askedN (freedL l s) (freedL_length l s) _ _ _ (mostB most) _ _ w2 hn1 (by omega) (spansAt_cells (hS.mem (by repeat (first | exact List.Mem.head _ | apply List.Mem.tail)))))) ?_
  rintro ⟨gS, cS, rS⟩ hS0
  refine .det (B := []) rfl rfl (.inl rfl) (.cons rfl (.cons rfl .nil)) .nil rfl (RunB.lr (run_call1 cb80 (.cons (.tmp rfl) .nil) (fun w2 hS => (hasWayN _ ((askedL_length _ _ _).trans (freedL_length l s)) _ _ w2 (asked_ok (freedL_fine hl s) (pred_most (hS.cell (by repeat (first | exact List.Mem.head _ | apply List.Mem.tail)) rfl))) (spotsAt_row (hS.mem (by repeat (first | exact List.Mem.head _ | apply List.Mem.tail))) hS0) (by omega)).as (by rw [wayL_asked])))) ?_
  refine .det (B := []) rfl rfl (.inl rfl) .nil .nil rfl (RunB.lr (run_assign (.tmp rfl))) ?_
  refine chain_nil (ts := [3, 2, 1, 0]) (.cons rfl (.cons rfl (.cons rfl (.cons rfl .nil)))) (by decide) ?_
  refine xw_then ?_
  refine cw_ret ?_
  refine xw_ret1 Try.results64 rfl (fun w hS => ⟨rfl, hS.kept⟩)
set_option maxRecDepth 100000 in
set_option maxHeartbeats 4000000 in
theorem saved_nil (most : Int) (s : Nat) (a : Option Addr) (c : Nat) (w : World) : Gives Try.prog 64 [claimV a 0 c most, .int .i64 (s : Int)] w (.bool true) := by
  refine .mk <| enter (n := 14) Try.func64 rfl rfl rfl (by repeat (first | exact Fill.nil | apply Fill.cons)) ?_
  refine cw_seq ?_
  refine cw_region ?_
  refine lstep rfl rfl rfl (run_boxN (.tmp rfl)) ?_
  intro b2 _
  refine lstepB rfl rfl rfl (run_assign .const) ?_
  refine lnil ?_
  refine xw_then ?_
  refine cw_seq ?_
  refine cw_chain2 (σ := [0, 1, 2, 4, 5, 3, 6, 7, 8, 9]) [⟨0, [], [], [], 0⟩, ⟨0, [0], [], [], 1⟩, ⟨0, [], [], [], 0⟩, ⟨1, [], [], [1], 7⟩, ⟨0, [], [], [], 0⟩, ⟨0, [0], [], [], 16⟩, ⟨1, [], [], [2], 63⟩, ⟨0, [], [], [], 127⟩, ⟨0, [], [], [], 255⟩, ⟨0, [], [], [], 511⟩] [(0, _)] (by kernel_rfl) (by kernel_rfl) rfl ?_
  refine .det (B := []) rfl rfl (.inl rfl) .nil .nil rfl (RunB.lr (run_fieldAddr (.tmp rfl) fa92_0 (by first | exact Nat.zero_add _ | exact rfl))) ?_
  refine .det (B := []) rfl rfl (.inl rfl) (.cons rfl .nil) .nil rfl (RunB.lr (run_load1 (.tmp rfl) kd69 (by repeat (first | exact List.Mem.head _ | apply List.Mem.tail)) (by exact rfl))) ?_
  refine .det (B := []) rfl rfl (.inl rfl) .nil .nil rfl (RunB.lr (run_move (.tmp rfl))) ?_
  refine .det (B := []) rfl rfl (.inl rfl) .nil .nil rfl (RunB.lr (run_fieldAddr (.tmp rfl) fa92_1 (by first | exact Nat.zero_add _ | exact rfl))) ?_
  refine .det (B := []) rfl rfl (.inl rfl) (.cons rfl .nil) .nil rfl (RunB.lr (run_load1 (.tmp rfl) kd3 (by repeat (first | exact List.Mem.head _ | apply List.Mem.tail)) (by exact rfl))) ?_
  refine .ext (B := fun q => [(1, (q, _))]) rfl rfl (.inl rfl) .nil .nil (fun _ => rfl) ⟨0, trivial⟩ (lr_gives cb98 (.cons (.tmp rfl) (.cons (.tmp rfl) .nil)) (fun w2 hS => freed_nil s a c w2)) ?_
  intro gF _
  refine .ext (B := fun q => [(2, (q, _))]) rfl rfl (.inl rfl) .nil .nil (fun _ => rfl) ⟨0, trivial⟩ (lr_gives cb82 (.cons (.tmp rfl) .nil) (fun w2 hS => make101K _ w2)) ?_
  intro gM _
  refine .det (B := []) rfl rfl (.inl rfl) .nil .nil rfl (RunB.lr (run_call1 cb81 (.cons (.tmp rfl) (.cons (.tmp rfl) .nil)) (fun w2 _ => asked_nil _ _ _ w2))) ?_
  refine .det (B := []) rfl rfl (.inl rfl) .nil .nil rfl (RunB.lr (run_call1 cb80 (.cons (.tmp rfl) .nil) (fun w2 _ => hasWayN (n := 0) [] rfl none 0 w2 (fun s hs => by cases hs) (fun i r h => by simp at h) (by omega)))) ?_
  refine .det (B := []) rfl rfl (.inl rfl) .nil .nil rfl (RunB.lr (run_assign (.tmp rfl))) ?_
  refine chain_nil (ts := [2, 1, 0]) (.cons rfl (.cons rfl (.cons rfl .nil))) (by decide) ?_
  refine xw_then ?_
  refine cw_ret ?_
  refine xw_ret1 Try.results64 rfl (fun w hS => ⟨rfl, hS.kept⟩)
theorem savedK {l : List SpanD} (hl : FineC l) (hn : l.length ≤ 9) (most : Int) (s : Nat) (hs : s < 2 ^ 32) (a : Option Addr) (c : Nat) (w : World) (hq : SpansAt w a l) : Gives Try.prog 64 [claimV a l.length c most, .int .i64 (s : Int)] w (.bool (savedB l most s)) := by
  cases l with
  | nil => exact saved_nil most s a c w
  | cons x r => exact saved_cons hl (by simp) hn most s hs a c w hq
theorem pred_saved {l : List SpanD} (hl : FineC l) (hn : l.length ≤ 9) (most : Int) {a : Option Addr} {c : Nat} {w : World} (hq : SpansAt w a l) (D : Int → Prop) (hD : ∀ x, D x → 0 ≤ x ∧ x < 4294967296) : PredAt w (.func (.func 64) [claimV a l.length c most].toArray #[]) (fun x => savedB l most x.toNat) D :=
  .inr ⟨64, _, rfl, cb64, fun w2 hb x hx => by
    obtain ⟨s, rfl⟩ : ∃ s : Nat, x = (s : Int) := ⟨x.toNat, by have := hD x hx; omega⟩
    exact (savedK hl hn most s (by have := hD _ hx; omega) a c w2 (hq.kept hb)).as rfl⟩
section
variable {P : Program} {E : Env} {w0 : World} {T : Nat → Prop} {H : Heap} {x y : Operand} {d : Option Tmp} {t tx ty tyy : TypeId} {pos : String} {af : Array Edge} {gd : Option (Nat × Bool)}
theorem run_shrU {yk : IntKind} {a z : Nat} (hx : Ev E x (.int .u64 (a : Int))) (hy : Ev E y (.int yk (z : Int))) (hz : z ≤ 64) : RunB P E w0 T H ⟨d, .binOp .shr tx x y tyy, ty, pos, af, gd⟩ (.int .u64 ((a / 2 ^ z : Nat) : Int)) := fun ρ w hρ hS => by
  refine doneO rfl ?_
  have e1 := hρ x _ (by simp [Op.operands]) hx
  have e2 := hρ y _ (by simp [Op.operands]) hy
  have h0 : ¬ ((z : Int) < 0) := by omega
  have h1 : min z 64 = z := by omega
  obtain ⟨q, hq⟩ : ∃ q, a / 2 ^ z = q := ⟨_, rfl⟩
  have h2 : Int.fdiv (a : Int) (2 ^ z) = (q : Int) := by
    rw [← hq, Int.ofNat_fdiv]; simp
  have h3 : (a : Int) / 2 ^ z = (q : Int) := by rw [← hq]; simp
  rw [hq]
  simp [execOp, e1, e2, Done, go_sem, eqGuard, binOp, Op.shift, h0, h1, h2, h3, IntKind.bits, Below.refl]
end
theorem and_smallU {a b : Nat} (ha : a < 2 ^ 40) (hb : b < 2 ^ 64) : IntKind.u64.wrap ((BitVec.ofInt IntKind.u64.bits (a : Int) &&& BitVec.ofInt IntKind.u64.bits (b : Int)).toNat) = ((a &&& b : Nat) : Int) := by
  have hlt : a &&& b ≤ a := Nat.and_le_left
  show IntKind.u64.wrap ((BitVec.ofInt 64 (a : Int) &&& BitVec.ofInt 64 (b : Int)).toNat : Int) = _
  have h1 : BitVec.ofInt 64 (a : Int) = BitVec.ofNat 64 a := BitVec.ofInt_natCast ..
  have h2 : BitVec.ofInt 64 (b : Int) = BitVec.ofNat 64 b := BitVec.ofInt_natCast ..
  rw [h1, h2, BitVec.toNat_and, BitVec.toNat_ofNat, BitVec.toNat_ofNat, Nat.mod_eq_of_lt (by omega), Nat.mod_eq_of_lt (by omega)]
  exact IntWalk.u64_in _ (by omega)
theorem add_smallU {a b : Nat} (ha : a < 2 ^ 40) (hb : b < 2 ^ 40) : IntKind.u64.wrap ((a : Int) + (b : Int)) = ((a + b : Nat) : Int) := by
  rw [show (a : Int) + (b : Int) = ((a + b : Nat) : Int) by omega]
  exact IntWalk.u64_in _ (by omega)
theorem cv136_3 {a c : Int} (h : IntKind.i64.wrap a = c) (w : World) : (convert 136 3 (.int .u64 a)).run Try.prog w = .ok (.int .i64 c) w := by
  subst h
  simp [go_sem, convert]
def p1 (n : Nat) : Nat := (n / 2 ^ 1 &&& 6148914691236517205) + (n &&& 6148914691236517205)
def p2 (n : Nat) : Nat := (p1 n / 2 ^ 2 &&& 3689348814741910323) + (p1 n &&& 3689348814741910323)
def p3 (n : Nat) : Nat := p2 n / 2 ^ 4 + p2 n &&& 1085102592571150095
def p4 (n : Nat) : Nat := p3 n + p3 n / 2 ^ 8
def p5 (n : Nat) : Nat := p4 n + p4 n / 2 ^ 16
def p6 (n : Nat) : Nat := p5 n + p5 n / 2 ^ 32
def pcN (n : Nat) : Nat := p6 n &&& 127
/-- How many are in a set of the first eight. -/
def sizeN (n : Nat) : Nat := (List.range 8).countP fun i => n.testBit i
theorem pcN_eq : ∀ n : Fin 256, pcN n.1 = sizeN n.1 := by decide +kernel
theorem pN_small : ∀ n : Fin 256, p1 n.1 < 512 ∧ p2 n.1 < 512 ∧ p3 n.1 < 512 ∧ p4 n.1 < 512 ∧ p5 n.1 < 512 ∧ p6 n.1 < 512 := by decide +kernel
theorem div_pow_le (n k : Nat) : n / 2 ^ k ≤ n := Nat.div_le_self _ _
set_option maxRecDepth 100000 in
set_option maxHeartbeats 4000000 in
theorem ones64K (n : Nat) (hn : n < 256) (w : World) : Gives Try.prog 110 [.int .u64 (n : Int)] w (.int .i64 (sizeN n : Int)) := by
  refine .mk <| enter (n := 35) Try.func110 rfl rfl rfl (by repeat (first | exact Fill.nil | apply Fill.cons)) ?_
  obtain ⟨q1, q2, q3, q4, q5, q6⟩ := pN_small ⟨n, hn⟩
  have hpc := pcN_eq ⟨n, hn⟩
  simp only at q1 q2 q3 q4 q5 q6 hpc
  have d0 := div_pow_le n 1
  have d1 := div_pow_le (p1 n) 2
  have d2 := div_pow_le (p2 n) 4
  have d3 := div_pow_le (p3 n) 8
  have d4 := div_pow_le (p4 n) 16
  have d5 := div_pow_le (p5 n) 32
  have a0 : n / 2 ^ 1 &&& 6148914691236517205 ≤ n / 2 ^ 1 := Nat.and_le_left
  have a1 : n &&& 6148914691236517205 ≤ n := Nat.and_le_left
  have a2 : p1 n / 2 ^ 2 &&& 3689348814741910323 ≤ p1 n / 2 ^ 2 := Nat.and_le_left
  have a3 : p1 n &&& 3689348814741910323 ≤ p1 n := Nat.and_le_left
  refine cw_seq ?_
  refine cw_region ?_
  refine lstepB rfl rfl rfl (run_assign .const) ?_
  refine lnil ?_
  refine xw_then ?_
  refine cw_seq ?_
  refine cw_region ?_
  refine lstepB rfl rfl rfl (run_move (.tmp rfl)) ?_
  refine lstepB rfl rfl rfl (run_shrU (z := 1) (.tmp rfl) (.const (v := .int .u64 ((1 : Nat) : Int))) (by omega)) ?_
  refine lstepB rfl rfl rfl (run_and (c' := ((n / 2 ^ 1 &&& 6148914691236517205 : Nat) : Int)) (.tmp rfl) (.const (v := .int .u64 ((6148914691236517205 : Nat) : Int))) (and_smallU (by omega) (by omega))) ?_
  refine lstepB rfl rfl rfl (run_move (.tmp rfl)) ?_
  refine lstepB rfl rfl rfl (run_and (c' := ((n &&& 6148914691236517205 : Nat) : Int)) (.tmp rfl) (.const (v := .int .u64 ((6148914691236517205 : Nat) : Int))) (and_smallU (by omega) (by omega))) ?_
  refine lstepB rfl rfl rfl (run_add (c := ((p1 n : Nat) : Int)) (.tmp rfl) (.tmp rfl) (add_smallU (by omega) (by omega))) ?_
  refine lstepB rfl rfl rfl (run_assign (.tmp rfl)) ?_
  refine lnil ?_
  refine xw_then ?_
  refine cw_seq ?_
  refine cw_region ?_
  refine lstepB rfl rfl rfl (run_move (.tmp rfl)) ?_
  refine lstepB rfl rfl rfl (run_shrU (z := 2) (.tmp rfl) (.const (v := .int .u64 ((2 : Nat) : Int))) (by omega)) ?_
  refine lstepB rfl rfl rfl (run_and (c' := ((p1 n / 2 ^ 2 &&& 3689348814741910323 : Nat) : Int)) (.tmp rfl) (.const (v := .int .u64 ((3689348814741910323 : Nat) : Int))) (and_smallU (by omega) (by omega))) ?_
  refine lstepB rfl rfl rfl (run_move (.tmp rfl)) ?_
  refine lstepB rfl rfl rfl (run_and (c' := ((p1 n &&& 3689348814741910323 : Nat) : Int)) (.tmp rfl) (.const (v := .int .u64 ((3689348814741910323 : Nat) : Int))) (and_smallU (by omega) (by omega))) ?_
  refine lstepB rfl rfl rfl (run_add (c := ((p2 n : Nat) : Int)) (.tmp rfl) (.tmp rfl) (add_smallU (by omega) (by omega))) ?_
  refine lstepB rfl rfl rfl (run_assign (.tmp rfl)) ?_
  refine lnil ?_
  refine xw_then ?_
  refine cw_seq ?_
  refine cw_region ?_
  refine lstepB rfl rfl rfl (run_move (.tmp rfl)) ?_
  refine lstepB rfl rfl rfl (run_shrU (z := 4) (.tmp rfl) (.const (v := .int .u64 ((4 : Nat) : Int))) (by omega)) ?_
  refine lstepB rfl rfl rfl (run_move (.tmp rfl)) ?_
  refine lstepB rfl rfl rfl (run_add (c := ((p2 n / 2 ^ 4 + p2 n : Nat) : Int)) (.tmp rfl) (.tmp rfl) (add_smallU (by omega) (by omega))) ?_
  refine lstepB rfl rfl rfl (run_and (c' := ((p3 n : Nat) : Int)) (.tmp rfl) (.const (v := .int .u64 ((1085102592571150095 : Nat) : Int))) (and_smallU (by omega) (by omega))) ?_
  refine lstepB rfl rfl rfl (run_assign (.tmp rfl)) ?_
  refine lnil ?_
  refine xw_then ?_
  refine cw_seq ?_
  refine cw_region ?_
  refine lstepB rfl rfl rfl (run_move (.tmp rfl)) ?_
  refine lstepB rfl rfl rfl (run_move (.tmp rfl)) ?_
  refine lstepB rfl rfl rfl (run_shrU (z := 8) (.tmp rfl) (.const (v := .int .u64 ((8 : Nat) : Int))) (by omega)) ?_
  refine lstepB rfl rfl rfl (run_add (c := ((p4 n : Nat) : Int)) (.tmp rfl) (.tmp rfl) (add_smallU (by omega) (by omega))) ?_
  refine lstepB rfl rfl rfl (run_assign (.tmp rfl)) ?_
  refine lnil ?_
  refine xw_then ?_
  refine cw_seq ?_
  refine cw_region ?_
  refine lstepB rfl rfl rfl (run_move (.tmp rfl)) ?_
  refine lstepB rfl rfl rfl (run_move (.tmp rfl)) ?_
  refine lstepB rfl rfl rfl (run_shrU (z := 16) (.tmp rfl) (.const (v := .int .u64 ((16 : Nat) : Int))) (by omega)) ?_
  refine lstepB rfl rfl rfl (run_add (c := ((p5 n : Nat) : Int)) (.tmp rfl) (.tmp rfl) (add_smallU (by omega) (by omega))) ?_
  refine lstepB rfl rfl rfl (run_assign (.tmp rfl)) ?_
  refine lnil ?_
  refine xw_then ?_
  refine cw_seq ?_
  refine cw_region ?_
  refine lstepB rfl rfl rfl (run_move (.tmp rfl)) ?_
  refine lstepB rfl rfl rfl (run_move (.tmp rfl)) ?_
  refine lstepB rfl rfl rfl (run_shrU (z := 32) (.tmp rfl) (.const (v := .int .u64 ((32 : Nat) : Int))) (by omega)) ?_
  refine lstepB rfl rfl rfl (run_add (c := ((p6 n : Nat) : Int)) (.tmp rfl) (.tmp rfl) (add_smallU (by omega) (by omega))) ?_
  refine lstepB rfl rfl rfl (run_assign (.tmp rfl)) ?_
  refine lnil ?_
  refine xw_then ?_
  refine cw_seq ?_
  refine cw_region ?_
  refine lstepB rfl rfl rfl (run_move (.tmp rfl)) ?_
  refine lstepB rfl rfl rfl (run_convert_at (.tmp rfl) (fun w => cv136_3 (c := ((p6 n : Nat) : Int)) (IntWalk.i64_in _ (by omega)) w)) ?_
  refine lstepB rfl rfl rfl (run_and (c' := ((sizeN n : Nat) : Int)) (.tmp rfl) (.const (v := .int .i64 ((127 : Nat) : Int))) (by rw [← hpc]; exact and_small (by omega) (by omega))) ?_
  refine lstepB rfl rfl rfl (run_assign (.tmp rfl)) ?_
  refine lnil ?_
  refine xw_then ?_
  refine cw_ret ?_
  refine xw_ret1 Try.results110 rfl (fun w hS => ⟨rfl, hS.kept⟩)
set_option maxRecDepth 100000 in
set_option maxHeartbeats 4000000 in
theorem onesK (n : Nat) (hn : n < 256) (w : World) : Gives Try.prog 97 [.int .u64 (n : Int)] w (.int .i64 (sizeN n : Int)) := by
  refine .mk <| enter (n := 8) Try.func97 rfl rfl rfl (by repeat (first | exact Fill.nil | apply Fill.cons)) ?_
  refine cw_seq ?_
  refine cw_region ?_
  refine lstepB rfl rfl rfl (run_assign .const) ?_
  refine lnil ?_
  refine xw_then ?_
  refine cw_seq ?_
  refine cw_cond_false .const ?_
  refine cw_skip ?_
  refine xw_then ?_
  refine cw_seq ?_
  refine cw_region ?_
  refine lstepB rfl rfl rfl (run_move (.tmp rfl)) ?_
  refine lstepB rfl rfl rfl (run_call1 cb110 (.cons (.tmp rfl) .nil) (fun w2 _ => ones64K n hn w2)) ?_
  refine lstepB rfl rfl rfl (run_assign (.tmp rfl)) ?_
  refine lnil ?_
  refine xw_then ?_
  refine cw_ret ?_
  refine xw_ret1 Try.results97 rfl (fun w hS => ⟨rfl, hS.kept⟩)
end Go.Proofs.Ytjdeplehhmhpcaa
