/- Package furrow: findings; who can lead, who can be less. -/
import Derived.Test.YtjdeplehhmhpcaaFM
namespace Go.Proofs.Ytjdeplehhmhpcaa
open Go.RowKit En

theorem or_small {a b : Nat} (ha : a < 2 ^ 32) (hb : b < 2 ^ 32) : IntKind.i64.wrap ((BitVec.ofInt IntKind.i64.bits (a : Int) ||| BitVec.ofInt IntKind.i64.bits (b : Int)).toNat) = ((a ||| b : Nat) : Int) := by
  have hlt : a ||| b < 2 ^ 32 := Nat.or_lt_two_pow ha hb
  show IntKind.i64.wrap ((BitVec.ofInt 64 (a : Int) ||| BitVec.ofInt 64 (b : Int)).toNat : Int) = _
  have h1 : BitVec.ofInt 64 (a : Int) = BitVec.ofNat 64 a := BitVec.ofInt_natCast ..
  have h2 : BitVec.ofInt 64 (b : Int) = BitVec.ofNat 64 b := BitVec.ofInt_natCast ..
  rw [h1, h2, BitVec.toNat_or, BitVec.toNat_ofNat, BitVec.toNat_ofNat, Nat.mod_eq_of_lt (by omega), Nat.mod_eq_of_lt (by omega)]
  exact IntWalk.i64_in _ (by omega)
theorem shl10 : ∀ c : Fin 10, IntKind.i64.wrap (1 * 2 ^ (min ((c.1 : Int)).toNat IntKind.i64.bits)) = ((2 ^ c.1 : Nat) : Int) := by decide +kernel
theorem pow10 : ∀ c : Fin 11, 2 ^ c.1 ≤ 1024 := by decide +kernel
theorem run_nilAt {P : Program} {E : Env} {w0 : World} {T : Nat → Prop} {H : Heap} {x : Operand} {d : Option Tmp} {ty : TypeId} {pos : String} {af : Array Edge} {gd : Option (Nat × Bool)} {a : Addr} (hx : Ev E x (.pointer (some a))) : RunB P E w0 T H ⟨d, .nilCheck x, ty, pos, af, gd⟩ (.pointer (some a)) := fun ρ w hρ hS => by
  refine doneO rfl ?_
  have e1 := hρ x _ (by simp [Op.operands]) hx
  simp [execOp, e1, Done, go_sem, asAddr, Below.refl]
abbrev findH (b : Nat) (x y : Nat) : Nat × Obj := (b, Obj.cells [.int .i64 (x : Int), .int .i64 (y : Int)].toArray 81 (0, 0))
def noteN (x k : Nat) (c : Bool) : Nat := if c then x ||| 2 ^ k else x
theorem own_two {w : World} {b : Nat} {o : Obj} (h : w.heap[b]? = some o) : St w (blk [(b, o)]) [(b, o)] w := ⟨rfl, rfl, rfl, Nat.le_refl _, fun _ _ _ => rfl, fun z hz => by rw [List.mem_singleton] at hz; subst hz; exact ⟨h, .inr ⟨_, List.mem_singleton.2 rfl, rfl⟩⟩, List.pairwise_singleton _ _⟩
set_option maxRecDepth 100000 in
set_option maxHeartbeats 4000000 in
theorem noteK (b x y k : Nat) (s c : Bool) (hk : k < 10) (hx : x < 2 ^ 32) (hy : y < 2 ^ 32) (w : World) (hb : w.heap[b]? = some (findH b x y).2) :
    CallsF Try.prog 92 (([ptrV b, .int .i64 (k : Int), .bool s, .bool c] : List Value)).toArray w fun e w' => ∃ u : Unit, True ∧ e = .returned (.tuple #[]) ∧ Tr w w' [findH b x y] [findH b (noteN x k s) (noteN y k c)] := by
  have hp10 := pow10 ⟨k, by omega⟩
  simp only at hp10
  cases s <;> cases c
  ·
    refine enterH (H := [findH b x y]) Try.func92 rfl rfl rfl (by repeat (first | exact Fill.nil | apply Fill.cons)) (own_two hb) ?_
    obtain ⟨F, hFb⟩ : ∃ F, F = b := ⟨_, rfl⟩
    refine cw_seq ?_
    refine cw_seq ?_
    refine cw_region ?_
    refine lstepB rfl rfl rfl (run_move (.tmp rfl)) ?_
    refine lnil ?_
    refine xw_then ?_
    refine cw_cond_false (.tmp rfl) ?_
    refine cw_skip ?_
    refine xw_then ?_
    refine cw_seq ?_
    refine cw_region ?_
    refine lstepB rfl rfl rfl (run_move (.tmp rfl)) ?_
    refine lnil ?_
    refine xw_then ?_
    refine cw_cond_false (.tmp rfl) ?_
    refine cw_skip ?_
    refine xw_end0 Try.results92 (fun w2 hS => ⟨(), trivial, rfl, tr_blk hS⟩)
  ·
    refine enterH (H := [findH b x y]) Try.func92 rfl rfl rfl (by repeat (first | exact Fill.nil | apply Fill.cons)) (own_two hb) ?_
    obtain ⟨F, hFb⟩ : ∃ F, F = b := ⟨_, rfl⟩
    refine cw_seq ?_
    refine cw_seq ?_
    refine cw_region ?_
    refine lstepB rfl rfl rfl (run_move (.tmp rfl)) ?_
    refine lnil ?_
    refine xw_then ?_
    refine cw_cond_false (.tmp rfl) ?_
    refine cw_skip ?_
    refine xw_then ?_
    refine cw_seq ?_
    refine cw_region ?_
    refine lstepB rfl rfl rfl (run_move (.tmp rfl)) ?_
    refine lnil ?_
    refine xw_then ?_
    refine cw_cond_true (.tmp rfl) ?_
    refine cw_chain2 (σ := [0, 1, 2, 3, 4, 5, 6, 7, 8, 9]) [⟨0, [], [], [], 0⟩, ⟨0, [], [], [], 1⟩, ⟨0, [], [], [], 3⟩, ⟨0, [0], [], [], 7⟩, ⟨0, [], [], [], 0⟩, ⟨0, [], [], [], 16⟩, ⟨0, [], [], [], 63⟩, ⟨0, [], [], [], 127⟩, ⟨0, [], [], [], 255⟩, ⟨0, [], [0], [0], 511⟩] [(0, _)] (by kernel_rfl) (by kernel_rfl) rfl ?_
    refine .det (B := []) rfl rfl (.inl rfl) .nil .nil rfl (RunB.lr (run_move (.tmp rfl))) ?_
    refine .det (B := []) rfl rfl (.inl rfl) .nil .nil rfl (RunB.lr (run_nilAt (.tmp rfl))) ?_
    refine .det (B := []) rfl rfl (.inl rfl) .nil .nil rfl (RunB.lr (run_fieldAddr (.tmp rfl) fa81_1 (by first | exact Nat.zero_add _ | exact rfl))) ?_
    refine .det (B := []) rfl rfl (.inl rfl) (.cons rfl .nil) .nil rfl (RunB.lr (run_load1 (.tmp rfl) kd3 (by repeat (first | exact List.Mem.head _ | apply List.Mem.tail)) (by exact rfl))) ?_
    refine .det (B := []) rfl rfl (.inl rfl) .nil .nil rfl (RunB.lr (run_move (.tmp rfl))) ?_
    refine .det (B := []) rfl rfl (.inl rfl) .nil .nil rfl (RunB.lr (run_shl (c' := ((2 ^ k : Nat) : Int)) .const (.tmp rfl) (by omega) (shl10 ⟨k, hk⟩))) ?_
    refine .det (B := []) rfl rfl (.inl rfl) .nil .nil rfl (RunB.lr (run_or (c' := ((y ||| 2 ^ k : Nat) : Int)) (.tmp rfl) (.tmp rfl) (or_small (by omega) (by omega)))) ?_
    refine .det (B := []) rfl rfl (.inl rfl) .nil .nil rfl (RunB.lr (run_nilAt (.tmp rfl))) ?_
    refine .det (B := []) rfl rfl (.inl rfl) .nil .nil rfl (RunB.lr (run_fieldAddr (.tmp rfl) fa81_1 (by first | exact Nat.zero_add _ | exact rfl))) ?_
    refine .det (B := [(0, (_, _))]) rfl rfl (.inl rfl) .nil (.cons rfl .nil) rfl (lr_store1 (.tmp rfl) (.tmp rfl) rfl sz3 (by repeat (first | exact Put.done | apply Put.put | apply Put.skip))) ?_
    refine chain_nil (ts := [0]) (.cons rfl .nil) (by decide) ?_
    refine xw_end0 Try.results92 (fun w2 hS => ⟨(), trivial, rfl, tr_blk hS⟩)
  ·
    refine enterH (H := [findH b x y]) Try.func92 rfl rfl rfl (by repeat (first | exact Fill.nil | apply Fill.cons)) (own_two hb) ?_
    obtain ⟨F, hFb⟩ : ∃ F, F = b := ⟨_, rfl⟩
    refine cw_seq ?_
    refine cw_seq ?_
    refine cw_region ?_
    refine lstepB rfl rfl rfl (run_move (.tmp rfl)) ?_
    refine lnil ?_
    refine xw_then ?_
    refine cw_cond_true (.tmp rfl) ?_
    refine cw_chain2 (σ := [0, 1, 2, 3, 4, 5, 6, 7, 8, 9]) [⟨0, [], [], [], 0⟩, ⟨0, [], [], [], 1⟩, ⟨0, [], [], [], 3⟩, ⟨0, [0], [], [], 7⟩, ⟨0, [], [], [], 0⟩, ⟨0, [], [], [], 16⟩, ⟨0, [], [], [], 63⟩, ⟨0, [], [], [], 127⟩, ⟨0, [], [], [], 255⟩, ⟨0, [], [0], [0], 511⟩] [(0, _)] (by kernel_rfl) (by kernel_rfl) rfl ?_
    refine .det (B := []) rfl rfl (.inl rfl) .nil .nil rfl (RunB.lr (run_move (.tmp rfl))) ?_
    refine .det (B := []) rfl rfl (.inl rfl) .nil .nil rfl (RunB.lr (run_nilAt (.tmp rfl))) ?_
    refine .det (B := []) rfl rfl (.inl rfl) .nil .nil rfl (RunB.lr (run_fieldAddr (.tmp rfl) fa81_0 (by first | exact Nat.zero_add _ | exact rfl))) ?_
    refine .det (B := []) rfl rfl (.inl rfl) (.cons rfl .nil) .nil rfl (RunB.lr (run_load1 (.tmp rfl) kd3 (by repeat (first | exact List.Mem.head _ | apply List.Mem.tail)) (by exact rfl))) ?_
    refine .det (B := []) rfl rfl (.inl rfl) .nil .nil rfl (RunB.lr (run_move (.tmp rfl))) ?_
    refine .det (B := []) rfl rfl (.inl rfl) .nil .nil rfl (RunB.lr (run_shl (c' := ((2 ^ k : Nat) : Int)) .const (.tmp rfl) (by omega) (shl10 ⟨k, hk⟩))) ?_
    refine .det (B := []) rfl rfl (.inl rfl) .nil .nil rfl (RunB.lr (run_or (c' := ((x ||| 2 ^ k : Nat) : Int)) (.tmp rfl) (.tmp rfl) (or_small (by omega) (by omega)))) ?_
    refine .det (B := []) rfl rfl (.inl rfl) .nil .nil rfl (RunB.lr (run_nilAt (.tmp rfl))) ?_
    refine .det (B := []) rfl rfl (.inl rfl) .nil .nil rfl (RunB.lr (run_fieldAddr (.tmp rfl) fa81_0 (by first | exact Nat.zero_add _ | exact rfl))) ?_
    refine .det (B := [(0, (_, _))]) rfl rfl (.inl rfl) .nil (.cons rfl .nil) rfl (lr_store1 (.tmp rfl) (.tmp rfl) rfl sz3 (by repeat (first | exact Put.done | apply Put.put | apply Put.skip))) ?_
    refine chain_nil (ts := [0]) (.cons rfl .nil) (by decide) ?_
    refine xw_then ?_
    refine cw_seq ?_
    refine cw_region ?_
    refine lstepB rfl rfl rfl (run_move (.tmp rfl)) ?_
    refine lnil ?_
    refine xw_then ?_
    refine cw_cond_false (.tmp rfl) ?_
    refine cw_skip ?_
    refine xw_end0 Try.results92 (fun w2 hS => ⟨(), trivial, rfl, tr_blk hS⟩)
  ·
    refine enterH (H := [findH b x y]) Try.func92 rfl rfl rfl (by repeat (first | exact Fill.nil | apply Fill.cons)) (own_two hb) ?_
    obtain ⟨F, hFb⟩ : ∃ F, F = b := ⟨_, rfl⟩
    refine cw_seq ?_
    refine cw_seq ?_
    refine cw_region ?_
    refine lstepB rfl rfl rfl (run_move (.tmp rfl)) ?_
    refine lnil ?_
    refine xw_then ?_
    refine cw_cond_true (.tmp rfl) ?_
    refine cw_chain2 (σ := [0, 1, 2, 3, 4, 5, 6, 7, 8, 9]) [⟨0, [], [], [], 0⟩, ⟨0, [], [], [], 1⟩, ⟨0, [], [], [], 3⟩, ⟨0, [0], [], [], 7⟩, ⟨0, [], [], [], 0⟩, ⟨0, [], [], [], 16⟩, ⟨0, [], [], [], 63⟩, ⟨0, [], [], [], 127⟩, ⟨0, [], [], [], 255⟩, ⟨0, [], [0], [0], 511⟩] [(0, _)] (by kernel_rfl) (by kernel_rfl) rfl ?_
    refine .det (B := []) rfl rfl (.inl rfl) .nil .nil rfl (RunB.lr (run_move (.tmp rfl))) ?_
    refine .det (B := []) rfl rfl (.inl rfl) .nil .nil rfl (RunB.lr (run_nilAt (.tmp rfl))) ?_
    refine .det (B := []) rfl rfl (.inl rfl) .nil .nil rfl (RunB.lr (run_fieldAddr (.tmp rfl) fa81_0 (by first | exact Nat.zero_add _ | exact rfl))) ?_
    refine .det (B := []) rfl rfl (.inl rfl) (.cons rfl .nil) .nil rfl (RunB.lr (run_load1 (.tmp rfl) kd3 (by repeat (first | exact List.Mem.head _ | apply List.Mem.tail)) (by exact rfl))) ?_
    refine .det (B := []) rfl rfl (.inl rfl) .nil .nil rfl (RunB.lr (run_move (.tmp rfl))) ?_
    refine .det (B := []) rfl rfl (.inl rfl) .nil .nil rfl (RunB.lr (run_shl (c' := ((2 ^ k : Nat) : Int)) .const (.tmp rfl) (by omega) (shl10 ⟨k, hk⟩))) ?_
    refine .det (B := []) rfl rfl (.inl rfl) .nil .nil rfl (RunB.lr (run_or (c' := ((x ||| 2 ^ k : Nat) : Int)) (.tmp rfl) (.tmp rfl) (or_small (by omega) (by omega)))) ?_
    refine .det (B := []) rfl rfl (.inl rfl) .nil .nil rfl (RunB.lr (run_nilAt (.tmp rfl))) ?_
    refine .det (B := []) rfl rfl (.inl rfl) .nil .nil rfl (RunB.lr (run_fieldAddr (.tmp rfl) fa81_0 (by first | exact Nat.zero_add _ | exact rfl))) ?_
    refine .det (B := [(0, (_, _))]) rfl rfl (.inl rfl) .nil (.cons rfl .nil) rfl (lr_store1 (.tmp rfl) (.tmp rfl) rfl sz3 (by repeat (first | exact Put.done | apply Put.put | apply Put.skip))) ?_
    refine chain_nil (ts := [0]) (.cons rfl .nil) (by decide) ?_
    refine xw_then ?_
    refine cw_seq ?_
    refine cw_region ?_
    refine lstepB rfl rfl rfl (run_move (.tmp rfl)) ?_
    refine lnil ?_
    refine xw_then ?_
    refine cw_cond_true (.tmp rfl) ?_
    refine cw_chain2 (σ := [0, 1, 2, 3, 4, 5, 6, 7, 8, 9]) [⟨0, [], [], [], 0⟩, ⟨0, [], [], [], 1⟩, ⟨0, [], [], [], 3⟩, ⟨0, [0], [], [], 7⟩, ⟨0, [], [], [], 0⟩, ⟨0, [], [], [], 16⟩, ⟨0, [], [], [], 63⟩, ⟨0, [], [], [], 127⟩, ⟨0, [], [], [], 255⟩, ⟨0, [], [0], [0], 511⟩] [(0, _)] (by kernel_rfl) (by kernel_rfl) rfl ?_
    refine .det (B := []) rfl rfl (.inl rfl) .nil .nil rfl (RunB.lr (run_move (.tmp rfl))) ?_
    refine .det (B := []) rfl rfl (.inl rfl) .nil .nil rfl (RunB.lr (run_nilAt (.tmp rfl))) ?_
    refine .det (B := []) rfl rfl (.inl rfl) .nil .nil rfl (RunB.lr (run_fieldAddr (.tmp rfl) fa81_1 (by first | exact Nat.zero_add _ | exact rfl))) ?_
    refine .det (B := []) rfl rfl (.inl rfl) (.cons rfl .nil) .nil rfl (RunB.lr (run_load1 (.tmp rfl) kd3 (by repeat (first | exact List.Mem.head _ | apply List.Mem.tail)) (by exact rfl))) ?_
    refine .det (B := []) rfl rfl (.inl rfl) .nil .nil rfl (RunB.lr (run_move (.tmp rfl))) ?_
    refine .det (B := []) rfl rfl (.inl rfl) .nil .nil rfl (RunB.lr (run_shl (c' := ((2 ^ k : Nat) : Int)) .const (.tmp rfl) (by omega) (shl10 ⟨k, hk⟩))) ?_
    refine .det (B := []) rfl rfl (.inl rfl) .nil .nil rfl (RunB.lr (run_or (c' := ((y ||| 2 ^ k : Nat) : Int)) (.tmp rfl) (.tmp rfl) (or_small (by omega) (by omega)))) ?_
    refine .det (B := []) rfl rfl (.inl rfl) .nil .nil rfl (RunB.lr (run_nilAt (.tmp rfl))) ?_
    refine .det (B := []) rfl rfl (.inl rfl) .nil .nil rfl (RunB.lr (run_fieldAddr (.tmp rfl) fa81_1 (by first | exact Nat.zero_add _ | exact rfl))) ?_
    refine .det (B := [(0, (_, _))]) rfl rfl (.inl rfl) .nil (.cons rfl .nil) rfl (lr_store1 (.tmp rfl) (.tmp rfl) rfl sz3 (by repeat (first | exact Put.done | apply Put.put | apply Put.skip))) ?_
    refine chain_nil (ts := [0]) (.cons rfl .nil) (by decide) ?_
    refine xw_end0 Try.results92 (fun w2 hS => ⟨(), trivial, rfl, tr_blk hS⟩)
def setOk (L : List SpotD) (k : Nat) (v : Value) (ok : Int → Bool) : List SpotD := L.set k ⟨(L.getD k default).lo, (L.getD k default).hi, v, ok⟩
theorem setOk_length (L : List SpotD) (k : Nat) (v : Value) (ok : Int → Bool) : (setOk L k v ok).length = L.length := by simp [setOk]
theorem setOk_erase (L : List SpotD) (k : Nat) (v : Value) (ok : Int → Bool) : (setOk L k v ok).map eraseS = setOk (L.map eraseS) k .nilFunc ok := by
  unfold setOk
  rw [List.map_set, getD_erase]
  rfl
theorem asked_erase (l : List SpanD) (v : Value) (ok : Int → Bool) : (askedL l v ok).map eraseS = askedL l .nilFunc ok := by simp [askedL, eraseS, Function.comp_def]
theorem wayL_set (l : List SpanD) (v1 v2 : Value) (ok1 ok2 : Int → Bool) (k : Nat) : wayL (setOk (askedL l v1 ok1) k v2 ok2) = wayL (setOk (askedL l .nilFunc ok1) k .nilFunc ok2) := by
  rw [← wayL_erase, setOk_erase, asked_erase, ← wayL_erase (setOk (askedL l .nilFunc ok1) k .nilFunc ok2), setOk_erase, asked_erase]
theorem wayL_set2 (l : List SpanD) (v1 v2 v3 : Value) (ok1 ok2 ok3 : Int → Bool) (k j : Nat) : wayL (setOk (setOk (askedL l v1 ok1) k v2 ok2) j v3 ok3) = wayL (setOk (setOk (askedL l .nilFunc ok1) k .nilFunc ok2) j .nilFunc ok3) := by
  rw [← wayL_erase, setOk_erase, setOk_erase, asked_erase, ← wayL_erase (setOk (setOk (askedL l .nilFunc ok1) k .nilFunc ok2) j .nilFunc ok3), setOk_erase, setOk_erase, asked_erase]
theorem spotsC_set : ∀ (L : List SpotD) (k : Nat) (v : Value) (ok : Int → Bool), k < L.length → (spotsC L).set (k * 3 + 2) v = spotsC (setOk L k v ok)
  | [], k, v, ok, h => absurd h (Nat.not_lt_zero k)
  | s :: r, 0, v, ok, _ => rfl
  | s :: r, k + 1, v, ok, h => by
    have ih := spotsC_set r k v ok (by simpa using h)
    rw [show (k + 1) * 3 + 2 = (k * 3 + 2) + 3 by omega]
    show spotC s ++ (spotsC r).set (k * 3 + 2) v = _
    rw [ih]
    rfl
theorem inrow_set {sz n cap : Nat} {cur xs : List Value} {j : Nat} {v : Value} (h : InRow sz n cap cur xs) (hj : j < n * sz) : InRow sz n cap (cur.set j v) (xs.set j v) := by
  obtain ⟨h1, h2, h3, h4⟩ := h
  refine ⟨h1, h2, by rw [List.length_set, h3], ?_⟩
  rw [List.take_set, h4]
theorem inrow_setOk {n cap : Nat} {cur : List Value} {L : List SpotD} {k : Nat} {v : Value} (ok : Int → Bool) (h : InRow 3 n cap cur (spotsC L)) (hn : L.length = n) (hk : k < n) : InRow 3 n cap (cur.set (k * 3 + 2) v) (spotsC (setOk L k v ok)) := by
  rw [← spotsC_set L k v ok (by omega)]
  exact inrow_set h (by omega)
theorem setOk_ok {L : List SpotD} {k : Nat} {v : Value} {ok : Int → Bool} {w : World} (hL : ∀ s ∈ L, SpotOk w s) (hk : k < L.length) (hv : PredAt w v ok InB) : ∀ s ∈ setOk L k v ok, SpotOk w s := fun s hs => by
  rcases List.mem_or_eq_of_mem_set hs with h | rfl
  · exact hL s h
  · have e : L.getD k default ∈ L := by rw [List.getD_eq_getElem?_getD, List.getElem?_eq_getElem hk]; exact List.getElem_mem hk
    exact ⟨(hL _ e).lo, (hL _ e).hi, hv⟩
/-- In some truth, or none, the furrow bends nowhere more than so much, and at a station as much. -/
def leadB (l : List SpanD) (st : Nat) (x : Int) : Bool := (wayL (setOk (askedL l .nilFunc (mostB x)) st .nilFunc (leastB x))).isSome
/-- .. by so much at most at a station, and by more at another one. -/
def lessB (l : List SpanD) (st ot : Nat) (x : Int) : Bool := (wayL (setOk (setOk (askedL l .nilFunc (leastB 0)) st .nilFunc (mostB x)) ot .nilFunc (leastB (x + 1)))).isSome
theorem wayN3 {n : Nat} (l : List SpotD) (hln : l.length = n) {r : Bool} (hr : (wayL l).isSome = r) (sa : Option Addr) (sc : Nat) (w : World) (hl : ∀ s ∈ l, SpotOk w s) (hp : SpotsAt w sa l) (hn : n ≤ 100) : Gives Try.prog 80 [.slice sa n sc] w (.bool r) :=
  (hasWayN l hln sa sc w hl hp hn).as (by rw [hr])
set_option maxRecDepth 100000 in
set_option maxHeartbeats 4000000 in
theorem lead1K {l : List SpanD} (hl : FineC l) (hn : l.length ≤ 100) (st : Nat) (h1 : 1 ≤ st) (h2 : st + 1 < l.length) (x : Int) (a : Option Addr) (c b1 b2 : Nat) (w : World) (hc : w.cell? ⟨b1, 0, none⟩ = some (.slice a l.length c)) (hs : w.cell? ⟨b2, 0, none⟩ = some (.int .i64 (st : Int))) (hq : SpansAt w a l) : Gives Try.prog 107 [.int .i64 x, ptrV b1, ptrV b2] w (.bool (leadB l st x)) := by
  refine .mk <| enter (n := 18) Try.func107 rfl rfl rfl (by repeat (first | exact Fill.nil | apply Fill.cons)) ?_
  have h3 : 3 ≤ l.length := by omega
  refine cw_seq ?_
  refine cw_region ?_
  refine lstepB rfl rfl rfl (run_assign .const) ?_
  refine lnil ?_
  refine xw_then ?_
  refine cw_seq ?_
  refine cw_chain2 (σ := [0, 1, 2, 3, 4]) [⟨0, [], [], [], 0⟩, ⟨0, [], [], [], 0⟩, ⟨1, [], [], [0], 2⟩, ⟨1, [], [], [1], 7⟩, ⟨0, [], [], [], 15⟩] [] (by kernel_rfl) (by kernel_rfl) rfl ?_
  refine .det (B := []) rfl rfl (.inl rfl) .nil .nil rfl (RunB.lr (run_load1_at (.tmp rfl) kd69 (fun w' hS => hS.old_cell (fun h => h) hc))) ?_
  refine .det (B := []) rfl rfl (.inl rfl) .nil .nil rfl (RunB.lr (run_move (.tmp rfl))) ?_
  refine .ext (B := fun q => [(0, (q, _))]) rfl rfl (.inl rfl) .nil .nil (fun _ => rfl) ⟨0, trivial⟩ (lr_gives cb82 (.cons (.tmp rfl) .nil) (fun w2 hS => make101K _ w2)) ?_
  intro gM _
  refine .ext (B := fun q => [(1, (q.1, _))]) rfl rfl (.inl rfl) .nil .nil (fun _ => rfl) (inrow_asked hn) (lr_gives cb81 (.cons (.tmp rfl) (.cons (.tmp rfl) .nil)) (fun w2 hS => asked_cons l _ _ _ (mostB x) a c w2 (by omega) hn (hq.kept hS.kept))) ?_
  rintro ⟨gS, cS, rS⟩ hS0
  refine .det (B := []) rfl rfl (.inl rfl) .nil .nil rfl (RunB.lr (run_assign (.tmp rfl))) ?_
  refine chain_nil (ts := [1, 0]) (.cons rfl (.cons rfl .nil)) (by decide) ?_
  have hrl : rS.length = cS * 3 := hS0.2.2.1
  have hrc : l.length ≤ cS := hS0.1
  dsimp only
  refine xw_then ?_
  refine cw_seq ?_
  refine cw_chain2 (σ := [0, 1, 2, 3, 4, 5, 6]) [⟨0, [], [], [], 0⟩, ⟨0, [], [], [], 0⟩, ⟨0, [], [], [], 0⟩, ⟨1, [], [], [2], 4⟩, ⟨0, [], [], [], 15⟩, ⟨0, [], [], [], 31⟩, ⟨0, [], [0], [0], 63⟩] [(0, _), (1, _)] (by kernel_rfl) (by kernel_rfl) rfl ?_
  refine .det (B := []) rfl rfl (.inl rfl) .nil .nil rfl (RunB.lr (run_move (.tmp rfl))) ?_
  refine .det (B := []) rfl rfl (.inl rfl) .nil .nil rfl (RunB.lr (run_load1_at (.tmp rfl) kd3 (fun w' hS => hS.old_cell (fun h => h) hs))) ?_
  refine .det (B := []) rfl rfl (.inl rfl) .nil .nil rfl (RunB.lr (run_move (.tmp rfl))) ?_
  refine .ext (B := fun q => [(2, (q, _))]) rfl rfl (.inl rfl) .nil .nil (fun _ => rfl) ⟨0, trivial⟩ (lr_gives cb108 (.cons (.tmp rfl) .nil) (fun w2 hS => make112K _ w2)) ?_
  intro gN _
  refine .det (B := []) rfl rfl (.inl rfl) .nil .nil rfl (RunB.lr (run_indexAddr (i := st) (off' := st * 3) (.tmp rfl) (.tmp rfl) el108 (by omega) (Nat.zero_add _))) ?_
  refine .det (B := []) rfl rfl (.inl rfl) .nil .nil rfl (RunB.lr (run_fieldAddr (.tmp rfl) fa124_1 rfl)) ?_
  refine .det (B := [(0, (_, _))]) rfl rfl (.inl rfl) .nil (.cons rfl .nil) rfl (lr_store1 (.tmp rfl) (.tmp rfl) rfl sz76 (put_set _ _ _ (by first | omega | (rw [List.length_set]; omega)))) ?_
  refine chain_nil (ts := [2, 0, 1]) (.cons rfl (.cons rfl (.cons rfl .nil))) (by decide) ?_
  refine xw_then ?_
  refine cw_seq ?_
  refine cw_region ?_
  refine lstepB rfl rfl rfl (run_move (.tmp rfl)) ?_
  refine lstepB rfl rfl rfl (run_call1 cb80 (.cons (.tmp rfl) .nil) (fun w2 hS => wayN3 (r := leadB l st x) _ (by rw [setOk_length, askedL_length]) (by rw [wayL_set]; rfl) _ _ w2 (setOk_ok (asked_ok hl (pred_most (m := x) (hS.cell (by repeat (first | exact List.Mem.head _ | apply List.Mem.tail)) rfl))) (by rw [askedL_length]; omega) (pred_least (m := x) (hS.cell (by repeat (first | exact List.Mem.head _ | apply List.Mem.tail)) rfl))) (spotsAt_row (hS.mem (by repeat (first | exact List.Mem.head _ | apply List.Mem.tail))) (inrow_setOk (leastB x) hS0 (askedL_length _ _ _) (by omega))) hn)) ?_
  refine lstepB rfl rfl rfl (run_assign (.tmp rfl)) ?_
  refine lnil ?_
  refine xw_then ?_
  refine cw_ret ?_
  refine xw_ret1 Try.results107 rfl (fun w hS => ⟨rfl, hS.kept⟩)
set_option maxRecDepth 100000 in
set_option maxHeartbeats 4000000 in
theorem less1K {l : List SpanD} (hl : FineC l) (hn : l.length ≤ 100) (st ot : Nat) (h1 : 1 ≤ st) (h2 : st + 1 < l.length) (g1 : 1 ≤ ot) (g2 : ot + 1 < l.length) (x : Int) (hx : InB x) (a : Option Addr) (c b1 b2 b3 : Nat) (w : World) (hc : w.cell? ⟨b1, 0, none⟩ = some (.slice a l.length c)) (hs : w.cell? ⟨b2, 0, none⟩ = some (.int .i64 (st : Int))) (ho : w.cell? ⟨b3, 0, none⟩ = some (.int .i64 (ot : Int))) (hq : SpansAt w a l) : Gives Try.prog 111 [.int .i64 x, ptrV b1, ptrV b2, ptrV b3] w (.bool (lessB l st ot x)) := by
  unfold InB at hx
  refine .mk <| enter (n := 25) Try.func111 rfl rfl rfl (by repeat (first | exact Fill.nil | apply Fill.cons)) ?_
  have h3 : 3 ≤ l.length := by omega
  refine cw_seq ?_
  refine cw_region ?_
  refine lstepB rfl rfl rfl (run_assign .const) ?_
  refine lnil ?_
  refine xw_then ?_
  refine cw_seq ?_
  refine cw_chain2 (σ := [0, 1, 2, 3]) [⟨0, [], [], [], 0⟩, ⟨1, [], [], [0], 0⟩, ⟨1, [], [], [1], 3⟩, ⟨0, [], [], [], 7⟩] [] (by kernel_rfl) (by kernel_rfl) rfl ?_
  refine .det (B := []) rfl rfl (.inl rfl) .nil .nil rfl (RunB.lr (run_load1_at (.tmp rfl) kd69 (fun w' hS => hS.old_cell (fun h => h) hc))) ?_
  refine .ext (B := fun q => [(0, (q, _))]) rfl rfl (.inl rfl) .nil .nil (fun _ => rfl) ⟨0, trivial⟩ (lr_gives cb108 (.cons .const .nil) (fun w2 hS => make112K _ w2)) ?_
  intro gM _
  refine .ext (B := fun q => [(1, (q.1, _))]) rfl rfl (.inl rfl) .nil .nil (fun _ => rfl) (inrow_asked hn) (lr_gives cb81 (.cons (.tmp rfl) (.cons (.tmp rfl) .nil)) (fun w2 hS => asked_cons l _ _ _ (leastB 0) a c w2 (by omega) hn (hq.kept hS.kept))) ?_
  rintro ⟨gS, cS, rS⟩ hS0
  refine .det (B := []) rfl rfl (.inl rfl) .nil .nil rfl (RunB.lr (run_assign (.tmp rfl))) ?_
  refine chain_nil (ts := [1, 0]) (.cons rfl (.cons rfl .nil)) (by decide) ?_
  have hrl : rS.length = cS * 3 := hS0.2.2.1
  have hrc : l.length ≤ cS := hS0.1
  dsimp only
  refine xw_then ?_
  refine cw_seq ?_
  refine cw_chain2 (σ := [0, 1, 2, 3, 4, 5, 6]) [⟨0, [], [], [], 0⟩, ⟨0, [], [], [], 0⟩, ⟨0, [], [], [], 0⟩, ⟨1, [], [], [2], 4⟩, ⟨0, [], [], [], 15⟩, ⟨0, [], [], [], 31⟩, ⟨0, [], [0], [0], 63⟩] [(0, _), (1, _)] (by kernel_rfl) (by kernel_rfl) rfl ?_
  refine .det (B := []) rfl rfl (.inl rfl) .nil .nil rfl (RunB.lr (run_move (.tmp rfl))) ?_
  refine .det (B := []) rfl rfl (.inl rfl) .nil .nil rfl (RunB.lr (run_load1_at (.tmp rfl) kd3 (fun w' hS => hS.old_cell (fun h => h) hs))) ?_
  refine .det (B := []) rfl rfl (.inl rfl) .nil .nil rfl (RunB.lr (run_move (.tmp rfl))) ?_
  refine .ext (B := fun q => [(2, (q, _))]) rfl rfl (.inl rfl) .nil .nil (fun _ => rfl) ⟨0, trivial⟩ (lr_gives cb82 (.cons (.tmp rfl) .nil) (fun w2 hS => make101K _ w2)) ?_
  intro gN _
  refine .det (B := []) rfl rfl (.inl rfl) .nil .nil rfl (RunB.lr (run_indexAddr (i := st) (off' := st * 3) (.tmp rfl) (.tmp rfl) el108 (by omega) (Nat.zero_add _))) ?_
  refine .det (B := []) rfl rfl (.inl rfl) .nil .nil rfl (RunB.lr (run_fieldAddr (.tmp rfl) fa124_1 rfl)) ?_
  refine .det (B := [(0, (_, _))]) rfl rfl (.inl rfl) .nil (.cons rfl .nil) rfl (lr_store1 (.tmp rfl) (.tmp rfl) rfl sz76 (put_set _ _ _ (by first | omega | (rw [List.length_set]; omega)))) ?_
  refine chain_nil (ts := [2, 0, 1]) (.cons rfl (.cons rfl (.cons rfl .nil))) (by decide) ?_
  refine xw_then ?_
  refine cw_seq ?_
  refine cw_chain2 (σ := [0, 1, 2, 3, 4, 5, 6, 7]) [⟨0, [], [], [], 0⟩, ⟨0, [], [], [], 0⟩, ⟨0, [], [], [], 0⟩, ⟨0, [], [], [], 4⟩, ⟨1, [], [], [3], 12⟩, ⟨0, [], [], [], 31⟩, ⟨0, [], [], [], 63⟩, ⟨0, [], [1], [1], 127⟩] [(0, _), (1, _), (2, _)] (by kernel_rfl) (by kernel_rfl) rfl ?_
  refine .det (B := []) rfl rfl (.inl rfl) .nil .nil rfl (RunB.lr (run_move (.tmp rfl))) ?_
  refine .det (B := []) rfl rfl (.inl rfl) .nil .nil rfl (RunB.lr (run_load1_at (.tmp rfl) kd3 (fun w' hS => hS.old_cell (fun h => h) ho))) ?_
  refine .det (B := []) rfl rfl (.inl rfl) .nil .nil rfl (RunB.lr (run_move (.tmp rfl))) ?_
  refine .det (B := []) rfl rfl (.inl rfl) .nil .nil rfl (RunB.lr (run_add (.tmp rfl) .const (by first | exact IntWalk.i64_in _ (by omega) | exact rfl))) ?_
  refine .ext (B := fun q => [(3, (q, _))]) rfl rfl (.inl rfl) .nil .nil (fun _ => rfl) ⟨0, trivial⟩ (lr_gives cb108 (.cons (.tmp rfl) .nil) (fun w2 hS => make112K _ w2)) ?_
  intro gO _
  refine .det (B := []) rfl rfl (.inl rfl) .nil .nil rfl (RunB.lr (run_indexAddr (i := ot) (off' := ot * 3) (.tmp rfl) (.tmp rfl) el108 (by omega) (Nat.zero_add _))) ?_
  refine .det (B := []) rfl rfl (.inl rfl) .nil .nil rfl (RunB.lr (run_fieldAddr (.tmp rfl) fa124_1 rfl)) ?_
  refine .det (B := [(1, (_, _))]) rfl rfl (.inl rfl) .nil (.cons rfl .nil) rfl (lr_store1 (.tmp rfl) (.tmp rfl) rfl sz76 (put_set _ _ _ (by first | omega | (rw [List.length_set]; omega)))) ?_
  refine chain_nil (ts := [3, 0, 1, 2]) (.cons rfl (.cons rfl (.cons rfl (.cons rfl .nil)))) (by decide) ?_
  refine xw_then ?_
  refine cw_seq ?_
  refine cw_region ?_
  refine lstepB rfl rfl rfl (run_move (.tmp rfl)) ?_
  refine lstepB rfl rfl rfl (run_call1 cb80 (.cons (.tmp rfl) .nil) (fun w2 hS => wayN3 (r := lessB l st ot x) _ (by rw [setOk_length, setOk_length, askedL_length]) (by rw [wayL_set2]; rfl) _ _ w2 (setOk_ok (setOk_ok (asked_ok hl (pred_least (m := 0) (hS.cell (b := gM) (by repeat (first | exact List.Mem.head _ | apply List.Mem.tail)) rfl))) (by rw [askedL_length]; omega) (pred_most (m := x) (hS.cell (b := gN) (by repeat (first | exact List.Mem.head _ | apply List.Mem.tail)) rfl))) (by rw [setOk_length, askedL_length]; omega) (pred_least (m := x + 1) (hS.cell (b := gO) (by repeat (first | exact List.Mem.head _ | apply List.Mem.tail)) rfl))) (spotsAt_row (hS.mem (b := gS) (by repeat (first | exact List.Mem.head _ | apply List.Mem.tail))) (inrow_setOk (leastB (x + 1)) (inrow_setOk (mostB x) hS0 (askedL_length _ _ _) (by omega)) (by rw [setOk_length, askedL_length]) (by omega))) hn)) ?_
  refine lstepB rfl rfl rfl (run_assign (.tmp rfl)) ?_
  refine lnil ?_
  refine xw_then ?_
  refine cw_ret ?_
  refine xw_ret1 Try.results111 rfl (fun w hS => ⟨rfl, hS.kept⟩)
end Go.Proofs.Ytjdeplehhmhpcaa
