/- Furrow: FurrowWorst's walk. -/
import Derived.Test.YtjdeplehhmhpcaaGG
namespace Go.Proofs.Ytjdeplehhmhpcaa
open Go.RowKit En

section
variable {P : Program} {E : Env} {w0 : World} {T : Nat → Prop} {H : Heap} {x y : Operand} {d : Option Tmp} {t tx ty tyy : TypeId} {pos : String} {af : Array Edge} {gd : Option (Nat × Bool)}
theorem run_andNot {k : IntKind} {a c c' : Int} (hx : Ev E x (.int k a)) (hy : Ev E y (.int k c)) (h : k.wrap ((BitVec.ofInt k.bits a &&& ~~~ BitVec.ofInt k.bits c).toNat) = c') : RunB P E w0 T H ⟨d, .binOp .andNot tx x y tyy, ty, pos, af, gd⟩ (.int k c') := fun ρ w hρ hS => by
  refine doneO rfl ?_
  have e1 := hρ x _ (by simp [Op.operands]) hx
  have e2 := hρ y _ (by simp [Op.operands]) hy
  subst h
  simp [execOp, e1, e2, Done, go_sem, eqGuard, binOp, Op.intBits, Below.refl]
theorem run_shr {yk : IntKind} {a z : Nat} (hx : Ev E x (.int .i64 (a : Int))) (hy : Ev E y (.int yk (z : Int))) (hz : z ≤ 64) : RunB P E w0 T H ⟨d, .binOp .shr tx x y tyy, ty, pos, af, gd⟩ (.int .i64 ((a / 2 ^ z : Nat) : Int)) := fun ρ w hρ hS => by
  refine doneO rfl ?_
  have e1 := hρ x _ (by simp [Op.operands]) hx
  have e2 := hρ y _ (by simp [Op.operands]) hy
  have h0 : ¬ ((z : Int) < 0) := by omega
  have h1 : min z 64 = z := by omega
  obtain ⟨q, hq⟩ : ∃ q, a / 2 ^ z = q := ⟨_, rfl⟩
  have h2 : Int.fdiv (a : Int) (2 ^ z) = (q : Int) := by
    rw [← hq, Int.ofNat_fdiv]; simp
  have h3 : (a : Int) / 2 ^ z = (q : Int) := by rw [← hq]; simp
  rw [hq]
  simp [execOp, e1, e2, Done, go_sem, eqGuard, binOp, Op.shift, h0, h1, h2, h3, IntKind.bits, Below.refl]
end
theorem andNot_zero {a b : Nat} (ha : a < 2 ^ 32) (hb : b < 2 ^ 32) (h : ∀ j, a.testBit j = true → b.testBit j = true) : IntKind.i64.wrap ((BitVec.ofInt IntKind.i64.bits (a : Int) &&& ~~~ BitVec.ofInt IntKind.i64.bits (b : Int)).toNat) = 0 := by
  show IntKind.i64.wrap ((BitVec.ofInt 64 (a : Int) &&& ~~~ BitVec.ofInt 64 (b : Int)).toNat : Int) = _
  have h1 : BitVec.ofInt 64 (a : Int) = BitVec.ofNat 64 a := BitVec.ofInt_natCast ..
  have h2 : BitVec.ofInt 64 (b : Int) = BitVec.ofNat 64 b := BitVec.ofInt_natCast ..
  have h3 : BitVec.ofNat 64 a &&& ~~~ BitVec.ofNat 64 b = 0#64 := by
    apply BitVec.eq_of_getLsbD_eq
    intro i hi
    simp only [BitVec.getLsbD_and, BitVec.getLsbD_not, BitVec.getLsbD_ofNat, BitVec.getLsbD_zero]
    cases hj : a.testBit i
    · simp
    · simp [h i hj, hi]
  rw [h1, h2, h3]
  exact IntWalk.i64_in _ (by simp)
theorem and_one {a : Nat} (ha : a < 2 ^ 32) : IntKind.i64.wrap ((BitVec.ofInt IntKind.i64.bits (a : Int) &&& BitVec.ofInt IntKind.i64.bits 1).toNat) = ((a % 2 : Nat) : Int) := by
  show IntKind.i64.wrap ((BitVec.ofInt 64 (a : Int) &&& BitVec.ofInt 64 1).toNat : Int) = _
  have h1 : BitVec.ofInt 64 (a : Int) = BitVec.ofNat 64 a := BitVec.ofInt_natCast ..
  have h2 : BitVec.ofInt 64 1 = BitVec.ofNat 64 1 := rfl
  rw [h1, h2, BitVec.toNat_and, BitVec.toNat_ofNat, BitVec.toNat_ofNat, Nat.mod_eq_of_lt (by omega), Nat.mod_eq_of_lt (by omega), Nat.and_one_is_mod]
  exact IntWalk.i64_in _ (by omega)
/-- A bit of a set, as a program asks for it. -/
def bitN (a k : Nat) : Nat := a / 2 ^ k % 2
theorem bitN_iff {a k : Nat} : bitN a k = 1 ↔ a.testBit k = true := by unfold bitN; rw [Nat.testBit_eq_decide_div_mod_eq, decide_eq_true_eq]
theorem bitN_zero {a k : Nat} : bitN a k = 0 ↔ a.testBit k = false := by
  rw [← Bool.not_eq_true, ← bitN_iff]
  have : bitN a k < 2 := Nat.mod_lt _ (by omega)
  omega
theorem inner_size : ∀ m : Fin 7, sizeN (innerN m.1) = 1 → m.1 = 1 := by decide +kernel
theorem nat_bits {a b : Nat} (h : ∀ j, a.testBit j = b.testBit j) : a = b := Nat.eq_of_testBit_eq h
theorem inner_bit {l : List SpanD} {j : Nat} : (innerN (l.length - 2)).testBit j = true ↔ Inner l j := by
  rw [innerN_bit, decide_eq_true_eq]
  unfold Inner
  omega
set_option maxRecDepth 100000 in
set_option maxHeartbeats 4000000 in
theorem furrowWorst_any (f : FurrowD) (oa wa da : Option Addr) (oc wc dc : Nat) (ba : Option Addr) (m : List Int) (bc : Nat) (w : World) (hbnd : f.offs.length ≤ 9223372036854775807 ∧ f.wids.length ≤ 9223372036854775807 ∧ f.deps.length ≤ 9223372036854775807) (hf : FurrowAt w f oa wa da) (hby : U8At w ba m) (hbm : m.length ≤ 9223372036854775807) : Gives Try.prog 9 [furrowV f oa wa da oc wc dc, .slice ba m.length bc] w (.bool true) := by
  cases hh : heavyB f 8 6
  ·
    have h40 : ¬ 40 < lenM f := fun h => by unfold heavyB at hh; rw [if_pos h] at hh; cases hh
    have hm := lenM_lens h40
    cases hv : validB f
    ·
      refine .mk <| enter (n := 229) Try.func9 rfl rfl rfl (by repeat (first | exact Fill.nil | apply Fill.cons)) ?_
      refine cw_seq ?_
      refine cw_region ?_
      refine lstep rfl rfl rfl (run_boxN (.tmp rfl)) ?_
      intro b2 _
      refine lstepB rfl rfl rfl (run_assign .const) ?_
      refine lnil ?_
      refine xw_then ?_
      refine cw_seq ?_
      refine cw_seq ?_
      refine cw_region ?_
      refine lstepB rfl rfl rfl (run_loadN (.tmp rfl) kd24 sz24 (by repeat (first | exact List.Mem.head _ | apply List.Mem.tail)) (by repeat (first | exact Sub.done | apply Sub.take | apply Sub.skip))) ?_
      refine lstepB rfl rfl rfl (run_call1 cb12 (.cons (.tmp rfl) (.cons .const (.cons .const .nil))) (fun w2 hS => (heavyK f oa wa da oc wc dc 8 6 w2 hbnd (hf.kept hS.kept)).as (congrArg Value.bool hh))) ?_
      refine lstepB rfl rfl rfl (run_move (.tmp rfl)) ?_
      refine lyes rfl rfl rfl rfl ?_
      refine gstepB rfl rfl (run_loadN (.tmp rfl) kd24 sz24 (by repeat (first | exact List.Mem.head _ | apply List.Mem.tail)) (by repeat (first | exact Sub.done | apply Sub.take | apply Sub.skip))) ?_
      refine lyes rfl rfl rfl rfl ?_
      refine gstepB rfl rfl (run_call1 cb35 (.cons (.tmp rfl) .nil) (fun w2 hS => (rFurrowK f oa wa da oc wc dc w2 hm (hf.kept hS.kept)).as (congrArg Value.bool hv))) ?_
      refine lyes rfl rfl rfl rfl ?_
      refine gstepB rfl rfl (run_not (.tmp rfl) (by first | exact Bool.not_true | exact Bool.not_false | exact rfl)) ?_
      refine lstepB rfl rfl rfl (by first | exact run_pick_true (.tmp rfl) .const | exact run_pick_false (.tmp rfl) (.tmp rfl)) ?_
      refine lnil ?_
      refine xw_then ?_
      refine cw_cond_true (.tmp rfl) ?_
      refine cw_seq ?_
      refine cw_region ?_
      refine lstepB rfl rfl rfl (run_call1 cb13 .nil (fun w _ => aliveK w)) ?_
      refine lstepB rfl rfl rfl (run_assign (.tmp rfl)) ?_
      refine lnil ?_
      refine xw_then ?_
      refine cw_ret ?_
      refine xw_then_ret ?_
      refine xw_ret1 Try.results9 rfl (fun w hS => ⟨rfl, hS.kept⟩)
    ·
      have hvf := validF hv
      have hfine := hvf.fine
      have hn8 := hvf.len
      have hbi := bendT_in hvf
      have hws := worstN_small f.offs (k := f.offs.length - 2) (by omega)
      have hil := innerN_lt (f.offs.length - 2)
      have hip : 2 ^ (f.offs.length - 2 + 1) ≤ 256 := Nat.pow_le_pow_right (n := 2) (by omega) (show f.offs.length - 2 + 1 ≤ 8 by omega)
      have hsub1 : ∀ j, (sureN f.offs).testBit j = true → (canN f.offs).testBit j = true := fun j h => by
        obtain ⟨h1, h2⟩ := (sure_bit hfine).1 h
        exact (can_bit hfine).2 ⟨h1, _, lowT_inn hfine, fun k hk => h2 _ (lowT_inn hfine) k hk⟩
      have hsub2 : ∀ j, (canN f.offs).testBit j = true → (innerN (f.offs.length - 2)).testBit j = true := fun j h => inner_bit.2 ((can_bit hfine).1 h).1
      have hz : ((canN f.offs : Nat) : Int) = 0 ↔ ((innerN (f.offs.length - 2) : Nat) : Int) = 0 := by
        constructor
        · intro h
          rcases Nat.lt_or_ge f.offs.length 3 with h3 | h3
          · rw [show f.offs.length - 2 = 0 by omega]; rfl
          · exfalso
            obtain ⟨k, hk, e⟩ := some_leads (lowT_inn hfine).1 h3
            have hb := (can_bit hfine).2 ⟨hk, _, lowT_inn hfine, fun j hj => by rw [e]; exact mostT_ge (lowT_inn hfine).1 hj⟩
            rw [show canN f.offs = 0 by omega] at hb
            simp at hb
        · intro h
          have : canN f.offs = 0 := nat_bits fun j => by
            cases hb : (canN f.offs).testBit j
            · simp
            · have := hsub2 j hb
              rw [show innerN (f.offs.length - 2) = 0 by omega] at this
              simp at this
          omega
      have hzB : (!(decide (((canN f.offs : Nat) : Int) = 0) == decide (((innerN (f.offs.length - 2) : Nat) : Int) = 0))) = false := by
        by_cases h : ((canN f.offs : Nat) : Int) = 0
        · rw [decide_eq_true h, decide_eq_true (hz.1 h)]; rfl
        · rw [decide_eq_false h, decide_eq_false (fun e => h (hz.2 e))]; rfl
      have hsize : ((sizeN (innerN (f.offs.length - 2)) : Nat) : Int) = 1 → sureN f.offs = innerN (f.offs.length - 2) := fun h => by
        have h1 := inner_size ⟨f.offs.length - 2, by omega⟩ (show sizeN (innerN (f.offs.length - 2)) = 1 by omega)
        simp only at h1
        refine nat_bits fun j => ?_
        rw [Bool.eq_iff_iff, sure_bit hfine, inner_bit]
        constructor
        · exact fun h => h.1
        · intro hj
          refine ⟨hj, fun t ht k hk => ?_⟩
          have e1 := hj.1
          have e2 := hj.2
          have e3 := hk.1
          have e4 := hk.2
          rw [show k = j by omega]
          exact Int.le_refl _
      refine .mk <| enter (n := 229) Try.func9 rfl rfl rfl (by repeat (first | exact Fill.nil | apply Fill.cons)) ?_
      refine cw_seq ?_
      refine cw_region ?_
      refine lstep rfl rfl rfl (run_boxN (.tmp rfl)) ?_
      intro b2 _
      refine lstepB rfl rfl rfl (run_assign .const) ?_
      refine lnil ?_
      refine xw_then ?_
      refine cw_seq ?_
      refine cw_seq ?_
      refine cw_region ?_
      refine lstepB rfl rfl rfl (run_loadN (.tmp rfl) kd24 sz24 (by repeat (first | exact List.Mem.head _ | apply List.Mem.tail)) (by repeat (first | exact Sub.done | apply Sub.take | apply Sub.skip))) ?_
      refine lstepB rfl rfl rfl (run_call1 cb12 (.cons (.tmp rfl) (.cons .const (.cons .const .nil))) (fun w2 hS => (heavyK f oa wa da oc wc dc 8 6 w2 hbnd (hf.kept hS.kept)).as (congrArg Value.bool hh))) ?_
      refine lstepB rfl rfl rfl (run_move (.tmp rfl)) ?_
      refine lyes rfl rfl rfl rfl ?_
      refine gstepB rfl rfl (run_loadN (.tmp rfl) kd24 sz24 (by repeat (first | exact List.Mem.head _ | apply List.Mem.tail)) (by repeat (first | exact Sub.done | apply Sub.take | apply Sub.skip))) ?_
      refine lyes rfl rfl rfl rfl ?_
      refine gstepB rfl rfl (run_call1 cb35 (.cons (.tmp rfl) .nil) (fun w2 hS => (rFurrowK f oa wa da oc wc dc w2 hm (hf.kept hS.kept)).as (congrArg Value.bool hv))) ?_
      refine lyes rfl rfl rfl rfl ?_
      refine gstepB rfl rfl (run_not (.tmp rfl) (by first | exact Bool.not_true | exact Bool.not_false | exact rfl)) ?_
      refine lstepB rfl rfl rfl (by first | exact run_pick_true (.tmp rfl) .const | exact run_pick_false (.tmp rfl) (.tmp rfl)) ?_
      refine lnil ?_
      refine xw_then ?_
      refine cw_cond_false (.tmp rfl) ?_
      refine cw_skip ?_
      refine xw_then ?_
      refine cw_seq ?_
      refine cw_region ?_
      refine lstepB rfl rfl rfl (run_loadN (.tmp rfl) kd24 sz24 (by repeat (first | exact List.Mem.head _ | apply List.Mem.tail)) (by repeat (first | exact Sub.done | apply Sub.take | apply Sub.skip))) ?_
      refine lstepB rfl rfl rfl (run_call1 cb20 (.cons (.tmp rfl) .nil) (fun w2 hS => (worstQ f oa wa da oc wc dc w2 hm (hf.kept hS.kept)).as (show _ = Value.tuple #[.int .i64 ((sureN f.offs : Nat) : Int), .int .i64 ((canN f.offs : Nat) : Int), .int .i64 0] from by rw [show worstR f = (worstN f.offs (f.offs.length - 2), 0) by unfold worstR; rw [hv]; rfl]))) ?_
      refine lstepB rfl rfl rfl (run_move (.tmp rfl)) ?_
      refine lstepB rfl rfl rfl (run_extract (.tmp rfl) rfl) ?_
      refine lstepB rfl rfl rfl (run_extract (.tmp rfl) rfl) ?_
      refine lstepB rfl rfl rfl (run_extract (.tmp rfl) rfl) ?_
      refine lstepB rfl rfl rfl (run_assign (.tmp rfl)) ?_
      refine lstepB rfl rfl rfl (run_assign (.tmp rfl)) ?_
      refine lstepB rfl rfl rfl (run_assign (.tmp rfl)) ?_
      refine lnil ?_
      refine xw_then ?_
      refine cw_seq ?_
      refine cw_region ?_
      refine lstepB rfl rfl rfl (run_loadN (.tmp rfl) kd24 sz24 (by repeat (first | exact List.Mem.head _ | apply List.Mem.tail)) (by repeat (first | exact Sub.done | apply Sub.take | apply Sub.skip))) ?_
      refine lstepB rfl rfl rfl (run_call1 cb14 (.cons (.tmp rfl) .nil) (fun w2 hS => (bendQ f oa wa da oc wc dc w2 hm (hf.kept hS.kept)).as (show _ = Value.tuple #[spanV (bendT f.offs), .int .i64 0] from by rw [show bendR f = (bendT f.offs, 0) by unfold bendR; rw [hv]; rfl]))) ?_
      refine lstepB rfl rfl rfl (run_move (.tmp rfl)) ?_
      refine lstepB rfl rfl rfl (run_extract (.tmp rfl) rfl) ?_
      refine lstepB rfl rfl rfl (run_extract (.tmp rfl) rfl) ?_
      refine lstep rfl rfl rfl (run_alloc zr28) ?_
      intro b8 _
      refine lstep0 rfl rfl (run_storeN (.tmp rfl) (.tmp rfl) rfl sz28 rfl (by repeat (first | exact Upd.here | apply Upd.there)) (by repeat (first | exact Put.done | apply Put.put | apply Put.skip))) ?_
      refine lstepB rfl rfl rfl (run_assign (.tmp rfl)) ?_
      refine lnil ?_
      refine xw_then ?_
      refine cw_seq ?_
      refine cw_region ?_
      refine lstepB rfl rfl rfl (run_fieldAddr (.tmp rfl) fa24_0 (by first | exact Nat.zero_add _ | exact rfl)) ?_
      refine lstepB rfl rfl rfl (run_load1 (.tmp rfl) kd22 (by repeat (first | exact List.Mem.head _ | apply List.Mem.tail)) (by exact rfl)) ?_
      refine lstepB rfl rfl rfl (run_len (.tmp rfl) sl22) ?_
      refine lstepB rfl rfl rfl (run_assign (.tmp rfl)) ?_
      refine lnil ?_
      refine xw_then ?_
      refine cw_seq ?_
      refine cw_region ?_
      refine lstepB rfl rfl rfl (run_assign .const) ?_
      refine lnil ?_
      refine xw_then ?_
      refine cw_seq ?_
      refine cw_seq ?_
      refine cw_region ?_
      refine lstepB rfl rfl rfl (run_assign .const) ?_
      refine lnil ?_
      refine xw_then ?_
      refine cw_block ?_
      refine cw_loop (S := Nat) (fun k => [(12, .int .i64 ((k + 1 : Nat) : Int)), (11, .int .i64 ((innerN k : Nat) : Int))]) [(1, _), (2, _), (5, _), (6, _), (7, _), (8, _), (9, _), (10, _)] (fun k => (b8, Obj.cells (spanC (bendT f.offs)).toArray 28 (0, 0)) :: (b2, Obj.cells (furrowC f oa wa da oc wc dc).toArray 24 (0, 0)) :: []) (fun k => k ≤ f.offs.length - 2) (fun k => f.offs.length - k) 0 (Nat.zero_le _) (by repeat (first | exact Less.nil | refine Less.cons rfl ?_)) (by repeat (first | exact Pick.nil | (apply Pick.cons; focus (repeat (first | exact Del.here | apply Del.there))))) ?_
      intro k hk
      refine cw_seq ?_
      refine cw_seq ?_
      refine cw_region ?_
      refine lstepB rfl rfl rfl (run_move (.tmp rfl)) ?_
      refine lstepB rfl rfl rfl (run_add (c := ((k + 2 : Nat) : Int)) (.tmp rfl) .const (by rw [show ((k + 2 : Nat) : Int) = ((k + 1 : Nat) : Int) + 1 by omega]; exact IntWalk.i64_in _ (by omega))) ?_
      refine lstepB rfl rfl rfl (run_move (.tmp rfl)) ?_
      refine lstepB rfl rfl rfl (run_lss (.tmp rfl) (.tmp rfl) rfl) ?_
      refine lnil ?_
      refine xw_then ?_
      refine cw_cond_p (.tmp rfl) (fun hl => ?_) (fun hl => ?_)
      ·
        have hshl := shl10 ⟨k + 1, by omega⟩
        have hp10 := pow10 ⟨k + 1, by omega⟩
        simp only at hshl hp10
        have hik := innerN_lt k
        refine cw_skip ?_
        refine xw_then ?_
        refine cw_seq ?_
        refine cw_block ?_
        refine cw_region ?_
        refine lstepB rfl rfl rfl (run_move (.tmp rfl)) ?_
        refine lstepB rfl rfl rfl (run_move (.tmp rfl)) ?_
        refine lstepB rfl rfl rfl (run_shl (c' := ((2 ^ (k + 1) : Nat) : Int)) .const (.tmp rfl) (by omega) hshl) ?_
        refine lstepB rfl rfl rfl (run_or (c' := ((innerN (k + 1) : Nat) : Int)) (.tmp rfl) (.tmp rfl) (or_small (by omega) (by omega))) ?_
        refine lstepB rfl rfl rfl (run_assign (.tmp rfl)) ?_
        refine lnil ?_
        refine xw_in ?_
        refine xw_then ?_
        refine cw_region ?_
        refine lstepB rfl rfl rfl (run_move (.tmp rfl)) ?_
        refine lstepB rfl rfl rfl (run_add (c := ((k + 1 + 1 : Nat) : Int)) (.tmp rfl) .const (by rw [show ((k + 1 + 1 : Nat) : Int) = ((k + 1 : Nat) : Int) + 1 by omega]; exact IntWalk.i64_in _ (by omega))) ?_
        refine lstepB rfl rfl rfl (run_assign (.tmp rfl)) ?_
        refine lnil ?_
        exact xw_round (k + 1) (by show k + 1 ≤ _; omega) (by show f.offs.length - (k + 1) < f.offs.length - k; omega) (by repeat (first | exact Less.nil | refine Less.cons rfl ?_)) (by repeat (first | exact Pick.nil | (apply Pick.cons; focus (repeat (first | exact Del.here | apply Del.there)))))
      ·
        obtain rfl : k = f.offs.length - 2 := by omega
        by_cases hs1 : ((sizeN (innerN (f.offs.length - 2)) : Nat) : Int) = 1
        ·
          refine cw_exit ?_
          refine xw_then_exit ?_
          refine xw_then_exit ?_
          refine xw_in_exit ?_
          refine xw_then ?_
          refine cw_seq ?_
          refine cw_seq ?_
          refine cw_region ?_
          refine lstepB rfl rfl rfl (run_move (.tmp rfl)) ?_
          refine lstepB rfl rfl rfl (run_neq (.tmp rfl) .const (by first | exact decide_eq_true (by omega) | exact decide_eq_false (by omega) | exact rfl)) ?_
          refine lstepB rfl rfl rfl (run_move (.tmp rfl)) ?_
          refine lyes rfl rfl rfl rfl ?_
          refine gstepB rfl rfl (run_move (.tmp rfl)) ?_
          refine lyes rfl rfl rfl rfl ?_
          refine gstepB rfl rfl (run_neq (.tmp rfl) .const (by first | exact decide_eq_true (by omega) | exact decide_eq_false (by omega) | exact rfl)) ?_
          refine lstepB rfl rfl rfl (by first | exact run_pick_true (.tmp rfl) .const | exact run_pick_false (.tmp rfl) (.tmp rfl)) ?_
          refine lstepB rfl rfl rfl (run_move (.tmp rfl)) ?_
          refine lyes rfl rfl rfl rfl ?_
          refine gstepB rfl rfl (run_move (.tmp rfl)) ?_
          refine lyes rfl rfl rfl rfl ?_
          refine gstepB rfl rfl (run_move (.tmp rfl)) ?_
          refine lyes rfl rfl rfl rfl ?_
          refine gstepB rfl rfl (run_andNot (.tmp rfl) (.tmp rfl) (andNot_zero hws.1 hws.2 hsub1)) ?_
          refine lyes rfl rfl rfl rfl ?_
          refine gstepB rfl rfl (run_neq (.tmp rfl) .const (by first | exact decide_eq_true (by omega) | exact decide_eq_false (by omega) | exact rfl)) ?_
          refine lstepB rfl rfl rfl (by first | exact run_pick_true (.tmp rfl) .const | exact run_pick_false (.tmp rfl) (.tmp rfl)) ?_
          refine lstepB rfl rfl rfl (run_move (.tmp rfl)) ?_
          refine lyes rfl rfl rfl rfl ?_
          refine gstepB rfl rfl (run_move (.tmp rfl)) ?_
          refine lyes rfl rfl rfl rfl ?_
          refine gstepB rfl rfl (run_move (.tmp rfl)) ?_
          refine lyes rfl rfl rfl rfl ?_
          refine gstepB rfl rfl (run_andNot (.tmp rfl) (.tmp rfl) (andNot_zero hws.2 (by omega) hsub2)) ?_
          refine lyes rfl rfl rfl rfl ?_
          refine gstepB rfl rfl (run_neq (.tmp rfl) .const (by first | exact decide_eq_true (by omega) | exact decide_eq_false (by omega) | exact rfl)) ?_
          refine lstepB rfl rfl rfl (by first | exact run_pick_true (.tmp rfl) .const | exact run_pick_false (.tmp rfl) (.tmp rfl)) ?_
          refine lstepB rfl rfl rfl (run_move (.tmp rfl)) ?_
          refine lyes rfl rfl rfl rfl ?_
          refine gstepB rfl rfl (run_move (.tmp rfl)) ?_
          refine lyes rfl rfl rfl rfl ?_
          refine gstepB rfl rfl (run_eql (.tmp rfl) .const rfl) ?_
          refine lyes rfl rfl rfl rfl ?_
          refine gstepB rfl rfl (run_move (.tmp rfl)) ?_
          refine lyes rfl rfl rfl rfl ?_
          refine gstepB rfl rfl (run_eql (.tmp rfl) .const rfl) ?_
          refine lyes rfl rfl rfl rfl ?_
          refine gstepB rfl rfl (En.run_neq_bool (.tmp rfl) (.tmp rfl) bl4 hzB) ?_
          refine lstepB rfl rfl rfl (by first | exact run_pick_true (.tmp rfl) .const | exact run_pick_false (.tmp rfl) (.tmp rfl)) ?_
          refine lstepB rfl rfl rfl (run_move (.tmp rfl)) ?_
          refine lyes rfl rfl rfl rfl ?_
          refine gstepB rfl rfl (run_move (.tmp rfl)) ?_
          refine lyes rfl rfl rfl rfl ?_
          refine gstepB rfl rfl (run_call1 cb36 (.cons (.tmp rfl) .nil) (fun w2 _ => sizeK _ (by omega) w2)) ?_
          refine lyes rfl rfl rfl rfl ?_
          refine gstepB rfl rfl (run_eql (.tmp rfl) .const (decide_eq_true hs1)) ?_
          refine lyes rfl rfl rfl rfl ?_
          refine gstepB rfl rfl (run_move (.tmp rfl)) ?_
          refine lyes rfl rfl rfl rfl ?_
          refine gstepB rfl rfl (run_move (.tmp rfl)) ?_
          refine lyes rfl rfl rfl rfl ?_
          refine gstepB rfl rfl (run_move (.tmp rfl)) ?_
          refine lyes rfl rfl rfl rfl ?_
          refine gstepB rfl rfl (run_neq (.tmp rfl) (.tmp rfl) (decide_eq_false (by rw [hsize hs1]; simp))) ?_
          refine lyes rfl rfl rfl rfl ?_
          refine gstepB rfl rfl (by first | exact run_pick_true (.tmp rfl) (.tmp rfl) | exact run_pick_false (.tmp rfl) .const) ?_
          refine lstepB rfl rfl rfl (by first | exact run_pick_true (.tmp rfl) .const | exact run_pick_false (.tmp rfl) (.tmp rfl)) ?_
          refine lnil ?_
          refine xw_then ?_
          refine cw_cond_false (.tmp rfl) ?_
          refine cw_skip ?_
          refine xw_then ?_
          refine cw_seq ?_
          refine cw_region ?_
          refine lstepB rfl rfl rfl (run_move (.tmp rfl)) ?_
          refine lstep rfl rfl rfl (LR.runs (R := []) (A := []) (lr_makeInts (.tmp rfl) (.tmp rfl) (by omega)) (by repeat (first | exact Pick.nil | (apply Pick.cons; focus (repeat (first | exact Del.here | apply Del.there))))) (by repeat (first | exact Dels.nil | (apply Dels.cons; focus (repeat (first | exact Del.here | apply Del.there)))))) ?_
          intro b90 _
          refine lstepB rfl rfl rfl (run_assign (.tmp rfl)) ?_
          refine lnil ?_
          refine xw_then ?_
          refine cw_seq ?_
          refine cw_seq ?_
          refine cw_region ?_
          refine lstepB rfl rfl rfl (run_fieldAddr (.tmp rfl) fa24_0 (by first | exact Nat.zero_add _ | exact rfl)) ?_
          refine lstepB rfl rfl rfl (run_load1 (.tmp rfl) kd22 (by repeat (first | exact List.Mem.head _ | apply List.Mem.tail)) (by exact rfl)) ?_
          refine lstepB rfl rfl rfl (run_len (.tmp rfl) sl22) ?_
          refine lstepB rfl rfl rfl (run_move .const) ?_
          refine lnil ?_
          refine xw_then ?_
          refine cw_block ?_
          refine cw_loop (S := Nat × List Int) (fun st => [(94, .int .i64 ((st.1 : Nat) : Int))]) [(1, _), (2, _), (5, _), (6, _), (7, _), (8, _), (9, _), (10, _), (11, _), (13, _), (92, _), (93, _)] (fun st => (b90, Obj.cells (intsV st.2).toArray 3 (0, 0)) :: (b8, Obj.cells (spanC (bendT f.offs)).toArray 28 (0, 0)) :: (b2, Obj.cells (furrowC f oa wa da oc wc dc).toArray 24 (0, 0)) :: []) (fun st => st.1 ≤ f.offs.length ∧ st.2.length = f.offs.length ∧ ∀ j, j < st.1 → (f.offs.getD j default).lo ≤ st.2.getD j 0 ∧ st.2.getD j 0 ≤ (f.offs.getD j default).hi) (fun st => f.offs.length - st.1) (0, List.replicate f.offs.length 0) ⟨Nat.zero_le _, List.length_replicate, fun j h => absurd h (Nat.not_lt_zero j)⟩ (by repeat (first | exact Less.nil | refine Less.cons rfl ?_)) (by repeat (first | exact Pick.nil | (apply Pick.cons; focus (repeat (first | exact Del.here | apply Del.there))))) ?_
          intro st hs
          obtain ⟨k, s⟩ := st
          obtain ⟨hk, hsl, hsi⟩ := hs
          dsimp only at hk hsl hsi ⊢
          refine cw_seq ?_
          refine cw_region ?_
          refine lstepB rfl rfl rfl (run_lss (.tmp rfl) (.tmp rfl) rfl) ?_
          refine lnil ?_
          refine xw_then ?_
          refine cw_seq ?_
          refine cw_cond_p (.tmp rfl) (fun hl => ?_) (fun hl => ?_)
          ·
            have hkn : k < f.offs.length := by omega
            have hsk := getD_some (l := f.offs) hkn
            obtain ⟨b, o, hoa, hb, hc⟩ := hf.offs.span (by omega)
            subst hoa
            obtain ⟨sp, hsp⟩ : ∃ sp, sp = f.offs.getD k default := ⟨_, rfl⟩
            rw [← hsp] at hsk
            have hst := (hvf.st hkn).1
            rw [← hsp] at hst
            have hput := put_int s k sp.lo (by omega)
            refine cw_skip ?_
            refine xw_then ?_
            refine cw_seq ?_
            refine cw_block ?_
            refine cw_seq ?_
            refine cw_region ?_
            refine lstepB rfl rfl rfl (run_move (.tmp rfl)) ?_
            refine lstepB rfl rfl rfl (run_indexAddr (i := k) (off' := o + k * 2) (.tmp rfl) (.tmp rfl) el22 (by omega) rfl) ?_
            refine lstepB rfl rfl rfl (run_loadN_at (l := spanC sp) (.tmp rfl) kd28 sz28 rfl (fun w' hS j v hj => hS.old_cell (fun h => h) (hc k sp hsk j v hj))) ?_
            refine lstep rfl rfl rfl (run_alloc zr28) ?_
            intro b15 _
            refine lstepB rfl rfl rfl (run_assign (.tmp rfl)) ?_
            refine lstep0 rfl rfl (run_storeN (.tmp rfl) (.tmp rfl) rfl sz28 rfl (by repeat (first | exact Upd.here | apply Upd.there)) (by repeat (first | exact Put.done | apply Put.put | apply Put.skip))) ?_
            refine lnil ?_
            refine xw_then ?_
            refine cw_seq ?_
            refine cw_region ?_
            refine lstepB rfl rfl rfl (run_move (.tmp rfl)) ?_
            refine lstepB rfl rfl rfl (run_move (.tmp rfl)) ?_
            refine lstepB rfl rfl rfl (run_fieldAddr (.tmp rfl) fa28_0 (by first | exact Nat.zero_add _ | exact rfl)) ?_
            refine lstepB rfl rfl rfl (run_load1 (.tmp rfl) kd3 (by repeat (first | exact List.Mem.head _ | apply List.Mem.tail)) (by exact rfl)) ?_
            refine lstepB rfl rfl rfl (run_indexAddr (i := k) (off' := k) (.tmp rfl) (.tmp rfl) el33 (by omega) (by rw [Nat.mul_one, Nat.zero_add])) ?_
            refine lstep0 rfl rfl (run_store1 (.tmp rfl) (.tmp rfl) rfl sz3 (by repeat (first | exact Upd.here | apply Upd.there)) hput) ?_
            refine lnil ?_
            refine xw_then ?_
            refine cw_seq ?_
            refine cw_region ?_
            refine lstepB rfl rfl rfl (run_move (.tmp rfl)) ?_
            refine lstepB rfl rfl rfl (run_len (.tmp rfl) sl52) ?_
            refine lstepB rfl rfl rfl (run_gtr (.tmp rfl) .const rfl) ?_
            refine lnil ?_
            refine xw_then ?_
            refine cw_cond_p (.tmp rfl) (fun hm0 => ?_) (fun hm0 => ?_)
            ·
              obtain ⟨x, hx⟩ : ∃ x, m[k % m.length]? = some x := ⟨_, List.getElem?_eq_getElem (Nat.mod_lt _ (by omega))⟩
              obtain ⟨pb, po, rfl, hpb, hx1, hx2⟩ := hby.row _ x hx
              have hr0 := Int.emod_nonneg x (show sp.hi - sp.lo + 1 ≠ 0 by omega)
              have hr1 := Int.emod_lt_of_pos x (show 0 < sp.hi - sp.lo + 1 by omega)
              have hput2 := put_int (s.set k sp.lo) k (sp.lo + x % (sp.hi - sp.lo + 1)) (by rw [List.length_set]; omega)
              have hml : k % m.length < m.length := Nat.mod_lt _ (by omega)
              refine cw_chain2 (σ := [0, 1, 2, 3, 4, 5, 6, 7, 8, 9, 10, 11, 12, 13, 14, 15, 16, 17, 18, 19, 20, 21]) [⟨0, [], [], [], 0⟩, ⟨0, [], [], [], 0⟩, ⟨0, [], [], [], 3⟩, ⟨0, [1], [], [], 7⟩, ⟨0, [], [], [], 0⟩, ⟨0, [], [], [], 0⟩, ⟨0, [], [], [], 0⟩, ⟨0, [], [], [], 64⟩, ⟨0, [], [], [], 224⟩, ⟨0, [], [], [], 496⟩, ⟨0, [], [], [], 1008⟩, ⟨0, [], [], [], 2032⟩, ⟨0, [], [], [], 0⟩, ⟨0, [0], [], [], 4096⟩, ⟨0, [], [], [], 0⟩, ⟨0, [0], [], [], 16384⟩, ⟨0, [], [], [], 61440⟩, ⟨0, [], [], [], 126976⟩, ⟨0, [], [], [], 262128⟩, ⟨0, [], [], [], 524287⟩, ⟨0, [], [], [], 1048575⟩, ⟨0, [], [1], [1], 2097151⟩] [(0, _), (1, _), (2, _), (3, _)] (by kernel_rfl) (by kernel_rfl) rfl ?_
              refine .det (B := []) rfl rfl (.inl rfl) .nil .nil rfl (RunB.lr (run_move (.tmp rfl))) ?_
              refine .det (B := []) rfl rfl (.inl rfl) .nil .nil rfl (RunB.lr (run_move (.tmp rfl))) ?_
              refine .det (B := []) rfl rfl (.inl rfl) .nil .nil rfl (RunB.lr (run_indexAddr (i := k) (off' := k) (.tmp rfl) (.tmp rfl) el33 (by omega) (by rw [Nat.mul_one, Nat.zero_add]))) ?_
              refine .det (B := []) rfl rfl (.inl rfl) (.cons rfl .nil) .nil rfl (RunB.lr (run_load1 (v := .int .i64 sp.lo) (.tmp rfl) kd3 (by repeat (first | exact List.Mem.head _ | apply List.Mem.tail)) (by have e := intsV_get (t := s.set k sp.lo) (k := k) (by rw [List.length_set]; omega); rw [getD_set (by omega), if_pos rfl] at e; exact e))) ?_
              refine .det (B := []) rfl rfl (.inl rfl) .nil .nil rfl (RunB.lr (run_move (.tmp rfl))) ?_
              refine .det (B := []) rfl rfl (.inl rfl) .nil .nil rfl (RunB.lr (run_move (.tmp rfl))) ?_
              refine .det (B := []) rfl rfl (.inl rfl) .nil .nil rfl (RunB.lr (run_move (.tmp rfl))) ?_
              refine .det (B := []) rfl rfl (.inl rfl) .nil .nil rfl (RunB.lr (run_len (.tmp rfl) sl52)) ?_
              refine .det (B := []) rfl rfl (.inl rfl) .nil .nil rfl (RunB.lr (run_rem_nat (a := k) (b := m.length) (.tmp rfl) (.tmp rfl) (by omega))) ?_
              refine .det (B := []) rfl rfl (.inl rfl) .nil .nil rfl (RunB.lr (run_indexAddr (i := k % m.length) (off' := po + k % m.length) (.tmp rfl) (.tmp rfl) el52 (by omega) (by rw [Nat.mul_one]))) ?_
              refine .det (B := []) rfl rfl (.inl rfl) .nil .nil rfl (RunB.lr (run_load1_at (v := .int .u8 x) (.tmp rfl) kd5 (fun w' hS => hS.old_cell (fun h => h) hx2))) ?_
              refine .det (B := []) rfl rfl (.inl rfl) .nil .nil rfl (RunB.lr (run_convert_at (.tmp rfl) (fun w => cv5_3 (c := x) (IntWalk.i64_in _ (by omega)) w))) ?_
              refine .det (B := []) rfl rfl (.inl rfl) .nil .nil rfl (RunB.lr (run_fieldAddr (.tmp rfl) fa28_1 (by first | exact Nat.zero_add _ | exact rfl))) ?_
              refine .det (B := []) rfl rfl (.inl rfl) (.cons rfl .nil) .nil rfl (RunB.lr (run_load1 (.tmp rfl) kd3 (by repeat (first | exact List.Mem.head _ | apply List.Mem.tail)) (by exact rfl))) ?_
              refine .det (B := []) rfl rfl (.inl rfl) .nil .nil rfl (RunB.lr (run_fieldAddr (.tmp rfl) fa28_0 (by first | exact Nat.zero_add _ | exact rfl))) ?_
              refine .det (B := []) rfl rfl (.inl rfl) (.cons rfl .nil) .nil rfl (RunB.lr (run_load1 (.tmp rfl) kd3 (by repeat (first | exact List.Mem.head _ | apply List.Mem.tail)) (by exact rfl))) ?_
              refine .det (B := []) rfl rfl (.inl rfl) .nil .nil rfl (RunB.lr (run_sub (.tmp rfl) (.tmp rfl) (by first | exact IntWalk.i64_in _ (by omega) | exact rfl))) ?_
              refine .det (B := []) rfl rfl (.inl rfl) .nil .nil rfl (RunB.lr (run_add (.tmp rfl) .const (by first | exact IntWalk.i64_in _ (by omega) | exact rfl))) ?_
              refine .det (B := []) rfl rfl (.inl rfl) .nil .nil rfl (RunB.lr (run_rem (.tmp rfl) (.tmp rfl) (by omega) (by omega))) ?_
              refine .det (B := []) rfl rfl (.inl rfl) .nil .nil rfl (RunB.lr (run_add (.tmp rfl) (.tmp rfl) (by first | exact IntWalk.i64_in _ (by omega) | exact rfl))) ?_
              refine .det (B := []) rfl rfl (.inl rfl) .nil .nil rfl (RunB.lr (run_indexAddr (i := k) (off' := k) (.tmp rfl) (.tmp rfl) el33 (by omega) (by rw [Nat.mul_one, Nat.zero_add]))) ?_
              refine .det (B := [(1, (_, _))]) rfl rfl (.inl rfl) .nil (.cons rfl .nil) rfl (lr_store1 (.tmp rfl) (.tmp rfl) rfl sz3 hput2) ?_
              refine chain_nil (ts := [0, 1, 2, 3]) (.cons rfl (.cons rfl (.cons rfl (.cons rfl .nil)))) (by decide) ?_
              refine xw_in ?_
              refine xw_then ?_
              refine cw_region ?_
              refine lstepB rfl rfl rfl (run_add (.tmp rfl) .const (by first | exact IntWalk.i64_in _ (by omega) | exact rfl)) ?_
              refine lstepB rfl rfl rfl (run_move (.tmp rfl)) ?_
              refine lnil ?_
              exact xw_round (k + 1, (s.set k sp.lo).set k (sp.lo + x % (sp.hi - sp.lo + 1))) ⟨by simp only; omega, by simp only [List.length_set]; exact hsl, fun j hj => by
                                                      rw [getD_set (by rw [List.length_set]; omega), getD_set (by omega)]
                                                      split
                                                      · subst_vars; omega
                                                      · exact hsi j (by omega)⟩ (by show f.offs.length - (k + 1) < f.offs.length - k; omega) (by repeat (first | exact Less.nil | refine Less.cons rfl ?_)) (by repeat (first | exact Pick.nil | (apply Pick.cons; focus (repeat (first | exact Del.here | apply Del.there)))))
            ·
              refine cw_skip ?_
              refine xw_in ?_
              refine xw_then ?_
              refine cw_region ?_
              refine lstepB rfl rfl rfl (run_add (.tmp rfl) .const (by first | exact IntWalk.i64_in _ (by omega) | exact rfl)) ?_
              refine lstepB rfl rfl rfl (run_move (.tmp rfl)) ?_
              refine lnil ?_
              exact xw_round (k + 1, s.set k sp.lo) ⟨by simp only; omega, by simp only [List.length_set]; exact hsl, fun j hj => by
                                                      rw [getD_set (by omega)]
                                                      split
                                                      · subst_vars; omega
                                                      · exact hsi j (by omega)⟩ (by show f.offs.length - (k + 1) < f.offs.length - k; omega) (by repeat (first | exact Less.nil | refine Less.cons rfl ?_)) (by repeat (first | exact Pick.nil | (apply Pick.cons; focus (repeat (first | exact Del.here | apply Del.there)))))
          ·
            obtain rfl : k = f.offs.length := by omega
            have hsI : Inn f.offs s := ⟨hsl, fun j hj => hsi j hj⟩
            have hss := inn_small hvf hsI
            refine cw_exit ?_
            refine xw_then_exit ?_
            refine xw_then_exit ?_
            refine xw_in_exit ?_
            refine xw_then ?_
            refine cw_seq ?_
            refine cw_region ?_
            refine lstepB rfl rfl rfl (run_move (.tmp rfl)) ?_
            refine lstepB rfl rfl rfl (run_call1 cb32 (.cons (.tmp rfl) .nil) (fun w2 hS => by have h0 := rmostK s (by omega) hss (some ⟨b90, 0, none⟩) f.offs.length w2 (intsAt_cells (hS.mem (b := b90) (by repeat (first | exact List.Mem.head _ | apply List.Mem.tail)))); rw [hsl] at h0; exact h0)) ?_
            refine lstepB rfl rfl rfl (run_assign (.tmp rfl)) ?_
            refine lnil ?_
            refine xw_then ?_
            refine cw_seq ?_
            refine cw_region ?_
            refine lstepB rfl rfl rfl (run_assign .const) ?_
            refine lnil ?_
            refine xw_then ?_
            refine cw_seq ?_
            refine cw_seq ?_
            refine cw_region ?_
            refine lstepB rfl rfl rfl (run_assign .const) ?_
            refine lnil ?_
            refine xw_then ?_
            refine cw_block ?_
            refine cw_loop (S := Nat × Bool) (fun st => [(18, .int .i64 ((st.1 + 1 : Nat) : Int)), (17, .bool st.2)]) [(2, _), (5, _), (6, _), (8, _), (9, _), (10, _), (11, _), (13, _), (16, _)] (fun st => (b90, Obj.cells (intsV s).toArray 3 (0, 0)) :: (b8, Obj.cells (spanC (bendT f.offs)).toArray 28 (0, 0)) :: (b2, Obj.cells (furrowC f oa wa da oc wc dc).toArray 24 (0, 0)) :: []) (fun st => st.1 ≤ f.offs.length - 2 ∧ (st.2 = true ↔ ∃ j, (1 ≤ j ∧ j ≤ st.1) ∧ (bendS f.offs j).hi = (bendT f.offs).hi)) (fun st => f.offs.length - st.1) (0, false) ⟨Nat.zero_le _, ⟨fun h => (by cases h), fun ⟨j, hj, _⟩ => by omega⟩⟩ (by repeat (first | exact Less.nil | refine Less.cons rfl ?_)) (by repeat (first | exact Pick.nil | (apply Pick.cons; focus (repeat (first | exact Del.here | apply Del.there))))) ?_
            intro st hs2
            obtain ⟨k, hb⟩ := st
            obtain ⟨hk, hhb⟩ := hs2
            dsimp only at hk hhb ⊢
            refine cw_seq ?_
            refine cw_seq ?_
            refine cw_region ?_
            refine lstepB rfl rfl rfl (run_move (.tmp rfl)) ?_
            refine lstepB rfl rfl rfl (run_add (c := ((k + 2 : Nat) : Int)) (.tmp rfl) .const (by rw [show ((k + 2 : Nat) : Int) = ((k + 1 : Nat) : Int) + 1 by omega]; exact IntWalk.i64_in _ (by omega))) ?_
            refine lstepB rfl rfl rfl (run_move (.tmp rfl)) ?_
            refine lstepB rfl rfl rfl (run_lss (.tmp rfl) (.tmp rfl) rfl) ?_
            refine lnil ?_
            refine xw_then ?_
            refine cw_cond_p (.tmp rfl) (fun hl3 => ?_) (fun hl3 => ?_)
            ·
              have hI : Inner f.offs (k + 1) := ⟨by omega, by omega⟩
              have hat := bendS_at hfine hI hsI
              have hmg := mostT_ge hsI.1 hI
              have hin : insideB (bentT s (k + 1)) (bendS f.offs (k + 1)) = true := by simp only [insideB, Bool.and_eq_true, decide_eq_true_eq]; exact hat
              have hiB : innerB f.offs.length ((k + 1 : Nat) : Int) = true := by simp only [innerB, Bool.and_eq_true, decide_eq_true_eq]; omega
              obtain ⟨th, hth1, hth2⟩ := bendS_hi hfine hI
              have hhi : (bendS f.offs (k + 1)).hi ≤ (bendT f.offs).hi := by rw [← hth2]; exact Int.le_trans (mostT_ge hth1.1 hI) ((bendT_spec hfine).1 th hth1).2
              have hA : (sureN f.offs).testBit (k + 1) = true → ¬ bentT s (k + 1) < mostT s ∧ (bendS f.offs (k + 1)).hi = (bendT f.offs).hi := fun h => by
                obtain ⟨_, h2⟩ := (sure_bit hfine).1 h
                constructor
                · have := (mostT_le hsI.1 (m := bentT s (k + 1))).2 ⟨bentT_nonneg _ _, fun j hj => h2 s hsI j hj⟩
                  omega
                · obtain ⟨u, hu1, hu2⟩ := (bendT_spec hfine).2.2
                  have h3 := (mostT_le hu1.1 (m := bentT u (k + 1))).2 ⟨bentT_nonneg _ _, fun j hj => h2 u hu1 j hj⟩
                  have h4 := (bendS_at hfine hI hu1).2
                  omega
              have hB1 : bentT s (k + 1) = mostT s → (canN f.offs).testBit (k + 1) = true := fun h => (can_bit hfine).2 ⟨hI, s, hsI, fun j hj => by rw [h]; exact mostT_ge hsI.1 hj⟩
              have hB2 : (bendS f.offs (k + 1)).hi = (bendT f.offs).hi → (canN f.offs).testBit (k + 1) = true := fun h => (can_bit hfine).2 ⟨hI, th, hth1, fun j hj => by rw [hth2, h]; exact Int.le_trans (mostT_ge hth1.1 hj) ((bendT_spec hfine).1 th hth1).2⟩
              have hbA : ((bitN (sureN f.offs) (k + 1) : Nat) : Int) = 1 ↔ (sureN f.offs).testBit (k + 1) = true := by rw [← bitN_iff]; omega
              have hbB : (canN f.offs).testBit (k + 1) = true → ¬ ((bitN (canN f.offs) (k + 1) : Nat) : Int) = 0 := fun h => by have := bitN_iff.2 h; omega
              have hqa : sureN f.offs / 2 ^ (k + 1) < 2 ^ 32 := Nat.lt_of_le_of_lt (Nat.div_le_self _ _) hws.1
              have hqb : canN f.offs / 2 ^ (k + 1) < 2 ^ 32 := Nat.lt_of_le_of_lt (Nat.div_le_self _ _) hws.2
              refine cw_skip ?_
              refine xw_then ?_
              refine cw_seq ?_
              refine cw_block ?_
              refine cw_seq ?_
              refine cw_region ?_
              refine lstepB rfl rfl rfl (run_move (.tmp rfl)) ?_
              refine lstepB rfl rfl rfl (run_move (.tmp rfl)) ?_
              refine lstepB rfl rfl rfl (run_call1 cb34 (.cons (.tmp rfl) (.cons (.tmp rfl) .nil)) (fun w2 hS => by have h0 := rbentK s (k + 1) (by omega) (by omega) (by omega) hss (some ⟨b90, 0, none⟩) f.offs.length w2 (intsAt_cells (hS.mem (b := b90) (by repeat (first | exact List.Mem.head _ | apply List.Mem.tail)))); rw [hsl] at h0; exact h0)) ?_
              refine lstepB rfl rfl rfl (run_assign (.tmp rfl)) ?_
              refine lnil ?_
              refine xw_then ?_
              refine cw_seq ?_
              refine cw_region ?_
              refine lstepB rfl rfl rfl (run_loadN (.tmp rfl) kd24 sz24 (by repeat (first | exact List.Mem.head _ | apply List.Mem.tail)) (by repeat (first | exact Sub.done | apply Sub.take | apply Sub.skip))) ?_
              refine lstepB rfl rfl rfl (run_move (.tmp rfl)) ?_
              refine lstepB rfl rfl rfl (run_call1 cb16 (.cons (.tmp rfl) (.cons (.tmp rfl) .nil)) (fun w2 hS => (atQ f oa wa da oc wc dc ((k + 1 : Nat) : Int) w2 hm (hf.kept hS.kept)).as (show _ = Value.tuple #[spanV (bendS f.offs (k + 1)), .int .i64 0] from by rw [show atR f ((k + 1 : Nat) : Int) = (bendS f.offs (k + 1), 0) by unfold atR; rw [hv, hiB]; rfl]))) ?_
              by_cases c1 : bentT s (k + 1) = mostT s
              ·
                by_cases c2 : (sureN f.offs).testBit (k + 1) = true
                ·
                  by_cases c3 : (bendS f.offs (k + 1)).hi = (bendT f.offs).hi
                  ·
                    refine lstepB rfl rfl rfl (run_move (.tmp rfl)) ?_
                    refine lstepB rfl rfl rfl (run_extract (.tmp rfl) rfl) ?_
                    refine lstepB rfl rfl rfl (run_extract (.tmp rfl) rfl) ?_
                    refine lstep rfl rfl rfl (run_alloc zr28) ?_
                    intro b20 _
                    refine lstep0 rfl rfl (run_storeN (.tmp rfl) (.tmp rfl) rfl sz28 rfl (by repeat (first | exact Upd.here | apply Upd.there)) (by repeat (first | exact Put.done | apply Put.put | apply Put.skip))) ?_
                    refine lstepB rfl rfl rfl (run_assign (.tmp rfl)) ?_
                    refine lnil ?_
                    refine xw_then ?_
                    refine cw_seq ?_
                    refine cw_seq ?_
                    refine cw_region ?_
                    refine lstepB rfl rfl rfl (run_move (.tmp rfl)) ?_
                    refine lstepB rfl rfl rfl (run_neq (.tmp rfl) .const (by first | exact decide_eq_true (by omega) | exact decide_eq_false (by omega) | exact rfl)) ?_
                    refine lstepB rfl rfl rfl (run_move (.tmp rfl)) ?_
                    refine lyes rfl rfl rfl rfl ?_
                    refine gstepB rfl rfl (run_move (.tmp rfl)) ?_
                    refine lyes rfl rfl rfl rfl ?_
                    refine gstepB rfl rfl (run_loadN (.tmp rfl) kd28 sz28 (by repeat (first | exact List.Mem.head _ | apply List.Mem.tail)) (by repeat (first | exact Sub.done | apply Sub.take | apply Sub.skip))) ?_
                    refine lyes rfl rfl rfl rfl ?_
                    refine gstepB rfl rfl (run_call1 cb33 (.cons (.tmp rfl) (.cons (.tmp rfl) .nil)) (fun w2 _ => (insideK _ _ w2).as (congrArg Value.bool hin))) ?_
                    refine lyes rfl rfl rfl rfl ?_
                    refine gstepB rfl rfl (run_not (.tmp rfl) (by first | exact Bool.not_true | exact Bool.not_false | exact rfl)) ?_
                    refine lstepB rfl rfl rfl (by first | exact run_pick_true (.tmp rfl) .const | exact run_pick_false (.tmp rfl) (.tmp rfl)) ?_
                    refine lstepB rfl rfl rfl (run_move (.tmp rfl)) ?_
                    refine lyes rfl rfl rfl rfl ?_
                    refine gstepB rfl rfl (run_fieldAddr (.tmp rfl) fa28_1 (by first | exact Nat.zero_add _ | exact rfl)) ?_
                    refine lyes rfl rfl rfl rfl ?_
                    refine gstepB rfl rfl (run_load1 (.tmp rfl) kd3 (by repeat (first | exact List.Mem.head _ | apply List.Mem.tail)) (by exact rfl)) ?_
                    refine lyes rfl rfl rfl rfl ?_
                    refine gstepB rfl rfl (run_fieldAddr (.tmp rfl) fa28_1 (by first | exact Nat.zero_add _ | exact rfl)) ?_
                    refine lyes rfl rfl rfl rfl ?_
                    refine gstepB rfl rfl (run_load1 (.tmp rfl) kd3 (by repeat (first | exact List.Mem.head _ | apply List.Mem.tail)) (by exact rfl)) ?_
                    refine lyes rfl rfl rfl rfl ?_
                    refine gstepB rfl rfl (run_gtr (.tmp rfl) (.tmp rfl) (decide_eq_false (by omega))) ?_
                    refine lstepB rfl rfl rfl (by first | exact run_pick_true (.tmp rfl) .const | exact run_pick_false (.tmp rfl) (.tmp rfl)) ?_
                    refine lstepB rfl rfl rfl (run_move (.tmp rfl)) ?_
                    refine lyes rfl rfl rfl rfl ?_
                    refine gstepB rfl rfl (run_move (.tmp rfl)) ?_
                    refine lyes rfl rfl rfl rfl ?_
                    refine gstepB rfl rfl (run_move (.tmp rfl)) ?_
                    refine lyes rfl rfl rfl rfl ?_
                    refine gstepB rfl rfl (run_eql (.tmp rfl) (.tmp rfl) (decide_eq_true c1)) ?_
                    refine lyes rfl rfl rfl rfl ?_
                    refine gstepB rfl rfl (run_move (.tmp rfl)) ?_
                    refine lyes rfl rfl rfl rfl ?_
                    refine gstepB rfl rfl (run_move (.tmp rfl)) ?_
                    refine lyes rfl rfl rfl rfl ?_
                    refine gstepB rfl rfl (run_move (.tmp rfl)) ?_
                    refine lyes rfl rfl rfl rfl ?_
                    refine gstepB rfl rfl (run_shr (z := k + 1) (.tmp rfl) (.tmp rfl) (by omega)) ?_
                    refine lyes rfl rfl rfl rfl ?_
                    refine gstepB rfl rfl (run_and (c' := ((bitN (canN f.offs) (k + 1) : Nat) : Int)) (.tmp rfl) .const (and_one hqb)) ?_
                    refine lyes rfl rfl rfl rfl ?_
                    refine gstepB rfl rfl (run_eql (.tmp rfl) .const (decide_eq_false (hbB (hB1 c1)))) ?_
                    refine lyes rfl rfl rfl rfl ?_
                    refine gstepB rfl rfl (by first | exact run_pick_true (.tmp rfl) (.tmp rfl) | exact run_pick_false (.tmp rfl) .const) ?_
                    refine lstepB rfl rfl rfl (by first | exact run_pick_true (.tmp rfl) .const | exact run_pick_false (.tmp rfl) (.tmp rfl)) ?_
                    refine lstepB rfl rfl rfl (run_move (.tmp rfl)) ?_
                    refine lyes rfl rfl rfl rfl ?_
                    refine gstepB rfl rfl (run_move (.tmp rfl)) ?_
                    refine lyes rfl rfl rfl rfl ?_
                    refine gstepB rfl rfl (run_move (.tmp rfl)) ?_
                    refine lyes rfl rfl rfl rfl ?_
                    refine gstepB rfl rfl (run_lss (.tmp rfl) (.tmp rfl) (decide_eq_false (by omega))) ?_
                    refine lyes rfl rfl rfl rfl ?_
                    refine gstepB rfl rfl (run_move (.tmp rfl)) ?_
                    refine lskip rfl rfl rfl rfl rfl rfl rfl ?_
                    refine lskip rfl rfl rfl rfl rfl rfl rfl ?_
                    refine lskip rfl rfl rfl rfl rfl rfl rfl ?_
                    refine lskip rfl rfl rfl rfl rfl rfl rfl ?_
                    refine lskip rfl rfl rfl rfl rfl rfl rfl ?_
                    refine lyes rfl rfl rfl rfl ?_
                    refine gstepB rfl rfl (by first | exact run_pick_true (.tmp rfl) (.tmp rfl) | exact run_pick_false (.tmp rfl) .const) ?_
                    refine lstepB rfl rfl rfl (by first | exact run_pick_true (.tmp rfl) .const | exact run_pick_false (.tmp rfl) (.tmp rfl)) ?_
                    refine lstepB rfl rfl rfl (run_move (.tmp rfl)) ?_
                    refine lyes rfl rfl rfl rfl ?_
                    refine gstepB rfl rfl (run_move (.tmp rfl)) ?_
                    refine lyes rfl rfl rfl rfl ?_
                    refine gstepB rfl rfl (run_move (.tmp rfl)) ?_
                    refine lyes rfl rfl rfl rfl ?_
                    refine gstepB rfl rfl (run_shr (z := k + 1) (.tmp rfl) (.tmp rfl) (by omega)) ?_
                    refine lyes rfl rfl rfl rfl ?_
                    refine gstepB rfl rfl (run_and (c' := ((bitN (sureN f.offs) (k + 1) : Nat) : Int)) (.tmp rfl) .const (and_one hqa)) ?_
                    refine lyes rfl rfl rfl rfl ?_
                    refine gstepB rfl rfl (run_eql (.tmp rfl) .const (decide_eq_true (hbA.2 c2))) ?_
                    refine lyes rfl rfl rfl rfl ?_
                    refine gstepB rfl rfl (run_move (.tmp rfl)) ?_
                    refine lyes rfl rfl rfl rfl ?_
                    refine gstepB rfl rfl (run_fieldAddr (.tmp rfl) fa28_1 (by first | exact Nat.zero_add _ | exact rfl)) ?_
                    refine lyes rfl rfl rfl rfl ?_
                    refine gstepB rfl rfl (run_load1 (.tmp rfl) kd3 (by repeat (first | exact List.Mem.head _ | apply List.Mem.tail)) (by exact rfl)) ?_
                    refine lyes rfl rfl rfl rfl ?_
                    refine gstepB rfl rfl (run_fieldAddr (.tmp rfl) fa28_1 (by first | exact Nat.zero_add _ | exact rfl)) ?_
                    refine lyes rfl rfl rfl rfl ?_
                    refine gstepB rfl rfl (run_load1 (.tmp rfl) kd3 (by repeat (first | exact List.Mem.head _ | apply List.Mem.tail)) (by exact rfl)) ?_
                    refine lyes rfl rfl rfl rfl ?_
                    refine gstepB rfl rfl (run_neq (.tmp rfl) (.tmp rfl) (decide_eq_false (by rw [(hA c2).2]; simp))) ?_
                    refine lyes rfl rfl rfl rfl ?_
                    refine gstepB rfl rfl (by first | exact run_pick_true (.tmp rfl) (.tmp rfl) | exact run_pick_false (.tmp rfl) .const) ?_
                    refine lstepB rfl rfl rfl (by first | exact run_pick_true (.tmp rfl) .const | exact run_pick_false (.tmp rfl) (.tmp rfl)) ?_
                    refine lstepB rfl rfl rfl (run_move (.tmp rfl)) ?_
                    refine lyes rfl rfl rfl rfl ?_
                    refine gstepB rfl rfl (run_fieldAddr (.tmp rfl) fa28_1 (by first | exact Nat.zero_add _ | exact rfl)) ?_
                    refine lyes rfl rfl rfl rfl ?_
                    refine gstepB rfl rfl (run_load1 (.tmp rfl) kd3 (by repeat (first | exact List.Mem.head _ | apply List.Mem.tail)) (by exact rfl)) ?_
                    refine lyes rfl rfl rfl rfl ?_
                    refine gstepB rfl rfl (run_fieldAddr (.tmp rfl) fa28_1 (by first | exact Nat.zero_add _ | exact rfl)) ?_
                    refine lyes rfl rfl rfl rfl ?_
                    refine gstepB rfl rfl (run_load1 (.tmp rfl) kd3 (by repeat (first | exact List.Mem.head _ | apply List.Mem.tail)) (by exact rfl)) ?_
                    refine lyes rfl rfl rfl rfl ?_
                    refine gstepB rfl rfl (run_eql (.tmp rfl) (.tmp rfl) (decide_eq_true c3)) ?_
                    refine lyes rfl rfl rfl rfl ?_
                    refine gstepB rfl rfl (run_move (.tmp rfl)) ?_
                    refine lyes rfl rfl rfl rfl ?_
                    refine gstepB rfl rfl (run_move (.tmp rfl)) ?_
                    refine lyes rfl rfl rfl rfl ?_
                    refine gstepB rfl rfl (run_move (.tmp rfl)) ?_
                    refine lyes rfl rfl rfl rfl ?_
                    refine gstepB rfl rfl (run_shr (z := k + 1) (.tmp rfl) (.tmp rfl) (by omega)) ?_
                    refine lyes rfl rfl rfl rfl ?_
                    refine gstepB rfl rfl (run_and (c' := ((bitN (canN f.offs) (k + 1) : Nat) : Int)) (.tmp rfl) .const (and_one hqb)) ?_
                    refine lyes rfl rfl rfl rfl ?_
                    refine gstepB rfl rfl (run_eql (.tmp rfl) .const (decide_eq_false (hbB (hB2 c3)))) ?_
                    refine lyes rfl rfl rfl rfl ?_
                    refine gstepB rfl rfl (by first | exact run_pick_true (.tmp rfl) (.tmp rfl) | exact run_pick_false (.tmp rfl) .const) ?_
                    refine lstepB rfl rfl rfl (by first | exact run_pick_true (.tmp rfl) .const | exact run_pick_false (.tmp rfl) (.tmp rfl)) ?_
                    refine lnil ?_
                    refine xw_then ?_
                    refine cw_cond_false (.tmp rfl) ?_
                    cases hb
                    case false =>
                      refine cw_skip ?_
                      refine xw_then ?_
                      refine cw_region ?_
                      refine lstepB rfl rfl rfl (run_move (.tmp rfl)) ?_
                      refine lstepB rfl rfl rfl (run_move (.tmp rfl)) ?_
                      refine lyes rfl rfl rfl rfl ?_
                      refine gstepB rfl rfl (run_fieldAddr (.tmp rfl) fa28_1 (by first | exact Nat.zero_add _ | exact rfl)) ?_
                      refine lyes rfl rfl rfl rfl ?_
                      refine gstepB rfl rfl (run_load1 (.tmp rfl) kd3 (by repeat (first | exact List.Mem.head _ | apply List.Mem.tail)) (by exact rfl)) ?_
                      refine lyes rfl rfl rfl rfl ?_
                      refine gstepB rfl rfl (run_fieldAddr (.tmp rfl) fa28_1 (by first | exact Nat.zero_add _ | exact rfl)) ?_
                      refine lyes rfl rfl rfl rfl ?_
                      refine gstepB rfl rfl (run_load1 (.tmp rfl) kd3 (by repeat (first | exact List.Mem.head _ | apply List.Mem.tail)) (by exact rfl)) ?_
                      refine lyes rfl rfl rfl rfl ?_
                      refine gstepB rfl rfl (run_eql (.tmp rfl) (.tmp rfl) (decide_eq_true c3)) ?_
                      refine lstepB rfl rfl rfl (by first | exact run_pick_true (.tmp rfl) .const | exact run_pick_false (.tmp rfl) (.tmp rfl)) ?_
                      refine lstepB rfl rfl rfl (run_assign (.tmp rfl)) ?_
                      refine lnil ?_
                      refine xw_in ?_
                      refine xw_then ?_
                      refine cw_region ?_
                      refine lstepB rfl rfl rfl (run_move (.tmp rfl)) ?_
                      refine lstepB rfl rfl rfl (run_add (c := ((k + 1 + 1 : Nat) : Int)) (.tmp rfl) .const (by rw [show ((k + 1 + 1 : Nat) : Int) = ((k + 1 : Nat) : Int) + 1 by omega]; exact IntWalk.i64_in _ (by omega))) ?_
                      refine lstepB rfl rfl rfl (run_assign (.tmp rfl)) ?_
                      refine lnil ?_
                      exact xw_round (k + 1, true) ⟨by simp only; omega, ⟨fun _ => ⟨k + 1, by omega, c3⟩, fun _ => rfl⟩⟩ (by show f.offs.length - (k + 1) < f.offs.length - k; omega) (by repeat (first | exact Less.nil | refine Less.cons rfl ?_)) (by repeat (first | exact Pick.nil | (apply Pick.cons; focus (repeat (first | exact Del.here | apply Del.there)))))
                    case true =>
                      refine cw_skip ?_
                      refine xw_then ?_
                      refine cw_region ?_
                      refine lstepB rfl rfl rfl (run_move (.tmp rfl)) ?_
                      refine lstepB rfl rfl rfl (run_move (.tmp rfl)) ?_
                      refine lskip rfl rfl rfl rfl rfl rfl rfl ?_
                      refine lskip rfl rfl rfl rfl rfl rfl rfl ?_
                      refine lskip rfl rfl rfl rfl rfl rfl rfl ?_
                      refine lskip rfl rfl rfl rfl rfl rfl rfl ?_
                      refine lskip rfl rfl rfl rfl rfl rfl rfl ?_
                      refine lstepB rfl rfl rfl (by first | exact run_pick_true (.tmp rfl) .const | exact run_pick_false (.tmp rfl) (.tmp rfl)) ?_
                      refine lstepB rfl rfl rfl (run_assign (.tmp rfl)) ?_
                      refine lnil ?_
                      refine xw_in ?_
                      refine xw_then ?_
                      refine cw_region ?_
                      refine lstepB rfl rfl rfl (run_move (.tmp rfl)) ?_
                      refine lstepB rfl rfl rfl (run_add (c := ((k + 1 + 1 : Nat) : Int)) (.tmp rfl) .const (by rw [show ((k + 1 + 1 : Nat) : Int) = ((k + 1 : Nat) : Int) + 1 by omega]; exact IntWalk.i64_in _ (by omega))) ?_
                      refine lstepB rfl rfl rfl (run_assign (.tmp rfl)) ?_
                      refine lnil ?_
                      exact xw_round (k + 1, true) ⟨by simp only; omega, ⟨fun _ => ⟨k + 1, by omega, c3⟩, fun _ => rfl⟩⟩ (by show f.offs.length - (k + 1) < f.offs.length - k; omega) (by repeat (first | exact Less.nil | refine Less.cons rfl ?_)) (by repeat (first | exact Pick.nil | (apply Pick.cons; focus (repeat (first | exact Del.here | apply Del.there)))))
                  ·
                    refine lstepB rfl rfl rfl (run_move (.tmp rfl)) ?_
                    refine lstepB rfl rfl rfl (run_extract (.tmp rfl) rfl) ?_
                    refine lstepB rfl rfl rfl (run_extract (.tmp rfl) rfl) ?_
                    refine lstep rfl rfl rfl (run_alloc zr28) ?_
                    intro b20 _
                    refine lstep0 rfl rfl (run_storeN (.tmp rfl) (.tmp rfl) rfl sz28 rfl (by repeat (first | exact Upd.here | apply Upd.there)) (by repeat (first | exact Put.done | apply Put.put | apply Put.skip))) ?_
                    refine lstepB rfl rfl rfl (run_assign (.tmp rfl)) ?_
                    refine lnil ?_
                    refine xw_then ?_
                    refine cw_seq ?_
                    refine cw_seq ?_
                    refine cw_region ?_
                    refine lstepB rfl rfl rfl (run_move (.tmp rfl)) ?_
                    refine lstepB rfl rfl rfl (run_neq (.tmp rfl) .const (by first | exact decide_eq_true (by omega) | exact decide_eq_false (by omega) | exact rfl)) ?_
                    refine lstepB rfl rfl rfl (run_move (.tmp rfl)) ?_
                    refine lyes rfl rfl rfl rfl ?_
                    refine gstepB rfl rfl (run_move (.tmp rfl)) ?_
                    refine lyes rfl rfl rfl rfl ?_
                    refine gstepB rfl rfl (run_loadN (.tmp rfl) kd28 sz28 (by repeat (first | exact List.Mem.head _ | apply List.Mem.tail)) (by repeat (first | exact Sub.done | apply Sub.take | apply Sub.skip))) ?_
                    refine lyes rfl rfl rfl rfl ?_
                    refine gstepB rfl rfl (run_call1 cb33 (.cons (.tmp rfl) (.cons (.tmp rfl) .nil)) (fun w2 _ => (insideK _ _ w2).as (congrArg Value.bool hin))) ?_
                    refine lyes rfl rfl rfl rfl ?_
                    refine gstepB rfl rfl (run_not (.tmp rfl) (by first | exact Bool.not_true | exact Bool.not_false | exact rfl)) ?_
                    refine lstepB rfl rfl rfl (by first | exact run_pick_true (.tmp rfl) .const | exact run_pick_false (.tmp rfl) (.tmp rfl)) ?_
                    refine lstepB rfl rfl rfl (run_move (.tmp rfl)) ?_
                    refine lyes rfl rfl rfl rfl ?_
                    refine gstepB rfl rfl (run_fieldAddr (.tmp rfl) fa28_1 (by first | exact Nat.zero_add _ | exact rfl)) ?_
                    refine lyes rfl rfl rfl rfl ?_
                    refine gstepB rfl rfl (run_load1 (.tmp rfl) kd3 (by repeat (first | exact List.Mem.head _ | apply List.Mem.tail)) (by exact rfl)) ?_
                    refine lyes rfl rfl rfl rfl ?_
                    refine gstepB rfl rfl (run_fieldAddr (.tmp rfl) fa28_1 (by first | exact Nat.zero_add _ | exact rfl)) ?_
                    refine lyes rfl rfl rfl rfl ?_
                    refine gstepB rfl rfl (run_load1 (.tmp rfl) kd3 (by repeat (first | exact List.Mem.head _ | apply List.Mem.tail)) (by exact rfl)) ?_
                    refine lyes rfl rfl rfl rfl ?_
                    refine gstepB rfl rfl (run_gtr (.tmp rfl) (.tmp rfl) (decide_eq_false (by omega))) ?_
                    refine lstepB rfl rfl rfl (by first | exact run_pick_true (.tmp rfl) .const | exact run_pick_false (.tmp rfl) (.tmp rfl)) ?_
                    refine lstepB rfl rfl rfl (run_move (.tmp rfl)) ?_
                    refine lyes rfl rfl rfl rfl ?_
                    refine gstepB rfl rfl (run_move (.tmp rfl)) ?_
                    refine lyes rfl rfl rfl rfl ?_
                    refine gstepB rfl rfl (run_move (.tmp rfl)) ?_
                    refine lyes rfl rfl rfl rfl ?_
                    refine gstepB rfl rfl (run_eql (.tmp rfl) (.tmp rfl) (decide_eq_true c1)) ?_
                    refine lyes rfl rfl rfl rfl ?_
                    refine gstepB rfl rfl (run_move (.tmp rfl)) ?_
                    refine lyes rfl rfl rfl rfl ?_
                    refine gstepB rfl rfl (run_move (.tmp rfl)) ?_
                    refine lyes rfl rfl rfl rfl ?_
                    refine gstepB rfl rfl (run_move (.tmp rfl)) ?_
                    refine lyes rfl rfl rfl rfl ?_
                    refine gstepB rfl rfl (run_shr (z := k + 1) (.tmp rfl) (.tmp rfl) (by omega)) ?_
                    refine lyes rfl rfl rfl rfl ?_
                    refine gstepB rfl rfl (run_and (c' := ((bitN (canN f.offs) (k + 1) : Nat) : Int)) (.tmp rfl) .const (and_one hqb)) ?_
                    refine lyes rfl rfl rfl rfl ?_
                    refine gstepB rfl rfl (run_eql (.tmp rfl) .const (decide_eq_false (hbB (hB1 c1)))) ?_
                    refine lyes rfl rfl rfl rfl ?_
                    refine gstepB rfl rfl (by first | exact run_pick_true (.tmp rfl) (.tmp rfl) | exact run_pick_false (.tmp rfl) .const) ?_
                    refine lstepB rfl rfl rfl (by first | exact run_pick_true (.tmp rfl) .const | exact run_pick_false (.tmp rfl) (.tmp rfl)) ?_
                    refine lstepB rfl rfl rfl (run_move (.tmp rfl)) ?_
                    refine lyes rfl rfl rfl rfl ?_
                    refine gstepB rfl rfl (run_move (.tmp rfl)) ?_
                    refine lyes rfl rfl rfl rfl ?_
                    refine gstepB rfl rfl (run_move (.tmp rfl)) ?_
                    refine lyes rfl rfl rfl rfl ?_
                    refine gstepB rfl rfl (run_lss (.tmp rfl) (.tmp rfl) (decide_eq_false (by omega))) ?_
                    refine lyes rfl rfl rfl rfl ?_
                    refine gstepB rfl rfl (run_move (.tmp rfl)) ?_
                    refine lskip rfl rfl rfl rfl rfl rfl rfl ?_
                    refine lskip rfl rfl rfl rfl rfl rfl rfl ?_
                    refine lskip rfl rfl rfl rfl rfl rfl rfl ?_
                    refine lskip rfl rfl rfl rfl rfl rfl rfl ?_
                    refine lskip rfl rfl rfl rfl rfl rfl rfl ?_
                    refine lyes rfl rfl rfl rfl ?_
                    refine gstepB rfl rfl (by first | exact run_pick_true (.tmp rfl) (.tmp rfl) | exact run_pick_false (.tmp rfl) .const) ?_
                    refine lstepB rfl rfl rfl (by first | exact run_pick_true (.tmp rfl) .const | exact run_pick_false (.tmp rfl) (.tmp rfl)) ?_
                    refine lstepB rfl rfl rfl (run_move (.tmp rfl)) ?_
                    refine lyes rfl rfl rfl rfl ?_
                    refine gstepB rfl rfl (run_move (.tmp rfl)) ?_
                    refine lyes rfl rfl rfl rfl ?_
                    refine gstepB rfl rfl (run_move (.tmp rfl)) ?_
                    refine lyes rfl rfl rfl rfl ?_
                    refine gstepB rfl rfl (run_shr (z := k + 1) (.tmp rfl) (.tmp rfl) (by omega)) ?_
                    refine lyes rfl rfl rfl rfl ?_
                    refine gstepB rfl rfl (run_and (c' := ((bitN (sureN f.offs) (k + 1) : Nat) : Int)) (.tmp rfl) .const (and_one hqa)) ?_
                    refine lyes rfl rfl rfl rfl ?_
                    refine gstepB rfl rfl (run_eql (.tmp rfl) .const (decide_eq_true (hbA.2 c2))) ?_
                    refine lyes rfl rfl rfl rfl ?_
                    refine gstepB rfl rfl (run_move (.tmp rfl)) ?_
                    refine lyes rfl rfl rfl rfl ?_
                    refine gstepB rfl rfl (run_fieldAddr (.tmp rfl) fa28_1 (by first | exact Nat.zero_add _ | exact rfl)) ?_
                    refine lyes rfl rfl rfl rfl ?_
                    refine gstepB rfl rfl (run_load1 (.tmp rfl) kd3 (by repeat (first | exact List.Mem.head _ | apply List.Mem.tail)) (by exact rfl)) ?_
                    refine lyes rfl rfl rfl rfl ?_
                    refine gstepB rfl rfl (run_fieldAddr (.tmp rfl) fa28_1 (by first | exact Nat.zero_add _ | exact rfl)) ?_
                    refine lyes rfl rfl rfl rfl ?_
                    refine gstepB rfl rfl (run_load1 (.tmp rfl) kd3 (by repeat (first | exact List.Mem.head _ | apply List.Mem.tail)) (by exact rfl)) ?_
                    refine lyes rfl rfl rfl rfl ?_
                    refine gstepB rfl rfl (run_neq (.tmp rfl) (.tmp rfl) (decide_eq_false (by rw [(hA c2).2]; simp))) ?_
                    refine lyes rfl rfl rfl rfl ?_
                    refine gstepB rfl rfl (by first | exact run_pick_true (.tmp rfl) (.tmp rfl) | exact run_pick_false (.tmp rfl) .const) ?_
                    refine lstepB rfl rfl rfl (by first | exact run_pick_true (.tmp rfl) .const | exact run_pick_false (.tmp rfl) (.tmp rfl)) ?_
                    refine lstepB rfl rfl rfl (run_move (.tmp rfl)) ?_
                    refine lyes rfl rfl rfl rfl ?_
                    refine gstepB rfl rfl (run_fieldAddr (.tmp rfl) fa28_1 (by first | exact Nat.zero_add _ | exact rfl)) ?_
                    refine lyes rfl rfl rfl rfl ?_
                    refine gstepB rfl rfl (run_load1 (.tmp rfl) kd3 (by repeat (first | exact List.Mem.head _ | apply List.Mem.tail)) (by exact rfl)) ?_
                    refine lyes rfl rfl rfl rfl ?_
                    refine gstepB rfl rfl (run_fieldAddr (.tmp rfl) fa28_1 (by first | exact Nat.zero_add _ | exact rfl)) ?_
                    refine lyes rfl rfl rfl rfl ?_
                    refine gstepB rfl rfl (run_load1 (.tmp rfl) kd3 (by repeat (first | exact List.Mem.head _ | apply List.Mem.tail)) (by exact rfl)) ?_
                    refine lyes rfl rfl rfl rfl ?_
                    refine gstepB rfl rfl (run_eql (.tmp rfl) (.tmp rfl) (decide_eq_false c3)) ?_
                    refine lyes rfl rfl rfl rfl ?_
                    refine gstepB rfl rfl (run_move (.tmp rfl)) ?_
                    refine lskip rfl rfl rfl rfl rfl rfl rfl ?_
                    refine lskip rfl rfl rfl rfl rfl rfl rfl ?_
                    refine lskip rfl rfl rfl rfl rfl rfl rfl ?_
                    refine lskip rfl rfl rfl rfl rfl rfl rfl ?_
                    refine lskip rfl rfl rfl rfl rfl rfl rfl ?_
                    refine lyes rfl rfl rfl rfl ?_
                    refine gstepB rfl rfl (by first | exact run_pick_true (.tmp rfl) (.tmp rfl) | exact run_pick_false (.tmp rfl) .const) ?_
                    refine lstepB rfl rfl rfl (by first | exact run_pick_true (.tmp rfl) .const | exact run_pick_false (.tmp rfl) (.tmp rfl)) ?_
                    refine lnil ?_
                    refine xw_then ?_
                    refine cw_cond_false (.tmp rfl) ?_
                    cases hb
                    case false =>
                      refine cw_skip ?_
                      refine xw_then ?_
                      refine cw_region ?_
                      refine lstepB rfl rfl rfl (run_move (.tmp rfl)) ?_
                      refine lstepB rfl rfl rfl (run_move (.tmp rfl)) ?_
                      refine lyes rfl rfl rfl rfl ?_
                      refine gstepB rfl rfl (run_fieldAddr (.tmp rfl) fa28_1 (by first | exact Nat.zero_add _ | exact rfl)) ?_
                      refine lyes rfl rfl rfl rfl ?_
                      refine gstepB rfl rfl (run_load1 (.tmp rfl) kd3 (by repeat (first | exact List.Mem.head _ | apply List.Mem.tail)) (by exact rfl)) ?_
                      refine lyes rfl rfl rfl rfl ?_
                      refine gstepB rfl rfl (run_fieldAddr (.tmp rfl) fa28_1 (by first | exact Nat.zero_add _ | exact rfl)) ?_
                      refine lyes rfl rfl rfl rfl ?_
                      refine gstepB rfl rfl (run_load1 (.tmp rfl) kd3 (by repeat (first | exact List.Mem.head _ | apply List.Mem.tail)) (by exact rfl)) ?_
                      refine lyes rfl rfl rfl rfl ?_
                      refine gstepB rfl rfl (run_eql (.tmp rfl) (.tmp rfl) (decide_eq_false c3)) ?_
                      refine lstepB rfl rfl rfl (by first | exact run_pick_true (.tmp rfl) .const | exact run_pick_false (.tmp rfl) (.tmp rfl)) ?_
                      refine lstepB rfl rfl rfl (run_assign (.tmp rfl)) ?_
                      refine lnil ?_
                      refine xw_in ?_
                      refine xw_then ?_
                      refine cw_region ?_
                      refine lstepB rfl rfl rfl (run_move (.tmp rfl)) ?_
                      refine lstepB rfl rfl rfl (run_add (c := ((k + 1 + 1 : Nat) : Int)) (.tmp rfl) .const (by rw [show ((k + 1 + 1 : Nat) : Int) = ((k + 1 : Nat) : Int) + 1 by omega]; exact IntWalk.i64_in _ (by omega))) ?_
                      refine lstepB rfl rfl rfl (run_assign (.tmp rfl)) ?_
                      refine lnil ?_
                      exact xw_round (k + 1, false) ⟨by simp only; omega, ⟨fun h => (by cases h), fun ⟨j, hj, e⟩ => by rcases Nat.lt_or_ge j (k + 1) with h | h; exact hhb.2 ⟨j, by omega, e⟩; exact absurd (by rw [show j = k + 1 by omega] at e; exact e) c3⟩⟩ (by show f.offs.length - (k + 1) < f.offs.length - k; omega) (by repeat (first | exact Less.nil | refine Less.cons rfl ?_)) (by repeat (first | exact Pick.nil | (apply Pick.cons; focus (repeat (first | exact Del.here | apply Del.there)))))
                    case true =>
                      refine cw_skip ?_
                      refine xw_then ?_
                      refine cw_region ?_
                      refine lstepB rfl rfl rfl (run_move (.tmp rfl)) ?_
                      refine lstepB rfl rfl rfl (run_move (.tmp rfl)) ?_
                      refine lskip rfl rfl rfl rfl rfl rfl rfl ?_
                      refine lskip rfl rfl rfl rfl rfl rfl rfl ?_
                      refine lskip rfl rfl rfl rfl rfl rfl rfl ?_
                      refine lskip rfl rfl rfl rfl rfl rfl rfl ?_
                      refine lskip rfl rfl rfl rfl rfl rfl rfl ?_
                      refine lstepB rfl rfl rfl (by first | exact run_pick_true (.tmp rfl) .const | exact run_pick_false (.tmp rfl) (.tmp rfl)) ?_
                      refine lstepB rfl rfl rfl (run_assign (.tmp rfl)) ?_
                      refine lnil ?_
                      refine xw_in ?_
                      refine xw_then ?_
                      refine cw_region ?_
                      refine lstepB rfl rfl rfl (run_move (.tmp rfl)) ?_
                      refine lstepB rfl rfl rfl (run_add (c := ((k + 1 + 1 : Nat) : Int)) (.tmp rfl) .const (by rw [show ((k + 1 + 1 : Nat) : Int) = ((k + 1 : Nat) : Int) + 1 by omega]; exact IntWalk.i64_in _ (by omega))) ?_
                      refine lstepB rfl rfl rfl (run_assign (.tmp rfl)) ?_
                      refine lnil ?_
                      exact xw_round (k + 1, true) ⟨by simp only; omega, ⟨fun _ => by obtain ⟨j, hj, e⟩ := hhb.1 rfl; exact ⟨j, by omega, e⟩, fun _ => rfl⟩⟩ (by show f.offs.length - (k + 1) < f.offs.length - k; omega) (by repeat (first | exact Less.nil | refine Less.cons rfl ?_)) (by repeat (first | exact Pick.nil | (apply Pick.cons; focus (repeat (first | exact Del.here | apply Del.there)))))
                ·
                  by_cases c3 : (bendS f.offs (k + 1)).hi = (bendT f.offs).hi
                  ·
                    refine lstepB rfl rfl rfl (run_move (.tmp rfl)) ?_
                    refine lstepB rfl rfl rfl (run_extract (.tmp rfl) rfl) ?_
                    refine lstepB rfl rfl rfl (run_extract (.tmp rfl) rfl) ?_
                    refine lstep rfl rfl rfl (run_alloc zr28) ?_
                    intro b20 _
                    refine lstep0 rfl rfl (run_storeN (.tmp rfl) (.tmp rfl) rfl sz28 rfl (by repeat (first | exact Upd.here | apply Upd.there)) (by repeat (first | exact Put.done | apply Put.put | apply Put.skip))) ?_
                    refine lstepB rfl rfl rfl (run_assign (.tmp rfl)) ?_
                    refine lnil ?_
                    refine xw_then ?_
                    refine cw_seq ?_
                    refine cw_seq ?_
                    refine cw_region ?_
                    refine lstepB rfl rfl rfl (run_move (.tmp rfl)) ?_
                    refine lstepB rfl rfl rfl (run_neq (.tmp rfl) .const (by first | exact decide_eq_true (by omega) | exact decide_eq_false (by omega) | exact rfl)) ?_
                    refine lstepB rfl rfl rfl (run_move (.tmp rfl)) ?_
                    refine lyes rfl rfl rfl rfl ?_
                    refine gstepB rfl rfl (run_move (.tmp rfl)) ?_
                    refine lyes rfl rfl rfl rfl ?_
                    refine gstepB rfl rfl (run_loadN (.tmp rfl) kd28 sz28 (by repeat (first | exact List.Mem.head _ | apply List.Mem.tail)) (by repeat (first | exact Sub.done | apply Sub.take | apply Sub.skip))) ?_
                    refine lyes rfl rfl rfl rfl ?_
                    refine gstepB rfl rfl (run_call1 cb33 (.cons (.tmp rfl) (.cons (.tmp rfl) .nil)) (fun w2 _ => (insideK _ _ w2).as (congrArg Value.bool hin))) ?_
                    refine lyes rfl rfl rfl rfl ?_
                    refine gstepB rfl rfl (run_not (.tmp rfl) (by first | exact Bool.not_true | exact Bool.not_false | exact rfl)) ?_
                    refine lstepB rfl rfl rfl (by first | exact run_pick_true (.tmp rfl) .const | exact run_pick_false (.tmp rfl) (.tmp rfl)) ?_
                    refine lstepB rfl rfl rfl (run_move (.tmp rfl)) ?_
                    refine lyes rfl rfl rfl rfl ?_
                    refine gstepB rfl rfl (run_fieldAddr (.tmp rfl) fa28_1 (by first | exact Nat.zero_add _ | exact rfl)) ?_
                    refine lyes rfl rfl rfl rfl ?_
                    refine gstepB rfl rfl (run_load1 (.tmp rfl) kd3 (by repeat (first | exact List.Mem.head _ | apply List.Mem.tail)) (by exact rfl)) ?_
                    refine lyes rfl rfl rfl rfl ?_
                    refine gstepB rfl rfl (run_fieldAddr (.tmp rfl) fa28_1 (by first | exact Nat.zero_add _ | exact rfl)) ?_
                    refine lyes rfl rfl rfl rfl ?_
                    refine gstepB rfl rfl (run_load1 (.tmp rfl) kd3 (by repeat (first | exact List.Mem.head _ | apply List.Mem.tail)) (by exact rfl)) ?_
                    refine lyes rfl rfl rfl rfl ?_
                    refine gstepB rfl rfl (run_gtr (.tmp rfl) (.tmp rfl) (decide_eq_false (by omega))) ?_
                    refine lstepB rfl rfl rfl (by first | exact run_pick_true (.tmp rfl) .const | exact run_pick_false (.tmp rfl) (.tmp rfl)) ?_
                    refine lstepB rfl rfl rfl (run_move (.tmp rfl)) ?_
                    refine lyes rfl rfl rfl rfl ?_
                    refine gstepB rfl rfl (run_move (.tmp rfl)) ?_
                    refine lyes rfl rfl rfl rfl ?_
                    refine gstepB rfl rfl (run_move (.tmp rfl)) ?_
                    refine lyes rfl rfl rfl rfl ?_
                    refine gstepB rfl rfl (run_eql (.tmp rfl) (.tmp rfl) (decide_eq_true c1)) ?_
                    refine lyes rfl rfl rfl rfl ?_
                    refine gstepB rfl rfl (run_move (.tmp rfl)) ?_
                    refine lyes rfl rfl rfl rfl ?_
                    refine gstepB rfl rfl (run_move (.tmp rfl)) ?_
                    refine lyes rfl rfl rfl rfl ?_
                    refine gstepB rfl rfl (run_move (.tmp rfl)) ?_
                    refine lyes rfl rfl rfl rfl ?_
                    refine gstepB rfl rfl (run_shr (z := k + 1) (.tmp rfl) (.tmp rfl) (by omega)) ?_
                    refine lyes rfl rfl rfl rfl ?_
                    refine gstepB rfl rfl (run_and (c' := ((bitN (canN f.offs) (k + 1) : Nat) : Int)) (.tmp rfl) .const (and_one hqb)) ?_
                    refine lyes rfl rfl rfl rfl ?_
                    refine gstepB rfl rfl (run_eql (.tmp rfl) .const (decide_eq_false (hbB (hB1 c1)))) ?_
                    refine lyes rfl rfl rfl rfl ?_
                    refine gstepB rfl rfl (by first | exact run_pick_true (.tmp rfl) (.tmp rfl) | exact run_pick_false (.tmp rfl) .const) ?_
                    refine lstepB rfl rfl rfl (by first | exact run_pick_true (.tmp rfl) .const | exact run_pick_false (.tmp rfl) (.tmp rfl)) ?_
                    refine lstepB rfl rfl rfl (run_move (.tmp rfl)) ?_
                    refine lyes rfl rfl rfl rfl ?_
                    refine gstepB rfl rfl (run_move (.tmp rfl)) ?_
                    refine lyes rfl rfl rfl rfl ?_
                    refine gstepB rfl rfl (run_move (.tmp rfl)) ?_
                    refine lyes rfl rfl rfl rfl ?_
                    refine gstepB rfl rfl (run_lss (.tmp rfl) (.tmp rfl) (decide_eq_false (by omega))) ?_
                    refine lyes rfl rfl rfl rfl ?_
                    refine gstepB rfl rfl (run_move (.tmp rfl)) ?_
                    refine lskip rfl rfl rfl rfl rfl rfl rfl ?_
                    refine lskip rfl rfl rfl rfl rfl rfl rfl ?_
                    refine lskip rfl rfl rfl rfl rfl rfl rfl ?_
                    refine lskip rfl rfl rfl rfl rfl rfl rfl ?_
                    refine lskip rfl rfl rfl rfl rfl rfl rfl ?_
                    refine lyes rfl rfl rfl rfl ?_
                    refine gstepB rfl rfl (by first | exact run_pick_true (.tmp rfl) (.tmp rfl) | exact run_pick_false (.tmp rfl) .const) ?_
                    refine lstepB rfl rfl rfl (by first | exact run_pick_true (.tmp rfl) .const | exact run_pick_false (.tmp rfl) (.tmp rfl)) ?_
                    refine lstepB rfl rfl rfl (run_move (.tmp rfl)) ?_
                    refine lyes rfl rfl rfl rfl ?_
                    refine gstepB rfl rfl (run_move (.tmp rfl)) ?_
                    refine lyes rfl rfl rfl rfl ?_
                    refine gstepB rfl rfl (run_move (.tmp rfl)) ?_
                    refine lyes rfl rfl rfl rfl ?_
                    refine gstepB rfl rfl (run_shr (z := k + 1) (.tmp rfl) (.tmp rfl) (by omega)) ?_
                    refine lyes rfl rfl rfl rfl ?_
                    refine gstepB rfl rfl (run_and (c' := ((bitN (sureN f.offs) (k + 1) : Nat) : Int)) (.tmp rfl) .const (and_one hqa)) ?_
                    refine lyes rfl rfl rfl rfl ?_
                    refine gstepB rfl rfl (run_eql (.tmp rfl) .const (decide_eq_false (fun h => c2 (hbA.1 h)))) ?_
                    refine lyes rfl rfl rfl rfl ?_
                    refine gstepB rfl rfl (run_move (.tmp rfl)) ?_
                    refine lskip rfl rfl rfl rfl rfl rfl rfl ?_
                    refine lskip rfl rfl rfl rfl rfl rfl rfl ?_
                    refine lskip rfl rfl rfl rfl rfl rfl rfl ?_
                    refine lskip rfl rfl rfl rfl rfl rfl rfl ?_
                    refine lskip rfl rfl rfl rfl rfl rfl rfl ?_
                    refine lyes rfl rfl rfl rfl ?_
                    refine gstepB rfl rfl (by first | exact run_pick_true (.tmp rfl) (.tmp rfl) | exact run_pick_false (.tmp rfl) .const) ?_
                    refine lstepB rfl rfl rfl (by first | exact run_pick_true (.tmp rfl) .const | exact run_pick_false (.tmp rfl) (.tmp rfl)) ?_
                    refine lstepB rfl rfl rfl (run_move (.tmp rfl)) ?_
                    refine lyes rfl rfl rfl rfl ?_
                    refine gstepB rfl rfl (run_fieldAddr (.tmp rfl) fa28_1 (by first | exact Nat.zero_add _ | exact rfl)) ?_
                    refine lyes rfl rfl rfl rfl ?_
                    refine gstepB rfl rfl (run_load1 (.tmp rfl) kd3 (by repeat (first | exact List.Mem.head _ | apply List.Mem.tail)) (by exact rfl)) ?_
                    refine lyes rfl rfl rfl rfl ?_
                    refine gstepB rfl rfl (run_fieldAddr (.tmp rfl) fa28_1 (by first | exact Nat.zero_add _ | exact rfl)) ?_
                    refine lyes rfl rfl rfl rfl ?_
                    refine gstepB rfl rfl (run_load1 (.tmp rfl) kd3 (by repeat (first | exact List.Mem.head _ | apply List.Mem.tail)) (by exact rfl)) ?_
                    refine lyes rfl rfl rfl rfl ?_
                    refine gstepB rfl rfl (run_eql (.tmp rfl) (.tmp rfl) (decide_eq_true c3)) ?_
                    refine lyes rfl rfl rfl rfl ?_
                    refine gstepB rfl rfl (run_move (.tmp rfl)) ?_
                    refine lyes rfl rfl rfl rfl ?_
                    refine gstepB rfl rfl (run_move (.tmp rfl)) ?_
                    refine lyes rfl rfl rfl rfl ?_
                    refine gstepB rfl rfl (run_move (.tmp rfl)) ?_
                    refine lyes rfl rfl rfl rfl ?_
                    refine gstepB rfl rfl (run_shr (z := k + 1) (.tmp rfl) (.tmp rfl) (by omega)) ?_
                    refine lyes rfl rfl rfl rfl ?_
                    refine gstepB rfl rfl (run_and (c' := ((bitN (canN f.offs) (k + 1) : Nat) : Int)) (.tmp rfl) .const (and_one hqb)) ?_
                    refine lyes rfl rfl rfl rfl ?_
                    refine gstepB rfl rfl (run_eql (.tmp rfl) .const (decide_eq_false (hbB (hB2 c3)))) ?_
                    refine lyes rfl rfl rfl rfl ?_
                    refine gstepB rfl rfl (by first | exact run_pick_true (.tmp rfl) (.tmp rfl) | exact run_pick_false (.tmp rfl) .const) ?_
                    refine lstepB rfl rfl rfl (by first | exact run_pick_true (.tmp rfl) .const | exact run_pick_false (.tmp rfl) (.tmp rfl)) ?_
                    refine lnil ?_
                    refine xw_then ?_
                    refine cw_cond_false (.tmp rfl) ?_
                    cases hb
                    case false =>
                      refine cw_skip ?_
                      refine xw_then ?_
                      refine cw_region ?_
                      refine lstepB rfl rfl rfl (run_move (.tmp rfl)) ?_
                      refine lstepB rfl rfl rfl (run_move (.tmp rfl)) ?_
                      refine lyes rfl rfl rfl rfl ?_
                      refine gstepB rfl rfl (run_fieldAddr (.tmp rfl) fa28_1 (by first | exact Nat.zero_add _ | exact rfl)) ?_
                      refine lyes rfl rfl rfl rfl ?_
                      refine gstepB rfl rfl (run_load1 (.tmp rfl) kd3 (by repeat (first | exact List.Mem.head _ | apply List.Mem.tail)) (by exact rfl)) ?_
                      refine lyes rfl rfl rfl rfl ?_
                      refine gstepB rfl rfl (run_fieldAddr (.tmp rfl) fa28_1 (by first | exact Nat.zero_add _ | exact rfl)) ?_
                      refine lyes rfl rfl rfl rfl ?_
                      refine gstepB rfl rfl (run_load1 (.tmp rfl) kd3 (by repeat (first | exact List.Mem.head _ | apply List.Mem.tail)) (by exact rfl)) ?_
                      refine lyes rfl rfl rfl rfl ?_
                      refine gstepB rfl rfl (run_eql (.tmp rfl) (.tmp rfl) (decide_eq_true c3)) ?_
                      refine lstepB rfl rfl rfl (by first | exact run_pick_true (.tmp rfl) .const | exact run_pick_false (.tmp rfl) (.tmp rfl)) ?_
                      refine lstepB rfl rfl rfl (run_assign (.tmp rfl)) ?_
                      refine lnil ?_
                      refine xw_in ?_
                      refine xw_then ?_
                      refine cw_region ?_
                      refine lstepB rfl rfl rfl (run_move (.tmp rfl)) ?_
                      refine lstepB rfl rfl rfl (run_add (c := ((k + 1 + 1 : Nat) : Int)) (.tmp rfl) .const (by rw [show ((k + 1 + 1 : Nat) : Int) = ((k + 1 : Nat) : Int) + 1 by omega]; exact IntWalk.i64_in _ (by omega))) ?_
                      refine lstepB rfl rfl rfl (run_assign (.tmp rfl)) ?_
                      refine lnil ?_
                      exact xw_round (k + 1, true) ⟨by simp only; omega, ⟨fun _ => ⟨k + 1, by omega, c3⟩, fun _ => rfl⟩⟩ (by show f.offs.length - (k + 1) < f.offs.length - k; omega) (by repeat (first | exact Less.nil | refine Less.cons rfl ?_)) (by repeat (first | exact Pick.nil | (apply Pick.cons; focus (repeat (first | exact Del.here | apply Del.there)))))
                    case true =>
                      refine cw_skip ?_
                      refine xw_then ?_
                      refine cw_region ?_
                      refine lstepB rfl rfl rfl (run_move (.tmp rfl)) ?_
                      refine lstepB rfl rfl rfl (run_move (.tmp rfl)) ?_
                      refine lskip rfl rfl rfl rfl rfl rfl rfl ?_
                      refine lskip rfl rfl rfl rfl rfl rfl rfl ?_
                      refine lskip rfl rfl rfl rfl rfl rfl rfl ?_
                      refine lskip rfl rfl rfl rfl rfl rfl rfl ?_
                      refine lskip rfl rfl rfl rfl rfl rfl rfl ?_
                      refine lstepB rfl rfl rfl (by first | exact run_pick_true (.tmp rfl) .const | exact run_pick_false (.tmp rfl) (.tmp rfl)) ?_
                      refine lstepB rfl rfl rfl (run_assign (.tmp rfl)) ?_
                      refine lnil ?_
                      refine xw_in ?_
                      refine xw_then ?_
                      refine cw_region ?_
                      refine lstepB rfl rfl rfl (run_move (.tmp rfl)) ?_
                      refine lstepB rfl rfl rfl (run_add (c := ((k + 1 + 1 : Nat) : Int)) (.tmp rfl) .const (by rw [show ((k + 1 + 1 : Nat) : Int) = ((k + 1 : Nat) : Int) + 1 by omega]; exact IntWalk.i64_in _ (by omega))) ?_
                      refine lstepB rfl rfl rfl (run_assign (.tmp rfl)) ?_
                      refine lnil ?_
                      exact xw_round (k + 1, true) ⟨by simp only; omega, ⟨fun _ => ⟨k + 1, by omega, c3⟩, fun _ => rfl⟩⟩ (by show f.offs.length - (k + 1) < f.offs.length - k; omega) (by repeat (first | exact Less.nil | refine Less.cons rfl ?_)) (by repeat (first | exact Pick.nil | (apply Pick.cons; focus (repeat (first | exact Del.here | apply Del.there)))))
                  ·
                    refine lstepB rfl rfl rfl (run_move (.tmp rfl)) ?_
                    refine lstepB rfl rfl rfl (run_extract (.tmp rfl) rfl) ?_
                    refine lstepB rfl rfl rfl (run_extract (.tmp rfl) rfl) ?_
                    refine lstep rfl rfl rfl (run_alloc zr28) ?_
                    intro b20 _
                    refine lstep0 rfl rfl (run_storeN (.tmp rfl) (.tmp rfl) rfl sz28 rfl (by repeat (first | exact Upd.here | apply Upd.there)) (by repeat (first | exact Put.done | apply Put.put | apply Put.skip))) ?_
                    refine lstepB rfl rfl rfl (run_assign (.tmp rfl)) ?_
                    refine lnil ?_
                    refine xw_then ?_
                    refine cw_seq ?_
                    refine cw_seq ?_
                    refine cw_region ?_
                    refine lstepB rfl rfl rfl (run_move (.tmp rfl)) ?_
                    refine lstepB rfl rfl rfl (run_neq (.tmp rfl) .const (by first | exact decide_eq_true (by omega) | exact decide_eq_false (by omega) | exact rfl)) ?_
                    refine lstepB rfl rfl rfl (run_move (.tmp rfl)) ?_
                    refine lyes rfl rfl rfl rfl ?_
                    refine gstepB rfl rfl (run_move (.tmp rfl)) ?_
                    refine lyes rfl rfl rfl rfl ?_
                    refine gstepB rfl rfl (run_loadN (.tmp rfl) kd28 sz28 (by repeat (first | exact List.Mem.head _ | apply List.Mem.tail)) (by repeat (first | exact Sub.done | apply Sub.take | apply Sub.skip))) ?_
                    refine lyes rfl rfl rfl rfl ?_
                    refine gstepB rfl rfl (run_call1 cb33 (.cons (.tmp rfl) (.cons (.tmp rfl) .nil)) (fun w2 _ => (insideK _ _ w2).as (congrArg Value.bool hin))) ?_
                    refine lyes rfl rfl rfl rfl ?_
                    refine gstepB rfl rfl (run_not (.tmp rfl) (by first | exact Bool.not_true | exact Bool.not_false | exact rfl)) ?_
                    refine lstepB rfl rfl rfl (by first | exact run_pick_true (.tmp rfl) .const | exact run_pick_false (.tmp rfl) (.tmp rfl)) ?_
                    refine lstepB rfl rfl rfl (run_move (.tmp rfl)) ?_
                    refine lyes rfl rfl rfl rfl ?_
                    refine gstepB rfl rfl (run_fieldAddr (.tmp rfl) fa28_1 (by first | exact Nat.zero_add _ | exact rfl)) ?_
                    refine lyes rfl rfl rfl rfl ?_
                    refine gstepB rfl rfl (run_load1 (.tmp rfl) kd3 (by repeat (first | exact List.Mem.head _ | apply List.Mem.tail)) (by exact rfl)) ?_
                    refine lyes rfl rfl rfl rfl ?_
                    refine gstepB rfl rfl (run_fieldAddr (.tmp rfl) fa28_1 (by first | exact Nat.zero_add _ | exact rfl)) ?_
                    refine lyes rfl rfl rfl rfl ?_
                    refine gstepB rfl rfl (run_load1 (.tmp rfl) kd3 (by repeat (first | exact List.Mem.head _ | apply List.Mem.tail)) (by exact rfl)) ?_
                    refine lyes rfl rfl rfl rfl ?_
                    refine gstepB rfl rfl (run_gtr (.tmp rfl) (.tmp rfl) (decide_eq_false (by omega))) ?_
                    refine lstepB rfl rfl rfl (by first | exact run_pick_true (.tmp rfl) .const | exact run_pick_false (.tmp rfl) (.tmp rfl)) ?_
                    refine lstepB rfl rfl rfl (run_move (.tmp rfl)) ?_
                    refine lyes rfl rfl rfl rfl ?_
                    refine gstepB rfl rfl (run_move (.tmp rfl)) ?_
                    refine lyes rfl rfl rfl rfl ?_
                    refine gstepB rfl rfl (run_move (.tmp rfl)) ?_
                    refine lyes rfl rfl rfl rfl ?_
                    refine gstepB rfl rfl (run_eql (.tmp rfl) (.tmp rfl) (decide_eq_true c1)) ?_
                    refine lyes rfl rfl rfl rfl ?_
                    refine gstepB rfl rfl (run_move (.tmp rfl)) ?_
                    refine lyes rfl rfl rfl rfl ?_
                    refine gstepB rfl rfl (run_move (.tmp rfl)) ?_
                    refine lyes rfl rfl rfl rfl ?_
                    refine gstepB rfl rfl (run_move (.tmp rfl)) ?_
                    refine lyes rfl rfl rfl rfl ?_
                    refine gstepB rfl rfl (run_shr (z := k + 1) (.tmp rfl) (.tmp rfl) (by omega)) ?_
                    refine lyes rfl rfl rfl rfl ?_
                    refine gstepB rfl rfl (run_and (c' := ((bitN (canN f.offs) (k + 1) : Nat) : Int)) (.tmp rfl) .const (and_one hqb)) ?_
                    refine lyes rfl rfl rfl rfl ?_
                    refine gstepB rfl rfl (run_eql (.tmp rfl) .const (decide_eq_false (hbB (hB1 c1)))) ?_
                    refine lyes rfl rfl rfl rfl ?_
                    refine gstepB rfl rfl (by first | exact run_pick_true (.tmp rfl) (.tmp rfl) | exact run_pick_false (.tmp rfl) .const) ?_
                    refine lstepB rfl rfl rfl (by first | exact run_pick_true (.tmp rfl) .const | exact run_pick_false (.tmp rfl) (.tmp rfl)) ?_
                    refine lstepB rfl rfl rfl (run_move (.tmp rfl)) ?_
                    refine lyes rfl rfl rfl rfl ?_
                    refine gstepB rfl rfl (run_move (.tmp rfl)) ?_
                    refine lyes rfl rfl rfl rfl ?_
                    refine gstepB rfl rfl (run_move (.tmp rfl)) ?_
                    refine lyes rfl rfl rfl rfl ?_
                    refine gstepB rfl rfl (run_lss (.tmp rfl) (.tmp rfl) (decide_eq_false (by omega))) ?_
                    refine lyes rfl rfl rfl rfl ?_
                    refine gstepB rfl rfl (run_move (.tmp rfl)) ?_
                    refine lskip rfl rfl rfl rfl rfl rfl rfl ?_
                    refine lskip rfl rfl rfl rfl rfl rfl rfl ?_
                    refine lskip rfl rfl rfl rfl rfl rfl rfl ?_
                    refine lskip rfl rfl rfl rfl rfl rfl rfl ?_
                    refine lskip rfl rfl rfl rfl rfl rfl rfl ?_
                    refine lyes rfl rfl rfl rfl ?_
                    refine gstepB rfl rfl (by first | exact run_pick_true (.tmp rfl) (.tmp rfl) | exact run_pick_false (.tmp rfl) .const) ?_
                    refine lstepB rfl rfl rfl (by first | exact run_pick_true (.tmp rfl) .const | exact run_pick_false (.tmp rfl) (.tmp rfl)) ?_
                    refine lstepB rfl rfl rfl (run_move (.tmp rfl)) ?_
                    refine lyes rfl rfl rfl rfl ?_
                    refine gstepB rfl rfl (run_move (.tmp rfl)) ?_
                    refine lyes rfl rfl rfl rfl ?_
                    refine gstepB rfl rfl (run_move (.tmp rfl)) ?_
                    refine lyes rfl rfl rfl rfl ?_
                    refine gstepB rfl rfl (run_shr (z := k + 1) (.tmp rfl) (.tmp rfl) (by omega)) ?_
                    refine lyes rfl rfl rfl rfl ?_
                    refine gstepB rfl rfl (run_and (c' := ((bitN (sureN f.offs) (k + 1) : Nat) : Int)) (.tmp rfl) .const (and_one hqa)) ?_
                    refine lyes rfl rfl rfl rfl ?_
                    refine gstepB rfl rfl (run_eql (.tmp rfl) .const (decide_eq_false (fun h => c2 (hbA.1 h)))) ?_
                    refine lyes rfl rfl rfl rfl ?_
                    refine gstepB rfl rfl (run_move (.tmp rfl)) ?_
                    refine lskip rfl rfl rfl rfl rfl rfl rfl ?_
                    refine lskip rfl rfl rfl rfl rfl rfl rfl ?_
                    refine lskip rfl rfl rfl rfl rfl rfl rfl ?_
                    refine lskip rfl rfl rfl rfl rfl rfl rfl ?_
                    refine lskip rfl rfl rfl rfl rfl rfl rfl ?_
                    refine lyes rfl rfl rfl rfl ?_
                    refine gstepB rfl rfl (by first | exact run_pick_true (.tmp rfl) (.tmp rfl) | exact run_pick_false (.tmp rfl) .const) ?_
                    refine lstepB rfl rfl rfl (by first | exact run_pick_true (.tmp rfl) .const | exact run_pick_false (.tmp rfl) (.tmp rfl)) ?_
                    refine lstepB rfl rfl rfl (run_move (.tmp rfl)) ?_
                    refine lyes rfl rfl rfl rfl ?_
                    refine gstepB rfl rfl (run_fieldAddr (.tmp rfl) fa28_1 (by first | exact Nat.zero_add _ | exact rfl)) ?_
                    refine lyes rfl rfl rfl rfl ?_
                    refine gstepB rfl rfl (run_load1 (.tmp rfl) kd3 (by repeat (first | exact List.Mem.head _ | apply List.Mem.tail)) (by exact rfl)) ?_
                    refine lyes rfl rfl rfl rfl ?_
                    refine gstepB rfl rfl (run_fieldAddr (.tmp rfl) fa28_1 (by first | exact Nat.zero_add _ | exact rfl)) ?_
                    refine lyes rfl rfl rfl rfl ?_
                    refine gstepB rfl rfl (run_load1 (.tmp rfl) kd3 (by repeat (first | exact List.Mem.head _ | apply List.Mem.tail)) (by exact rfl)) ?_
                    refine lyes rfl rfl rfl rfl ?_
                    refine gstepB rfl rfl (run_eql (.tmp rfl) (.tmp rfl) (decide_eq_false c3)) ?_
                    refine lyes rfl rfl rfl rfl ?_
                    refine gstepB rfl rfl (run_move (.tmp rfl)) ?_
                    refine lskip rfl rfl rfl rfl rfl rfl rfl ?_
                    refine lskip rfl rfl rfl rfl rfl rfl rfl ?_
                    refine lskip rfl rfl rfl rfl rfl rfl rfl ?_
                    refine lskip rfl rfl rfl rfl rfl rfl rfl ?_
                    refine lskip rfl rfl rfl rfl rfl rfl rfl ?_
                    refine lyes rfl rfl rfl rfl ?_
                    refine gstepB rfl rfl (by first | exact run_pick_true (.tmp rfl) (.tmp rfl) | exact run_pick_false (.tmp rfl) .const) ?_
                    refine lstepB rfl rfl rfl (by first | exact run_pick_true (.tmp rfl) .const | exact run_pick_false (.tmp rfl) (.tmp rfl)) ?_
                    refine lnil ?_
                    refine xw_then ?_
                    refine cw_cond_false (.tmp rfl) ?_
                    cases hb
                    case false =>
                      refine cw_skip ?_
                      refine xw_then ?_
                      refine cw_region ?_
                      refine lstepB rfl rfl rfl (run_move (.tmp rfl)) ?_
                      refine lstepB rfl rfl rfl (run_move (.tmp rfl)) ?_
                      refine lyes rfl rfl rfl rfl ?_
                      refine gstepB rfl rfl (run_fieldAddr (.tmp rfl) fa28_1 (by first | exact Nat.zero_add _ | exact rfl)) ?_
                      refine lyes rfl rfl rfl rfl ?_
                      refine gstepB rfl rfl (run_load1 (.tmp rfl) kd3 (by repeat (first | exact List.Mem.head _ | apply List.Mem.tail)) (by exact rfl)) ?_
                      refine lyes rfl rfl rfl rfl ?_
                      refine gstepB rfl rfl (run_fieldAddr (.tmp rfl) fa28_1 (by first | exact Nat.zero_add _ | exact rfl)) ?_
                      refine lyes rfl rfl rfl rfl ?_
                      refine gstepB rfl rfl (run_load1 (.tmp rfl) kd3 (by repeat (first | exact List.Mem.head _ | apply List.Mem.tail)) (by exact rfl)) ?_
                      refine lyes rfl rfl rfl rfl ?_
                      refine gstepB rfl rfl (run_eql (.tmp rfl) (.tmp rfl) (decide_eq_false c3)) ?_
                      refine lstepB rfl rfl rfl (by first | exact run_pick_true (.tmp rfl) .const | exact run_pick_false (.tmp rfl) (.tmp rfl)) ?_
                      refine lstepB rfl rfl rfl (run_assign (.tmp rfl)) ?_
                      refine lnil ?_
                      refine xw_in ?_
                      refine xw_then ?_
                      refine cw_region ?_
                      refine lstepB rfl rfl rfl (run_move (.tmp rfl)) ?_
                      refine lstepB rfl rfl rfl (run_add (c := ((k + 1 + 1 : Nat) : Int)) (.tmp rfl) .const (by rw [show ((k + 1 + 1 : Nat) : Int) = ((k + 1 : Nat) : Int) + 1 by omega]; exact IntWalk.i64_in _ (by omega))) ?_
                      refine lstepB rfl rfl rfl (run_assign (.tmp rfl)) ?_
                      refine lnil ?_
                      exact xw_round (k + 1, false) ⟨by simp only; omega, ⟨fun h => (by cases h), fun ⟨j, hj, e⟩ => by rcases Nat.lt_or_ge j (k + 1) with h | h; exact hhb.2 ⟨j, by omega, e⟩; exact absurd (by rw [show j = k + 1 by omega] at e; exact e) c3⟩⟩ (by show f.offs.length - (k + 1) < f.offs.length - k; omega) (by repeat (first | exact Less.nil | refine Less.cons rfl ?_)) (by repeat (first | exact Pick.nil | (apply Pick.cons; focus (repeat (first | exact Del.here | apply Del.there)))))
                    case true =>
                      refine cw_skip ?_
                      refine xw_then ?_
                      refine cw_region ?_
                      refine lstepB rfl rfl rfl (run_move (.tmp rfl)) ?_
                      refine lstepB rfl rfl rfl (run_move (.tmp rfl)) ?_
                      refine lskip rfl rfl rfl rfl rfl rfl rfl ?_
                      refine lskip rfl rfl rfl rfl rfl rfl rfl ?_
                      refine lskip rfl rfl rfl rfl rfl rfl rfl ?_
                      refine lskip rfl rfl rfl rfl rfl rfl rfl ?_
                      refine lskip rfl rfl rfl rfl rfl rfl rfl ?_
                      refine lstepB rfl rfl rfl (by first | exact run_pick_true (.tmp rfl) .const | exact run_pick_false (.tmp rfl) (.tmp rfl)) ?_
                      refine lstepB rfl rfl rfl (run_assign (.tmp rfl)) ?_
                      refine lnil ?_
                      refine xw_in ?_
                      refine xw_then ?_
                      refine cw_region ?_
                      refine lstepB rfl rfl rfl (run_move (.tmp rfl)) ?_
                      refine lstepB rfl rfl rfl (run_add (c := ((k + 1 + 1 : Nat) : Int)) (.tmp rfl) .const (by rw [show ((k + 1 + 1 : Nat) : Int) = ((k + 1 : Nat) : Int) + 1 by omega]; exact IntWalk.i64_in _ (by omega))) ?_
                      refine lstepB rfl rfl rfl (run_assign (.tmp rfl)) ?_
                      refine lnil ?_
                      exact xw_round (k + 1, true) ⟨by simp only; omega, ⟨fun _ => by obtain ⟨j, hj, e⟩ := hhb.1 rfl; exact ⟨j, by omega, e⟩, fun _ => rfl⟩⟩ (by show f.offs.length - (k + 1) < f.offs.length - k; omega) (by repeat (first | exact Less.nil | refine Less.cons rfl ?_)) (by repeat (first | exact Pick.nil | (apply Pick.cons; focus (repeat (first | exact Del.here | apply Del.there)))))
              ·
                by_cases c2 : (sureN f.offs).testBit (k + 1) = true
                ·
                  exact absurd (show bentT s (k + 1) < mostT s by omega) (hA c2).1
                ·
                  by_cases c3 : (bendS f.offs (k + 1)).hi = (bendT f.offs).hi
                  ·
                    refine lstepB rfl rfl rfl (run_move (.tmp rfl)) ?_
                    refine lstepB rfl rfl rfl (run_extract (.tmp rfl) rfl) ?_
                    refine lstepB rfl rfl rfl (run_extract (.tmp rfl) rfl) ?_
                    refine lstep rfl rfl rfl (run_alloc zr28) ?_
                    intro b20 _
                    refine lstep0 rfl rfl (run_storeN (.tmp rfl) (.tmp rfl) rfl sz28 rfl (by repeat (first | exact Upd.here | apply Upd.there)) (by repeat (first | exact Put.done | apply Put.put | apply Put.skip))) ?_
                    refine lstepB rfl rfl rfl (run_assign (.tmp rfl)) ?_
                    refine lnil ?_
                    refine xw_then ?_
                    refine cw_seq ?_
                    refine cw_seq ?_
                    refine cw_region ?_
                    refine lstepB rfl rfl rfl (run_move (.tmp rfl)) ?_
                    refine lstepB rfl rfl rfl (run_neq (.tmp rfl) .const (by first | exact decide_eq_true (by omega) | exact decide_eq_false (by omega) | exact rfl)) ?_
                    refine lstepB rfl rfl rfl (run_move (.tmp rfl)) ?_
                    refine lyes rfl rfl rfl rfl ?_
                    refine gstepB rfl rfl (run_move (.tmp rfl)) ?_
                    refine lyes rfl rfl rfl rfl ?_
                    refine gstepB rfl rfl (run_loadN (.tmp rfl) kd28 sz28 (by repeat (first | exact List.Mem.head _ | apply List.Mem.tail)) (by repeat (first | exact Sub.done | apply Sub.take | apply Sub.skip))) ?_
                    refine lyes rfl rfl rfl rfl ?_
                    refine gstepB rfl rfl (run_call1 cb33 (.cons (.tmp rfl) (.cons (.tmp rfl) .nil)) (fun w2 _ => (insideK _ _ w2).as (congrArg Value.bool hin))) ?_
                    refine lyes rfl rfl rfl rfl ?_
                    refine gstepB rfl rfl (run_not (.tmp rfl) (by first | exact Bool.not_true | exact Bool.not_false | exact rfl)) ?_
                    refine lstepB rfl rfl rfl (by first | exact run_pick_true (.tmp rfl) .const | exact run_pick_false (.tmp rfl) (.tmp rfl)) ?_
                    refine lstepB rfl rfl rfl (run_move (.tmp rfl)) ?_
                    refine lyes rfl rfl rfl rfl ?_
                    refine gstepB rfl rfl (run_fieldAddr (.tmp rfl) fa28_1 (by first | exact Nat.zero_add _ | exact rfl)) ?_
                    refine lyes rfl rfl rfl rfl ?_
                    refine gstepB rfl rfl (run_load1 (.tmp rfl) kd3 (by repeat (first | exact List.Mem.head _ | apply List.Mem.tail)) (by exact rfl)) ?_
                    refine lyes rfl rfl rfl rfl ?_
                    refine gstepB rfl rfl (run_fieldAddr (.tmp rfl) fa28_1 (by first | exact Nat.zero_add _ | exact rfl)) ?_
                    refine lyes rfl rfl rfl rfl ?_
                    refine gstepB rfl rfl (run_load1 (.tmp rfl) kd3 (by repeat (first | exact List.Mem.head _ | apply List.Mem.tail)) (by exact rfl)) ?_
                    refine lyes rfl rfl rfl rfl ?_
                    refine gstepB rfl rfl (run_gtr (.tmp rfl) (.tmp rfl) (decide_eq_false (by omega))) ?_
                    refine lstepB rfl rfl rfl (by first | exact run_pick_true (.tmp rfl) .const | exact run_pick_false (.tmp rfl) (.tmp rfl)) ?_
                    refine lstepB rfl rfl rfl (run_move (.tmp rfl)) ?_
                    refine lyes rfl rfl rfl rfl ?_
                    refine gstepB rfl rfl (run_move (.tmp rfl)) ?_
                    refine lyes rfl rfl rfl rfl ?_
                    refine gstepB rfl rfl (run_move (.tmp rfl)) ?_
                    refine lyes rfl rfl rfl rfl ?_
                    refine gstepB rfl rfl (run_eql (.tmp rfl) (.tmp rfl) (decide_eq_false c1)) ?_
                    refine lyes rfl rfl rfl rfl ?_
                    refine gstepB rfl rfl (run_move (.tmp rfl)) ?_
                    refine lskip rfl rfl rfl rfl rfl rfl rfl ?_
                    refine lskip rfl rfl rfl rfl rfl rfl rfl ?_
                    refine lskip rfl rfl rfl rfl rfl rfl rfl ?_
                    refine lskip rfl rfl rfl rfl rfl rfl rfl ?_
                    refine lskip rfl rfl rfl rfl rfl rfl rfl ?_
                    refine lyes rfl rfl rfl rfl ?_
                    refine gstepB rfl rfl (by first | exact run_pick_true (.tmp rfl) (.tmp rfl) | exact run_pick_false (.tmp rfl) .const) ?_
                    refine lstepB rfl rfl rfl (by first | exact run_pick_true (.tmp rfl) .const | exact run_pick_false (.tmp rfl) (.tmp rfl)) ?_
                    refine lstepB rfl rfl rfl (run_move (.tmp rfl)) ?_
                    refine lyes rfl rfl rfl rfl ?_
                    refine gstepB rfl rfl (run_move (.tmp rfl)) ?_
                    refine lyes rfl rfl rfl rfl ?_
                    refine gstepB rfl rfl (run_move (.tmp rfl)) ?_
                    refine lyes rfl rfl rfl rfl ?_
                    refine gstepB rfl rfl (run_lss (.tmp rfl) (.tmp rfl) (decide_eq_true (by omega))) ?_
                    refine lyes rfl rfl rfl rfl ?_
                    refine gstepB rfl rfl (run_move (.tmp rfl)) ?_
                    refine lyes rfl rfl rfl rfl ?_
                    refine gstepB rfl rfl (run_move (.tmp rfl)) ?_
                    refine lyes rfl rfl rfl rfl ?_
                    refine gstepB rfl rfl (run_move (.tmp rfl)) ?_
                    refine lyes rfl rfl rfl rfl ?_
                    refine gstepB rfl rfl (run_shr (z := k + 1) (.tmp rfl) (.tmp rfl) (by omega)) ?_
                    refine lyes rfl rfl rfl rfl ?_
                    refine gstepB rfl rfl (run_and (c' := ((bitN (sureN f.offs) (k + 1) : Nat) : Int)) (.tmp rfl) .const (and_one hqa)) ?_
                    refine lyes rfl rfl rfl rfl ?_
                    refine gstepB rfl rfl (run_eql (.tmp rfl) .const (decide_eq_false (fun h => c2 (hbA.1 h)))) ?_
                    refine lyes rfl rfl rfl rfl ?_
                    refine gstepB rfl rfl (by first | exact run_pick_true (.tmp rfl) (.tmp rfl) | exact run_pick_false (.tmp rfl) .const) ?_
                    refine lstepB rfl rfl rfl (by first | exact run_pick_true (.tmp rfl) .const | exact run_pick_false (.tmp rfl) (.tmp rfl)) ?_
                    refine lstepB rfl rfl rfl (run_move (.tmp rfl)) ?_
                    refine lyes rfl rfl rfl rfl ?_
                    refine gstepB rfl rfl (run_move (.tmp rfl)) ?_
                    refine lyes rfl rfl rfl rfl ?_
                    refine gstepB rfl rfl (run_move (.tmp rfl)) ?_
                    refine lyes rfl rfl rfl rfl ?_
                    refine gstepB rfl rfl (run_shr (z := k + 1) (.tmp rfl) (.tmp rfl) (by omega)) ?_
                    refine lyes rfl rfl rfl rfl ?_
                    refine gstepB rfl rfl (run_and (c' := ((bitN (sureN f.offs) (k + 1) : Nat) : Int)) (.tmp rfl) .const (and_one hqa)) ?_
                    refine lyes rfl rfl rfl rfl ?_
                    refine gstepB rfl rfl (run_eql (.tmp rfl) .const (decide_eq_false (fun h => c2 (hbA.1 h)))) ?_
                    refine lyes rfl rfl rfl rfl ?_
                    refine gstepB rfl rfl (run_move (.tmp rfl)) ?_
                    refine lskip rfl rfl rfl rfl rfl rfl rfl ?_
                    refine lskip rfl rfl rfl rfl rfl rfl rfl ?_
                    refine lskip rfl rfl rfl rfl rfl rfl rfl ?_
                    refine lskip rfl rfl rfl rfl rfl rfl rfl ?_
                    refine lskip rfl rfl rfl rfl rfl rfl rfl ?_
                    refine lyes rfl rfl rfl rfl ?_
                    refine gstepB rfl rfl (by first | exact run_pick_true (.tmp rfl) (.tmp rfl) | exact run_pick_false (.tmp rfl) .const) ?_
                    refine lstepB rfl rfl rfl (by first | exact run_pick_true (.tmp rfl) .const | exact run_pick_false (.tmp rfl) (.tmp rfl)) ?_
                    refine lstepB rfl rfl rfl (run_move (.tmp rfl)) ?_
                    refine lyes rfl rfl rfl rfl ?_
                    refine gstepB rfl rfl (run_fieldAddr (.tmp rfl) fa28_1 (by first | exact Nat.zero_add _ | exact rfl)) ?_
                    refine lyes rfl rfl rfl rfl ?_
                    refine gstepB rfl rfl (run_load1 (.tmp rfl) kd3 (by repeat (first | exact List.Mem.head _ | apply List.Mem.tail)) (by exact rfl)) ?_
                    refine lyes rfl rfl rfl rfl ?_
                    refine gstepB rfl rfl (run_fieldAddr (.tmp rfl) fa28_1 (by first | exact Nat.zero_add _ | exact rfl)) ?_
                    refine lyes rfl rfl rfl rfl ?_
                    refine gstepB rfl rfl (run_load1 (.tmp rfl) kd3 (by repeat (first | exact List.Mem.head _ | apply List.Mem.tail)) (by exact rfl)) ?_
                    refine lyes rfl rfl rfl rfl ?_
                    refine gstepB rfl rfl (run_eql (.tmp rfl) (.tmp rfl) (decide_eq_true c3)) ?_
                    refine lyes rfl rfl rfl rfl ?_
                    refine gstepB rfl rfl (run_move (.tmp rfl)) ?_
                    refine lyes rfl rfl rfl rfl ?_
                    refine gstepB rfl rfl (run_move (.tmp rfl)) ?_
                    refine lyes rfl rfl rfl rfl ?_
                    refine gstepB rfl rfl (run_move (.tmp rfl)) ?_
                    refine lyes rfl rfl rfl rfl ?_
                    refine gstepB rfl rfl (run_shr (z := k + 1) (.tmp rfl) (.tmp rfl) (by omega)) ?_
                    refine lyes rfl rfl rfl rfl ?_
                    refine gstepB rfl rfl (run_and (c' := ((bitN (canN f.offs) (k + 1) : Nat) : Int)) (.tmp rfl) .const (and_one hqb)) ?_
                    refine lyes rfl rfl rfl rfl ?_
                    refine gstepB rfl rfl (run_eql (.tmp rfl) .const (decide_eq_false (hbB (hB2 c3)))) ?_
                    refine lyes rfl rfl rfl rfl ?_
                    refine gstepB rfl rfl (by first | exact run_pick_true (.tmp rfl) (.tmp rfl) | exact run_pick_false (.tmp rfl) .const) ?_
                    refine lstepB rfl rfl rfl (by first | exact run_pick_true (.tmp rfl) .const | exact run_pick_false (.tmp rfl) (.tmp rfl)) ?_
                    refine lnil ?_
                    refine xw_then ?_
                    refine cw_cond_false (.tmp rfl) ?_
                    cases hb
                    case false =>
                      refine cw_skip ?_
                      refine xw_then ?_
                      refine cw_region ?_
                      refine lstepB rfl rfl rfl (run_move (.tmp rfl)) ?_
                      refine lstepB rfl rfl rfl (run_move (.tmp rfl)) ?_
                      refine lyes rfl rfl rfl rfl ?_
                      refine gstepB rfl rfl (run_fieldAddr (.tmp rfl) fa28_1 (by first | exact Nat.zero_add _ | exact rfl)) ?_
                      refine lyes rfl rfl rfl rfl ?_
                      refine gstepB rfl rfl (run_load1 (.tmp rfl) kd3 (by repeat (first | exact List.Mem.head _ | apply List.Mem.tail)) (by exact rfl)) ?_
                      refine lyes rfl rfl rfl rfl ?_
                      refine gstepB rfl rfl (run_fieldAddr (.tmp rfl) fa28_1 (by first | exact Nat.zero_add _ | exact rfl)) ?_
                      refine lyes rfl rfl rfl rfl ?_
                      refine gstepB rfl rfl (run_load1 (.tmp rfl) kd3 (by repeat (first | exact List.Mem.head _ | apply List.Mem.tail)) (by exact rfl)) ?_
                      refine lyes rfl rfl rfl rfl ?_
                      refine gstepB rfl rfl (run_eql (.tmp rfl) (.tmp rfl) (decide_eq_true c3)) ?_
                      refine lstepB rfl rfl rfl (by first | exact run_pick_true (.tmp rfl) .const | exact run_pick_false (.tmp rfl) (.tmp rfl)) ?_
                      refine lstepB rfl rfl rfl (run_assign (.tmp rfl)) ?_
                      refine lnil ?_
                      refine xw_in ?_
                      refine xw_then ?_
                      refine cw_region ?_
                      refine lstepB rfl rfl rfl (run_move (.tmp rfl)) ?_
                      refine lstepB rfl rfl rfl (run_add (c := ((k + 1 + 1 : Nat) : Int)) (.tmp rfl) .const (by rw [show ((k + 1 + 1 : Nat) : Int) = ((k + 1 : Nat) : Int) + 1 by omega]; exact IntWalk.i64_in _ (by omega))) ?_
                      refine lstepB rfl rfl rfl (run_assign (.tmp rfl)) ?_
                      refine lnil ?_
                      exact xw_round (k + 1, true) ⟨by simp only; omega, ⟨fun _ => ⟨k + 1, by omega, c3⟩, fun _ => rfl⟩⟩ (by show f.offs.length - (k + 1) < f.offs.length - k; omega) (by repeat (first | exact Less.nil | refine Less.cons rfl ?_)) (by repeat (first | exact Pick.nil | (apply Pick.cons; focus (repeat (first | exact Del.here | apply Del.there)))))
                    case true =>
                      refine cw_skip ?_
                      refine xw_then ?_
                      refine cw_region ?_
                      refine lstepB rfl rfl rfl (run_move (.tmp rfl)) ?_
                      refine lstepB rfl rfl rfl (run_move (.tmp rfl)) ?_
                      refine lskip rfl rfl rfl rfl rfl rfl rfl ?_
                      refine lskip rfl rfl rfl rfl rfl rfl rfl ?_
                      refine lskip rfl rfl rfl rfl rfl rfl rfl ?_
                      refine lskip rfl rfl rfl rfl rfl rfl rfl ?_
                      refine lskip rfl rfl rfl rfl rfl rfl rfl ?_
                      refine lstepB rfl rfl rfl (by first | exact run_pick_true (.tmp rfl) .const | exact run_pick_false (.tmp rfl) (.tmp rfl)) ?_
                      refine lstepB rfl rfl rfl (run_assign (.tmp rfl)) ?_
                      refine lnil ?_
                      refine xw_in ?_
                      refine xw_then ?_
                      refine cw_region ?_
                      refine lstepB rfl rfl rfl (run_move (.tmp rfl)) ?_
                      refine lstepB rfl rfl rfl (run_add (c := ((k + 1 + 1 : Nat) : Int)) (.tmp rfl) .const (by rw [show ((k + 1 + 1 : Nat) : Int) = ((k + 1 : Nat) : Int) + 1 by omega]; exact IntWalk.i64_in _ (by omega))) ?_
                      refine lstepB rfl rfl rfl (run_assign (.tmp rfl)) ?_
                      refine lnil ?_
                      exact xw_round (k + 1, true) ⟨by simp only; omega, ⟨fun _ => ⟨k + 1, by omega, c3⟩, fun _ => rfl⟩⟩ (by show f.offs.length - (k + 1) < f.offs.length - k; omega) (by repeat (first | exact Less.nil | refine Less.cons rfl ?_)) (by repeat (first | exact Pick.nil | (apply Pick.cons; focus (repeat (first | exact Del.here | apply Del.there)))))
                  ·
                    refine lstepB rfl rfl rfl (run_move (.tmp rfl)) ?_
                    refine lstepB rfl rfl rfl (run_extract (.tmp rfl) rfl) ?_
                    refine lstepB rfl rfl rfl (run_extract (.tmp rfl) rfl) ?_
                    refine lstep rfl rfl rfl (run_alloc zr28) ?_
                    intro b20 _
                    refine lstep0 rfl rfl (run_storeN (.tmp rfl) (.tmp rfl) rfl sz28 rfl (by repeat (first | exact Upd.here | apply Upd.there)) (by repeat (first | exact Put.done | apply Put.put | apply Put.skip))) ?_
                    refine lstepB rfl rfl rfl (run_assign (.tmp rfl)) ?_
                    refine lnil ?_
                    refine xw_then ?_
                    refine cw_seq ?_
                    refine cw_seq ?_
                    refine cw_region ?_
                    refine lstepB rfl rfl rfl (run_move (.tmp rfl)) ?_
                    refine lstepB rfl rfl rfl (run_neq (.tmp rfl) .const (by first | exact decide_eq_true (by omega) | exact decide_eq_false (by omega) | exact rfl)) ?_
                    refine lstepB rfl rfl rfl (run_move (.tmp rfl)) ?_
                    refine lyes rfl rfl rfl rfl ?_
                    refine gstepB rfl rfl (run_move (.tmp rfl)) ?_
                    refine lyes rfl rfl rfl rfl ?_
                    refine gstepB rfl rfl (run_loadN (.tmp rfl) kd28 sz28 (by repeat (first | exact List.Mem.head _ | apply List.Mem.tail)) (by repeat (first | exact Sub.done | apply Sub.take | apply Sub.skip))) ?_
                    refine lyes rfl rfl rfl rfl ?_
                    refine gstepB rfl rfl (run_call1 cb33 (.cons (.tmp rfl) (.cons (.tmp rfl) .nil)) (fun w2 _ => (insideK _ _ w2).as (congrArg Value.bool hin))) ?_
                    refine lyes rfl rfl rfl rfl ?_
                    refine gstepB rfl rfl (run_not (.tmp rfl) (by first | exact Bool.not_true | exact Bool.not_false | exact rfl)) ?_
                    refine lstepB rfl rfl rfl (by first | exact run_pick_true (.tmp rfl) .const | exact run_pick_false (.tmp rfl) (.tmp rfl)) ?_
                    refine lstepB rfl rfl rfl (run_move (.tmp rfl)) ?_
                    refine lyes rfl rfl rfl rfl ?_
                    refine gstepB rfl rfl (run_fieldAddr (.tmp rfl) fa28_1 (by first | exact Nat.zero_add _ | exact rfl)) ?_
                    refine lyes rfl rfl rfl rfl ?_
                    refine gstepB rfl rfl (run_load1 (.tmp rfl) kd3 (by repeat (first | exact List.Mem.head _ | apply List.Mem.tail)) (by exact rfl)) ?_
                    refine lyes rfl rfl rfl rfl ?_
                    refine gstepB rfl rfl (run_fieldAddr (.tmp rfl) fa28_1 (by first | exact Nat.zero_add _ | exact rfl)) ?_
                    refine lyes rfl rfl rfl rfl ?_
                    refine gstepB rfl rfl (run_load1 (.tmp rfl) kd3 (by repeat (first | exact List.Mem.head _ | apply List.Mem.tail)) (by exact rfl)) ?_
                    refine lyes rfl rfl rfl rfl ?_
                    refine gstepB rfl rfl (run_gtr (.tmp rfl) (.tmp rfl) (decide_eq_false (by omega))) ?_
                    refine lstepB rfl rfl rfl (by first | exact run_pick_true (.tmp rfl) .const | exact run_pick_false (.tmp rfl) (.tmp rfl)) ?_
                    refine lstepB rfl rfl rfl (run_move (.tmp rfl)) ?_
                    refine lyes rfl rfl rfl rfl ?_
                    refine gstepB rfl rfl (run_move (.tmp rfl)) ?_
                    refine lyes rfl rfl rfl rfl ?_
                    refine gstepB rfl rfl (run_move (.tmp rfl)) ?_
                    refine lyes rfl rfl rfl rfl ?_
                    refine gstepB rfl rfl (run_eql (.tmp rfl) (.tmp rfl) (decide_eq_false c1)) ?_
                    refine lyes rfl rfl rfl rfl ?_
                    refine gstepB rfl rfl (run_move (.tmp rfl)) ?_
                    refine lskip rfl rfl rfl rfl rfl rfl rfl ?_
                    refine lskip rfl rfl rfl rfl rfl rfl rfl ?_
                    refine lskip rfl rfl rfl rfl rfl rfl rfl ?_
                    refine lskip rfl rfl rfl rfl rfl rfl rfl ?_
                    refine lskip rfl rfl rfl rfl rfl rfl rfl ?_
                    refine lyes rfl rfl rfl rfl ?_
                    refine gstepB rfl rfl (by first | exact run_pick_true (.tmp rfl) (.tmp rfl) | exact run_pick_false (.tmp rfl) .const) ?_
                    refine lstepB rfl rfl rfl (by first | exact run_pick_true (.tmp rfl) .const | exact run_pick_false (.tmp rfl) (.tmp rfl)) ?_
                    refine lstepB rfl rfl rfl (run_move (.tmp rfl)) ?_
                    refine lyes rfl rfl rfl rfl ?_
                    refine gstepB rfl rfl (run_move (.tmp rfl)) ?_
                    refine lyes rfl rfl rfl rfl ?_
                    refine gstepB rfl rfl (run_move (.tmp rfl)) ?_
                    refine lyes rfl rfl rfl rfl ?_
                    refine gstepB rfl rfl (run_lss (.tmp rfl) (.tmp rfl) (decide_eq_true (by omega))) ?_
                    refine lyes rfl rfl rfl rfl ?_
                    refine gstepB rfl rfl (run_move (.tmp rfl)) ?_
                    refine lyes rfl rfl rfl rfl ?_
                    refine gstepB rfl rfl (run_move (.tmp rfl)) ?_
                    refine lyes rfl rfl rfl rfl ?_
                    refine gstepB rfl rfl (run_move (.tmp rfl)) ?_
                    refine lyes rfl rfl rfl rfl ?_
                    refine gstepB rfl rfl (run_shr (z := k + 1) (.tmp rfl) (.tmp rfl) (by omega)) ?_
                    refine lyes rfl rfl rfl rfl ?_
                    refine gstepB rfl rfl (run_and (c' := ((bitN (sureN f.offs) (k + 1) : Nat) : Int)) (.tmp rfl) .const (and_one hqa)) ?_
                    refine lyes rfl rfl rfl rfl ?_
                    refine gstepB rfl rfl (run_eql (.tmp rfl) .const (decide_eq_false (fun h => c2 (hbA.1 h)))) ?_
                    refine lyes rfl rfl rfl rfl ?_
                    refine gstepB rfl rfl (by first | exact run_pick_true (.tmp rfl) (.tmp rfl) | exact run_pick_false (.tmp rfl) .const) ?_
                    refine lstepB rfl rfl rfl (by first | exact run_pick_true (.tmp rfl) .const | exact run_pick_false (.tmp rfl) (.tmp rfl)) ?_
                    refine lstepB rfl rfl rfl (run_move (.tmp rfl)) ?_
                    refine lyes rfl rfl rfl rfl ?_
                    refine gstepB rfl rfl (run_move (.tmp rfl)) ?_
                    refine lyes rfl rfl rfl rfl ?_
                    refine gstepB rfl rfl (run_move (.tmp rfl)) ?_
                    refine lyes rfl rfl rfl rfl ?_
                    refine gstepB rfl rfl (run_shr (z := k + 1) (.tmp rfl) (.tmp rfl) (by omega)) ?_
                    refine lyes rfl rfl rfl rfl ?_
                    refine gstepB rfl rfl (run_and (c' := ((bitN (sureN f.offs) (k + 1) : Nat) : Int)) (.tmp rfl) .const (and_one hqa)) ?_
                    refine lyes rfl rfl rfl rfl ?_
                    refine gstepB rfl rfl (run_eql (.tmp rfl) .const (decide_eq_false (fun h => c2 (hbA.1 h)))) ?_
                    refine lyes rfl rfl rfl rfl ?_
                    refine gstepB rfl rfl (run_move (.tmp rfl)) ?_
                    refine lskip rfl rfl rfl rfl rfl rfl rfl ?_
                    refine lskip rfl rfl rfl rfl rfl rfl rfl ?_
                    refine lskip rfl rfl rfl rfl rfl rfl rfl ?_
                    refine lskip rfl rfl rfl rfl rfl rfl rfl ?_
                    refine lskip rfl rfl rfl rfl rfl rfl rfl ?_
                    refine lyes rfl rfl rfl rfl ?_
                    refine gstepB rfl rfl (by first | exact run_pick_true (.tmp rfl) (.tmp rfl) | exact run_pick_false (.tmp rfl) .const) ?_
                    refine lstepB rfl rfl rfl (by first | exact run_pick_true (.tmp rfl) .const | exact run_pick_false (.tmp rfl) (.tmp rfl)) ?_
                    refine lstepB rfl rfl rfl (run_move (.tmp rfl)) ?_
                    refine lyes rfl rfl rfl rfl ?_
                    refine gstepB rfl rfl (run_fieldAddr (.tmp rfl) fa28_1 (by first | exact Nat.zero_add _ | exact rfl)) ?_
                    refine lyes rfl rfl rfl rfl ?_
                    refine gstepB rfl rfl (run_load1 (.tmp rfl) kd3 (by repeat (first | exact List.Mem.head _ | apply List.Mem.tail)) (by exact rfl)) ?_
                    refine lyes rfl rfl rfl rfl ?_
                    refine gstepB rfl rfl (run_fieldAddr (.tmp rfl) fa28_1 (by first | exact Nat.zero_add _ | exact rfl)) ?_
                    refine lyes rfl rfl rfl rfl ?_
                    refine gstepB rfl rfl (run_load1 (.tmp rfl) kd3 (by repeat (first | exact List.Mem.head _ | apply List.Mem.tail)) (by exact rfl)) ?_
                    refine lyes rfl rfl rfl rfl ?_
                    refine gstepB rfl rfl (run_eql (.tmp rfl) (.tmp rfl) (decide_eq_false c3)) ?_
                    refine lyes rfl rfl rfl rfl ?_
                    refine gstepB rfl rfl (run_move (.tmp rfl)) ?_
                    refine lskip rfl rfl rfl rfl rfl rfl rfl ?_
                    refine lskip rfl rfl rfl rfl rfl rfl rfl ?_
                    refine lskip rfl rfl rfl rfl rfl rfl rfl ?_
                    refine lskip rfl rfl rfl rfl rfl rfl rfl ?_
                    refine lskip rfl rfl rfl rfl rfl rfl rfl ?_
                    refine lyes rfl rfl rfl rfl ?_
                    refine gstepB rfl rfl (by first | exact run_pick_true (.tmp rfl) (.tmp rfl) | exact run_pick_false (.tmp rfl) .const) ?_
                    refine lstepB rfl rfl rfl (by first | exact run_pick_true (.tmp rfl) .const | exact run_pick_false (.tmp rfl) (.tmp rfl)) ?_
                    refine lnil ?_
                    refine xw_then ?_
                    refine cw_cond_false (.tmp rfl) ?_
                    cases hb
                    case false =>
                      refine cw_skip ?_
                      refine xw_then ?_
                      refine cw_region ?_
                      refine lstepB rfl rfl rfl (run_move (.tmp rfl)) ?_
                      refine lstepB rfl rfl rfl (run_move (.tmp rfl)) ?_
                      refine lyes rfl rfl rfl rfl ?_
                      refine gstepB rfl rfl (run_fieldAddr (.tmp rfl) fa28_1 (by first | exact Nat.zero_add _ | exact rfl)) ?_
                      refine lyes rfl rfl rfl rfl ?_
                      refine gstepB rfl rfl (run_load1 (.tmp rfl) kd3 (by repeat (first | exact List.Mem.head _ | apply List.Mem.tail)) (by exact rfl)) ?_
                      refine lyes rfl rfl rfl rfl ?_
                      refine gstepB rfl rfl (run_fieldAddr (.tmp rfl) fa28_1 (by first | exact Nat.zero_add _ | exact rfl)) ?_
                      refine lyes rfl rfl rfl rfl ?_
                      refine gstepB rfl rfl (run_load1 (.tmp rfl) kd3 (by repeat (first | exact List.Mem.head _ | apply List.Mem.tail)) (by exact rfl)) ?_
                      refine lyes rfl rfl rfl rfl ?_
                      refine gstepB rfl rfl (run_eql (.tmp rfl) (.tmp rfl) (decide_eq_false c3)) ?_
                      refine lstepB rfl rfl rfl (by first | exact run_pick_true (.tmp rfl) .const | exact run_pick_false (.tmp rfl) (.tmp rfl)) ?_
                      refine lstepB rfl rfl rfl (run_assign (.tmp rfl)) ?_
                      refine lnil ?_
                      refine xw_in ?_
                      refine xw_then ?_
                      refine cw_region ?_
                      refine lstepB rfl rfl rfl (run_move (.tmp rfl)) ?_
                      refine lstepB rfl rfl rfl (run_add (c := ((k + 1 + 1 : Nat) : Int)) (.tmp rfl) .const (by rw [show ((k + 1 + 1 : Nat) : Int) = ((k + 1 : Nat) : Int) + 1 by omega]; exact IntWalk.i64_in _ (by omega))) ?_
                      refine lstepB rfl rfl rfl (run_assign (.tmp rfl)) ?_
                      refine lnil ?_
                      exact xw_round (k + 1, false) ⟨by simp only; omega, ⟨fun h => (by cases h), fun ⟨j, hj, e⟩ => by rcases Nat.lt_or_ge j (k + 1) with h | h; exact hhb.2 ⟨j, by omega, e⟩; exact absurd (by rw [show j = k + 1 by omega] at e; exact e) c3⟩⟩ (by show f.offs.length - (k + 1) < f.offs.length - k; omega) (by repeat (first | exact Less.nil | refine Less.cons rfl ?_)) (by repeat (first | exact Pick.nil | (apply Pick.cons; focus (repeat (first | exact Del.here | apply Del.there)))))
                    case true =>
                      refine cw_skip ?_
                      refine xw_then ?_
                      refine cw_region ?_
                      refine lstepB rfl rfl rfl (run_move (.tmp rfl)) ?_
                      refine lstepB rfl rfl rfl (run_move (.tmp rfl)) ?_
                      refine lskip rfl rfl rfl rfl rfl rfl rfl ?_
                      refine lskip rfl rfl rfl rfl rfl rfl rfl ?_
                      refine lskip rfl rfl rfl rfl rfl rfl rfl ?_
                      refine lskip rfl rfl rfl rfl rfl rfl rfl ?_
                      refine lskip rfl rfl rfl rfl rfl rfl rfl ?_
                      refine lstepB rfl rfl rfl (by first | exact run_pick_true (.tmp rfl) .const | exact run_pick_false (.tmp rfl) (.tmp rfl)) ?_
                      refine lstepB rfl rfl rfl (run_assign (.tmp rfl)) ?_
                      refine lnil ?_
                      refine xw_in ?_
                      refine xw_then ?_
                      refine cw_region ?_
                      refine lstepB rfl rfl rfl (run_move (.tmp rfl)) ?_
                      refine lstepB rfl rfl rfl (run_add (c := ((k + 1 + 1 : Nat) : Int)) (.tmp rfl) .const (by rw [show ((k + 1 + 1 : Nat) : Int) = ((k + 1 : Nat) : Int) + 1 by omega]; exact IntWalk.i64_in _ (by omega))) ?_
                      refine lstepB rfl rfl rfl (run_assign (.tmp rfl)) ?_
                      refine lnil ?_
                      exact xw_round (k + 1, true) ⟨by simp only; omega, ⟨fun _ => by obtain ⟨j, hj, e⟩ := hhb.1 rfl; exact ⟨j, by omega, e⟩, fun _ => rfl⟩⟩ (by show f.offs.length - (k + 1) < f.offs.length - k; omega) (by repeat (first | exact Less.nil | refine Less.cons rfl ?_)) (by repeat (first | exact Pick.nil | (apply Pick.cons; focus (repeat (first | exact Del.here | apply Del.there)))))
            ·
              obtain rfl : k = f.offs.length - 2 := by omega
              have hfin : hb = true ∨ ((innerN (f.offs.length - 2) : Nat) : Int) = 0 := by
                rcases Nat.lt_or_ge f.offs.length 3 with h3 | h3
                · exact .inr (by rw [show f.offs.length - 2 = 0 by omega]; rfl)
                · left
                  refine hhb.2 ?_
                  obtain ⟨u, hu1, hu2⟩ := (bendT_spec hfine).2.2
                  obtain ⟨j, hj, e⟩ := some_leads hu1.1 h3
                  have h1 := (bendS_at hfine hj hu1).2
                  obtain ⟨t2, ht2, e2⟩ := bendS_hi hfine hj
                  have h2 := mostT_ge ht2.1 hj
                  have h4 := ((bendT_spec hfine).1 t2 ht2).2
                  exact ⟨j, ⟨hj.1, by have := hj.2; omega⟩, by omega⟩
              cases hb
              case false =>
                have hfin := hfin.resolve_left (by simp)
                refine cw_exit ?_
                refine xw_then_exit ?_
                refine xw_then_exit ?_
                refine xw_in_exit ?_
                refine xw_then ?_
                refine cw_seq ?_
                refine cw_region ?_
                refine lstepB rfl rfl rfl (run_move (.tmp rfl)) ?_
                refine lstepB rfl rfl rfl (run_move (.tmp rfl)) ?_
                refine lyes rfl rfl rfl rfl ?_
                refine gstepB rfl rfl (run_move (.tmp rfl)) ?_
                refine lyes rfl rfl rfl rfl ?_
                refine gstepB rfl rfl (run_eql (.tmp rfl) .const (decide_eq_true hfin)) ?_
                refine lstepB rfl rfl rfl (by first | exact run_pick_true (.tmp rfl) .const | exact run_pick_false (.tmp rfl) (.tmp rfl)) ?_
                refine lstepB rfl rfl rfl (run_move (.tmp rfl)) ?_
                refine lyes rfl rfl rfl rfl ?_
                refine gstepB rfl rfl (run_call1 cb13 .nil (fun w _ => aliveK w)) ?_
                refine lstepB rfl rfl rfl (by first | exact run_pick_true (.tmp rfl) (.tmp rfl) | exact run_pick_false (.tmp rfl) .const) ?_
                refine lstepB rfl rfl rfl (run_assign (.tmp rfl)) ?_
                refine lnil ?_
                refine xw_then ?_
                refine cw_ret ?_
                refine xw_ret1 Try.results9 rfl (fun w hS => ⟨rfl, hS.kept⟩)
              case true =>
                refine cw_exit ?_
                refine xw_then_exit ?_
                refine xw_then_exit ?_
                refine xw_in_exit ?_
                refine xw_then ?_
                refine cw_seq ?_
                refine cw_region ?_
                refine lstepB rfl rfl rfl (run_move (.tmp rfl)) ?_
                refine lstepB rfl rfl rfl (run_move (.tmp rfl)) ?_
                refine lskip rfl rfl rfl rfl rfl rfl rfl ?_
                refine lskip rfl rfl rfl rfl rfl rfl rfl ?_
                refine lstepB rfl rfl rfl (by first | exact run_pick_true (.tmp rfl) .const | exact run_pick_false (.tmp rfl) (.tmp rfl)) ?_
                refine lstepB rfl rfl rfl (run_move (.tmp rfl)) ?_
                refine lyes rfl rfl rfl rfl ?_
                refine gstepB rfl rfl (run_call1 cb13 .nil (fun w _ => aliveK w)) ?_
                refine lstepB rfl rfl rfl (by first | exact run_pick_true (.tmp rfl) (.tmp rfl) | exact run_pick_false (.tmp rfl) .const) ?_
                refine lstepB rfl rfl rfl (run_assign (.tmp rfl)) ?_
                refine lnil ?_
                refine xw_then ?_
                refine cw_ret ?_
                refine xw_ret1 Try.results9 rfl (fun w hS => ⟨rfl, hS.kept⟩)
        ·
          refine cw_exit ?_
          refine xw_then_exit ?_
          refine xw_then_exit ?_
          refine xw_in_exit ?_
          refine xw_then ?_
          refine cw_seq ?_
          refine cw_seq ?_
          refine cw_region ?_
          refine lstepB rfl rfl rfl (run_move (.tmp rfl)) ?_
          refine lstepB rfl rfl rfl (run_neq (.tmp rfl) .const (by first | exact decide_eq_true (by omega) | exact decide_eq_false (by omega) | exact rfl)) ?_
          refine lstepB rfl rfl rfl (run_move (.tmp rfl)) ?_
          refine lyes rfl rfl rfl rfl ?_
          refine gstepB rfl rfl (run_move (.tmp rfl)) ?_
          refine lyes rfl rfl rfl rfl ?_
          refine gstepB rfl rfl (run_neq (.tmp rfl) .const (by first | exact decide_eq_true (by omega) | exact decide_eq_false (by omega) | exact rfl)) ?_
          refine lstepB rfl rfl rfl (by first | exact run_pick_true (.tmp rfl) .const | exact run_pick_false (.tmp rfl) (.tmp rfl)) ?_
          refine lstepB rfl rfl rfl (run_move (.tmp rfl)) ?_
          refine lyes rfl rfl rfl rfl ?_
          refine gstepB rfl rfl (run_move (.tmp rfl)) ?_
          refine lyes rfl rfl rfl rfl ?_
          refine gstepB rfl rfl (run_move (.tmp rfl)) ?_
          refine lyes rfl rfl rfl rfl ?_
          refine gstepB rfl rfl (run_andNot (.tmp rfl) (.tmp rfl) (andNot_zero hws.1 hws.2 hsub1)) ?_
          refine lyes rfl rfl rfl rfl ?_
          refine gstepB rfl rfl (run_neq (.tmp rfl) .const (by first | exact decide_eq_true (by omega) | exact decide_eq_false (by omega) | exact rfl)) ?_
          refine lstepB rfl rfl rfl (by first | exact run_pick_true (.tmp rfl) .const | exact run_pick_false (.tmp rfl) (.tmp rfl)) ?_
          refine lstepB rfl rfl rfl (run_move (.tmp rfl)) ?_
          refine lyes rfl rfl rfl rfl ?_
          refine gstepB rfl rfl (run_move (.tmp rfl)) ?_
          refine lyes rfl rfl rfl rfl ?_
          refine gstepB rfl rfl (run_move (.tmp rfl)) ?_
          refine lyes rfl rfl rfl rfl ?_
          refine gstepB rfl rfl (run_andNot (.tmp rfl) (.tmp rfl) (andNot_zero hws.2 (by omega) hsub2)) ?_
          refine lyes rfl rfl rfl rfl ?_
          refine gstepB rfl rfl (run_neq (.tmp rfl) .const (by first | exact decide_eq_true (by omega) | exact decide_eq_false (by omega) | exact rfl)) ?_
          refine lstepB rfl rfl rfl (by first | exact run_pick_true (.tmp rfl) .const | exact run_pick_false (.tmp rfl) (.tmp rfl)) ?_
          refine lstepB rfl rfl rfl (run_move (.tmp rfl)) ?_
          refine lyes rfl rfl rfl rfl ?_
          refine gstepB rfl rfl (run_move (.tmp rfl)) ?_
          refine lyes rfl rfl rfl rfl ?_
          refine gstepB rfl rfl (run_eql (.tmp rfl) .const rfl) ?_
          refine lyes rfl rfl rfl rfl ?_
          refine gstepB rfl rfl (run_move (.tmp rfl)) ?_
          refine lyes rfl rfl rfl rfl ?_
          refine gstepB rfl rfl (run_eql (.tmp rfl) .const rfl) ?_
          refine lyes rfl rfl rfl rfl ?_
          refine gstepB rfl rfl (En.run_neq_bool (.tmp rfl) (.tmp rfl) bl4 hzB) ?_
          refine lstepB rfl rfl rfl (by first | exact run_pick_true (.tmp rfl) .const | exact run_pick_false (.tmp rfl) (.tmp rfl)) ?_
          refine lstepB rfl rfl rfl (run_move (.tmp rfl)) ?_
          refine lyes rfl rfl rfl rfl ?_
          refine gstepB rfl rfl (run_move (.tmp rfl)) ?_
          refine lyes rfl rfl rfl rfl ?_
          refine gstepB rfl rfl (run_call1 cb36 (.cons (.tmp rfl) .nil) (fun w2 _ => sizeK _ (by omega) w2)) ?_
          refine lyes rfl rfl rfl rfl ?_
          refine gstepB rfl rfl (run_eql (.tmp rfl) .const (decide_eq_false hs1)) ?_
          refine lyes rfl rfl rfl rfl ?_
          refine gstepB rfl rfl (run_move (.tmp rfl)) ?_
          refine lskip rfl rfl rfl rfl rfl rfl rfl ?_
          refine lskip rfl rfl rfl rfl rfl rfl rfl ?_
          refine lskip rfl rfl rfl rfl rfl rfl rfl ?_
          refine lyes rfl rfl rfl rfl ?_
          refine gstepB rfl rfl (by first | exact run_pick_true (.tmp rfl) (.tmp rfl) | exact run_pick_false (.tmp rfl) .const) ?_
          refine lstepB rfl rfl rfl (by first | exact run_pick_true (.tmp rfl) .const | exact run_pick_false (.tmp rfl) (.tmp rfl)) ?_
          refine lnil ?_
          refine xw_then ?_
          refine cw_cond_false (.tmp rfl) ?_
          refine cw_skip ?_
          refine xw_then ?_
          refine cw_seq ?_
          refine cw_region ?_
          refine lstepB rfl rfl rfl (run_move (.tmp rfl)) ?_
          refine lstep rfl rfl rfl (LR.runs (R := []) (A := []) (lr_makeInts (.tmp rfl) (.tmp rfl) (by omega)) (by repeat (first | exact Pick.nil | (apply Pick.cons; focus (repeat (first | exact Del.here | apply Del.there))))) (by repeat (first | exact Dels.nil | (apply Dels.cons; focus (repeat (first | exact Del.here | apply Del.there)))))) ?_
          intro b90 _
          refine lstepB rfl rfl rfl (run_assign (.tmp rfl)) ?_
          refine lnil ?_
          refine xw_then ?_
          refine cw_seq ?_
          refine cw_seq ?_
          refine cw_region ?_
          refine lstepB rfl rfl rfl (run_fieldAddr (.tmp rfl) fa24_0 (by first | exact Nat.zero_add _ | exact rfl)) ?_
          refine lstepB rfl rfl rfl (run_load1 (.tmp rfl) kd22 (by repeat (first | exact List.Mem.head _ | apply List.Mem.tail)) (by exact rfl)) ?_
          refine lstepB rfl rfl rfl (run_len (.tmp rfl) sl22) ?_
          refine lstepB rfl rfl rfl (run_move .const) ?_
          refine lnil ?_
          refine xw_then ?_
          refine cw_block ?_
          refine cw_loop (S := Nat × List Int) (fun st => [(94, .int .i64 ((st.1 : Nat) : Int))]) [(1, _), (2, _), (5, _), (6, _), (7, _), (8, _), (9, _), (10, _), (11, _), (13, _), (92, _), (93, _)] (fun st => (b90, Obj.cells (intsV st.2).toArray 3 (0, 0)) :: (b8, Obj.cells (spanC (bendT f.offs)).toArray 28 (0, 0)) :: (b2, Obj.cells (furrowC f oa wa da oc wc dc).toArray 24 (0, 0)) :: []) (fun st => st.1 ≤ f.offs.length ∧ st.2.length = f.offs.length ∧ ∀ j, j < st.1 → (f.offs.getD j default).lo ≤ st.2.getD j 0 ∧ st.2.getD j 0 ≤ (f.offs.getD j default).hi) (fun st => f.offs.length - st.1) (0, List.replicate f.offs.length 0) ⟨Nat.zero_le _, List.length_replicate, fun j h => absurd h (Nat.not_lt_zero j)⟩ (by repeat (first | exact Less.nil | refine Less.cons rfl ?_)) (by repeat (first | exact Pick.nil | (apply Pick.cons; focus (repeat (first | exact Del.here | apply Del.there))))) ?_
          intro st hs
          obtain ⟨k, s⟩ := st
          obtain ⟨hk, hsl, hsi⟩ := hs
          dsimp only at hk hsl hsi ⊢
          refine cw_seq ?_
          refine cw_region ?_
          refine lstepB rfl rfl rfl (run_lss (.tmp rfl) (.tmp rfl) rfl) ?_
          refine lnil ?_
          refine xw_then ?_
          refine cw_seq ?_
          refine cw_cond_p (.tmp rfl) (fun hl => ?_) (fun hl => ?_)
          ·
            have hkn : k < f.offs.length := by omega
            have hsk := getD_some (l := f.offs) hkn
            obtain ⟨b, o, hoa, hb, hc⟩ := hf.offs.span (by omega)
            subst hoa
            obtain ⟨sp, hsp⟩ : ∃ sp, sp = f.offs.getD k default := ⟨_, rfl⟩
            rw [← hsp] at hsk
            have hst := (hvf.st hkn).1
            rw [← hsp] at hst
            have hput := put_int s k sp.lo (by omega)
            refine cw_skip ?_
            refine xw_then ?_
            refine cw_seq ?_
            refine cw_block ?_
            refine cw_seq ?_
            refine cw_region ?_
            refine lstepB rfl rfl rfl (run_move (.tmp rfl)) ?_
            refine lstepB rfl rfl rfl (run_indexAddr (i := k) (off' := o + k * 2) (.tmp rfl) (.tmp rfl) el22 (by omega) rfl) ?_
            refine lstepB rfl rfl rfl (run_loadN_at (l := spanC sp) (.tmp rfl) kd28 sz28 rfl (fun w' hS j v hj => hS.old_cell (fun h => h) (hc k sp hsk j v hj))) ?_
            refine lstep rfl rfl rfl (run_alloc zr28) ?_
            intro b15 _
            refine lstepB rfl rfl rfl (run_assign (.tmp rfl)) ?_
            refine lstep0 rfl rfl (run_storeN (.tmp rfl) (.tmp rfl) rfl sz28 rfl (by repeat (first | exact Upd.here | apply Upd.there)) (by repeat (first | exact Put.done | apply Put.put | apply Put.skip))) ?_
            refine lnil ?_
            refine xw_then ?_
            refine cw_seq ?_
            refine cw_region ?_
            refine lstepB rfl rfl rfl (run_move (.tmp rfl)) ?_
            refine lstepB rfl rfl rfl (run_move (.tmp rfl)) ?_
            refine lstepB rfl rfl rfl (run_fieldAddr (.tmp rfl) fa28_0 (by first | exact Nat.zero_add _ | exact rfl)) ?_
            refine lstepB rfl rfl rfl (run_load1 (.tmp rfl) kd3 (by repeat (first | exact List.Mem.head _ | apply List.Mem.tail)) (by exact rfl)) ?_
            refine lstepB rfl rfl rfl (run_indexAddr (i := k) (off' := k) (.tmp rfl) (.tmp rfl) el33 (by omega) (by rw [Nat.mul_one, Nat.zero_add])) ?_
            refine lstep0 rfl rfl (run_store1 (.tmp rfl) (.tmp rfl) rfl sz3 (by repeat (first | exact Upd.here | apply Upd.there)) hput) ?_
            refine lnil ?_
            refine xw_then ?_
            refine cw_seq ?_
            refine cw_region ?_
            refine lstepB rfl rfl rfl (run_move (.tmp rfl)) ?_
            refine lstepB rfl rfl rfl (run_len (.tmp rfl) sl52) ?_
            refine lstepB rfl rfl rfl (run_gtr (.tmp rfl) .const rfl) ?_
            refine lnil ?_
            refine xw_then ?_
            refine cw_cond_p (.tmp rfl) (fun hm0 => ?_) (fun hm0 => ?_)
            ·
              obtain ⟨x, hx⟩ : ∃ x, m[k % m.length]? = some x := ⟨_, List.getElem?_eq_getElem (Nat.mod_lt _ (by omega))⟩
              obtain ⟨pb, po, rfl, hpb, hx1, hx2⟩ := hby.row _ x hx
              have hr0 := Int.emod_nonneg x (show sp.hi - sp.lo + 1 ≠ 0 by omega)
              have hr1 := Int.emod_lt_of_pos x (show 0 < sp.hi - sp.lo + 1 by omega)
              have hput2 := put_int (s.set k sp.lo) k (sp.lo + x % (sp.hi - sp.lo + 1)) (by rw [List.length_set]; omega)
              have hml : k % m.length < m.length := Nat.mod_lt _ (by omega)
              refine cw_chain2 (σ := [0, 1, 2, 3, 4, 5, 6, 7, 8, 9, 10, 11, 12, 13, 14, 15, 16, 17, 18, 19, 20, 21]) [⟨0, [], [], [], 0⟩, ⟨0, [], [], [], 0⟩, ⟨0, [], [], [], 3⟩, ⟨0, [1], [], [], 7⟩, ⟨0, [], [], [], 0⟩, ⟨0, [], [], [], 0⟩, ⟨0, [], [], [], 0⟩, ⟨0, [], [], [], 64⟩, ⟨0, [], [], [], 224⟩, ⟨0, [], [], [], 496⟩, ⟨0, [], [], [], 1008⟩, ⟨0, [], [], [], 2032⟩, ⟨0, [], [], [], 0⟩, ⟨0, [0], [], [], 4096⟩, ⟨0, [], [], [], 0⟩, ⟨0, [0], [], [], 16384⟩, ⟨0, [], [], [], 61440⟩, ⟨0, [], [], [], 126976⟩, ⟨0, [], [], [], 262128⟩, ⟨0, [], [], [], 524287⟩, ⟨0, [], [], [], 1048575⟩, ⟨0, [], [1], [1], 2097151⟩] [(0, _), (1, _), (2, _), (3, _)] (by kernel_rfl) (by kernel_rfl) rfl ?_
              refine .det (B := []) rfl rfl (.inl rfl) .nil .nil rfl (RunB.lr (run_move (.tmp rfl))) ?_
              refine .det (B := []) rfl rfl (.inl rfl) .nil .nil rfl (RunB.lr (run_move (.tmp rfl))) ?_
              refine .det (B := []) rfl rfl (.inl rfl) .nil .nil rfl (RunB.lr (run_indexAddr (i := k) (off' := k) (.tmp rfl) (.tmp rfl) el33 (by omega) (by rw [Nat.mul_one, Nat.zero_add]))) ?_
              refine .det (B := []) rfl rfl (.inl rfl) (.cons rfl .nil) .nil rfl (RunB.lr (run_load1 (v := .int .i64 sp.lo) (.tmp rfl) kd3 (by repeat (first | exact List.Mem.head _ | apply List.Mem.tail)) (by have e := intsV_get (t := s.set k sp.lo) (k := k) (by rw [List.length_set]; omega); rw [getD_set (by omega), if_pos rfl] at e; exact e))) ?_
              refine .det (B := []) rfl rfl (.inl rfl) .nil .nil rfl (RunB.lr (run_move (.tmp rfl))) ?_
              refine .det (B := []) rfl rfl (.inl rfl) .nil .nil rfl (RunB.lr (run_move (.tmp rfl))) ?_
              refine .det (B := []) rfl rfl (.inl rfl) .nil .nil rfl (RunB.lr (run_move (.tmp rfl))) ?_
              refine .det (B := []) rfl rfl (.inl rfl) .nil .nil rfl (RunB.lr (run_len (.tmp rfl) sl52)) ?_
              refine .det (B := []) rfl rfl (.inl rfl) .nil .nil rfl (RunB.lr (run_rem_nat (a := k) (b := m.length) (.tmp rfl) (.tmp rfl) (by omega))) ?_
              refine .det (B := []) rfl rfl (.inl rfl) .nil .nil rfl (RunB.lr (run_indexAddr (i := k % m.length) (off' := po + k % m.length) (.tmp rfl) (.tmp rfl) el52 (by omega) (by rw [Nat.mul_one]))) ?_
              refine .det (B := []) rfl rfl (.inl rfl) .nil .nil rfl (RunB.lr (run_load1_at (v := .int .u8 x) (.tmp rfl) kd5 (fun w' hS => hS.old_cell (fun h => h) hx2))) ?_
              refine .det (B := []) rfl rfl (.inl rfl) .nil .nil rfl (RunB.lr (run_convert_at (.tmp rfl) (fun w => cv5_3 (c := x) (IntWalk.i64_in _ (by omega)) w))) ?_
              refine .det (B := []) rfl rfl (.inl rfl) .nil .nil rfl (RunB.lr (run_fieldAddr (.tmp rfl) fa28_1 (by first | exact Nat.zero_add _ | exact rfl))) ?_
              refine .det (B := []) rfl rfl (.inl rfl) (.cons rfl .nil) .nil rfl (RunB.lr (run_load1 (.tmp rfl) kd3 (by repeat (first | exact List.Mem.head _ | apply List.Mem.tail)) (by exact rfl))) ?_
              refine .det (B := []) rfl rfl (.inl rfl) .nil .nil rfl (RunB.lr (run_fieldAddr (.tmp rfl) fa28_0 (by first | exact Nat.zero_add _ | exact rfl))) ?_
              refine .det (B := []) rfl rfl (.inl rfl) (.cons rfl .nil) .nil rfl (RunB.lr (run_load1 (.tmp rfl) kd3 (by repeat (first | exact List.Mem.head _ | apply List.Mem.tail)) (by exact rfl))) ?_
              refine .det (B := []) rfl rfl (.inl rfl) .nil .nil rfl (RunB.lr (run_sub (.tmp rfl) (.tmp rfl) (by first | exact IntWalk.i64_in _ (by omega) | exact rfl))) ?_
              refine .det (B := []) rfl rfl (.inl rfl) .nil .nil rfl (RunB.lr (run_add (.tmp rfl) .const (by first | exact IntWalk.i64_in _ (by omega) | exact rfl))) ?_
              refine .det (B := []) rfl rfl (.inl rfl) .nil .nil rfl (RunB.lr (run_rem (.tmp rfl) (.tmp rfl) (by omega) (by omega))) ?_
              refine .det (B := []) rfl rfl (.inl rfl) .nil .nil rfl (RunB.lr (run_add (.tmp rfl) (.tmp rfl) (by first | exact IntWalk.i64_in _ (by omega) | exact rfl))) ?_
              refine .det (B := []) rfl rfl (.inl rfl) .nil .nil rfl (RunB.lr (run_indexAddr (i := k) (off' := k) (.tmp rfl) (.tmp rfl) el33 (by omega) (by rw [Nat.mul_one, Nat.zero_add]))) ?_
              refine .det (B := [(1, (_, _))]) rfl rfl (.inl rfl) .nil (.cons rfl .nil) rfl (lr_store1 (.tmp rfl) (.tmp rfl) rfl sz3 hput2) ?_
              refine chain_nil (ts := [0, 1, 2, 3]) (.cons rfl (.cons rfl (.cons rfl (.cons rfl .nil)))) (by decide) ?_
              refine xw_in ?_
              refine xw_then ?_
              refine cw_region ?_
              refine lstepB rfl rfl rfl (run_add (.tmp rfl) .const (by first | exact IntWalk.i64_in _ (by omega) | exact rfl)) ?_
              refine lstepB rfl rfl rfl (run_move (.tmp rfl)) ?_
              refine lnil ?_
              exact xw_round (k + 1, (s.set k sp.lo).set k (sp.lo + x % (sp.hi - sp.lo + 1))) ⟨by simp only; omega, by simp only [List.length_set]; exact hsl, fun j hj => by
                                                      rw [getD_set (by rw [List.length_set]; omega), getD_set (by omega)]
                                                      split
                                                      · subst_vars; omega
                                                      · exact hsi j (by omega)⟩ (by show f.offs.length - (k + 1) < f.offs.length - k; omega) (by repeat (first | exact Less.nil | refine Less.cons rfl ?_)) (by repeat (first | exact Pick.nil | (apply Pick.cons; focus (repeat (first | exact Del.here | apply Del.there)))))
            ·
              refine cw_skip ?_
              refine xw_in ?_
              refine xw_then ?_
              refine cw_region ?_
              refine lstepB rfl rfl rfl (run_add (.tmp rfl) .const (by first | exact IntWalk.i64_in _ (by omega) | exact rfl)) ?_
              refine lstepB rfl rfl rfl (run_move (.tmp rfl)) ?_
              refine lnil ?_
              exact xw_round (k + 1, s.set k sp.lo) ⟨by simp only; omega, by simp only [List.length_set]; exact hsl, fun j hj => by
                                                      rw [getD_set (by omega)]
                                                      split
                                                      · subst_vars; omega
                                                      · exact hsi j (by omega)⟩ (by show f.offs.length - (k + 1) < f.offs.length - k; omega) (by repeat (first | exact Less.nil | refine Less.cons rfl ?_)) (by repeat (first | exact Pick.nil | (apply Pick.cons; focus (repeat (first | exact Del.here | apply Del.there)))))
          ·
            obtain rfl : k = f.offs.length := by omega
            have hsI : Inn f.offs s := ⟨hsl, fun j hj => hsi j hj⟩
            have hss := inn_small hvf hsI
            refine cw_exit ?_
            refine xw_then_exit ?_
            refine xw_then_exit ?_
            refine xw_in_exit ?_
            refine xw_then ?_
            refine cw_seq ?_
            refine cw_region ?_
            refine lstepB rfl rfl rfl (run_move (.tmp rfl)) ?_
            refine lstepB rfl rfl rfl (run_call1 cb32 (.cons (.tmp rfl) .nil) (fun w2 hS => by have h0 := rmostK s (by omega) hss (some ⟨b90, 0, none⟩) f.offs.length w2 (intsAt_cells (hS.mem (b := b90) (by repeat (first | exact List.Mem.head _ | apply List.Mem.tail)))); rw [hsl] at h0; exact h0)) ?_
            refine lstepB rfl rfl rfl (run_assign (.tmp rfl)) ?_
            refine lnil ?_
            refine xw_then ?_
            refine cw_seq ?_
            refine cw_region ?_
            refine lstepB rfl rfl rfl (run_assign .const) ?_
            refine lnil ?_
            refine xw_then ?_
            refine cw_seq ?_
            refine cw_seq ?_
            refine cw_region ?_
            refine lstepB rfl rfl rfl (run_assign .const) ?_
            refine lnil ?_
            refine xw_then ?_
            refine cw_block ?_
            refine cw_loop (S := Nat × Bool) (fun st => [(18, .int .i64 ((st.1 + 1 : Nat) : Int)), (17, .bool st.2)]) [(2, _), (5, _), (6, _), (8, _), (9, _), (10, _), (11, _), (13, _), (16, _)] (fun st => (b90, Obj.cells (intsV s).toArray 3 (0, 0)) :: (b8, Obj.cells (spanC (bendT f.offs)).toArray 28 (0, 0)) :: (b2, Obj.cells (furrowC f oa wa da oc wc dc).toArray 24 (0, 0)) :: []) (fun st => st.1 ≤ f.offs.length - 2 ∧ (st.2 = true ↔ ∃ j, (1 ≤ j ∧ j ≤ st.1) ∧ (bendS f.offs j).hi = (bendT f.offs).hi)) (fun st => f.offs.length - st.1) (0, false) ⟨Nat.zero_le _, ⟨fun h => (by cases h), fun ⟨j, hj, _⟩ => by omega⟩⟩ (by repeat (first | exact Less.nil | refine Less.cons rfl ?_)) (by repeat (first | exact Pick.nil | (apply Pick.cons; focus (repeat (first | exact Del.here | apply Del.there))))) ?_
            intro st hs2
            obtain ⟨k, hb⟩ := st
            obtain ⟨hk, hhb⟩ := hs2
            dsimp only at hk hhb ⊢
            refine cw_seq ?_
            refine cw_seq ?_
            refine cw_region ?_
            refine lstepB rfl rfl rfl (run_move (.tmp rfl)) ?_
            refine lstepB rfl rfl rfl (run_add (c := ((k + 2 : Nat) : Int)) (.tmp rfl) .const (by rw [show ((k + 2 : Nat) : Int) = ((k + 1 : Nat) : Int) + 1 by omega]; exact IntWalk.i64_in _ (by omega))) ?_
            refine lstepB rfl rfl rfl (run_move (.tmp rfl)) ?_
            refine lstepB rfl rfl rfl (run_lss (.tmp rfl) (.tmp rfl) rfl) ?_
            refine lnil ?_
            refine xw_then ?_
            refine cw_cond_p (.tmp rfl) (fun hl3 => ?_) (fun hl3 => ?_)
            ·
              have hI : Inner f.offs (k + 1) := ⟨by omega, by omega⟩
              have hat := bendS_at hfine hI hsI
              have hmg := mostT_ge hsI.1 hI
              have hin : insideB (bentT s (k + 1)) (bendS f.offs (k + 1)) = true := by simp only [insideB, Bool.and_eq_true, decide_eq_true_eq]; exact hat
              have hiB : innerB f.offs.length ((k + 1 : Nat) : Int) = true := by simp only [innerB, Bool.and_eq_true, decide_eq_true_eq]; omega
              obtain ⟨th, hth1, hth2⟩ := bendS_hi hfine hI
              have hhi : (bendS f.offs (k + 1)).hi ≤ (bendT f.offs).hi := by rw [← hth2]; exact Int.le_trans (mostT_ge hth1.1 hI) ((bendT_spec hfine).1 th hth1).2
              have hA : (sureN f.offs).testBit (k + 1) = true → ¬ bentT s (k + 1) < mostT s ∧ (bendS f.offs (k + 1)).hi = (bendT f.offs).hi := fun h => by
                obtain ⟨_, h2⟩ := (sure_bit hfine).1 h
                constructor
                · have := (mostT_le hsI.1 (m := bentT s (k + 1))).2 ⟨bentT_nonneg _ _, fun j hj => h2 s hsI j hj⟩
                  omega
                · obtain ⟨u, hu1, hu2⟩ := (bendT_spec hfine).2.2
                  have h3 := (mostT_le hu1.1 (m := bentT u (k + 1))).2 ⟨bentT_nonneg _ _, fun j hj => h2 u hu1 j hj⟩
                  have h4 := (bendS_at hfine hI hu1).2
                  omega
              have hB1 : bentT s (k + 1) = mostT s → (canN f.offs).testBit (k + 1) = true := fun h => (can_bit hfine).2 ⟨hI, s, hsI, fun j hj => by rw [h]; exact mostT_ge hsI.1 hj⟩
              have hB2 : (bendS f.offs (k + 1)).hi = (bendT f.offs).hi → (canN f.offs).testBit (k + 1) = true := fun h => (can_bit hfine).2 ⟨hI, th, hth1, fun j hj => by rw [hth2, h]; exact Int.le_trans (mostT_ge hth1.1 hj) ((bendT_spec hfine).1 th hth1).2⟩
              have hbA : ((bitN (sureN f.offs) (k + 1) : Nat) : Int) = 1 ↔ (sureN f.offs).testBit (k + 1) = true := by rw [← bitN_iff]; omega
              have hbB : (canN f.offs).testBit (k + 1) = true → ¬ ((bitN (canN f.offs) (k + 1) : Nat) : Int) = 0 := fun h => by have := bitN_iff.2 h; omega
              have hqa : sureN f.offs / 2 ^ (k + 1) < 2 ^ 32 := Nat.lt_of_le_of_lt (Nat.div_le_self _ _) hws.1
              have hqb : canN f.offs / 2 ^ (k + 1) < 2 ^ 32 := Nat.lt_of_le_of_lt (Nat.div_le_self _ _) hws.2
              refine cw_skip ?_
              refine xw_then ?_
              refine cw_seq ?_
              refine cw_block ?_
              refine cw_seq ?_
              refine cw_region ?_
              refine lstepB rfl rfl rfl (run_move (.tmp rfl)) ?_
              refine lstepB rfl rfl rfl (run_move (.tmp rfl)) ?_
              refine lstepB rfl rfl rfl (run_call1 cb34 (.cons (.tmp rfl) (.cons (.tmp rfl) .nil)) (fun w2 hS => by have h0 := rbentK s (k + 1) (by omega) (by omega) (by omega) hss (some ⟨b90, 0, none⟩) f.offs.length w2 (intsAt_cells (hS.mem (b := b90) (by repeat (first | exact List.Mem.head _ | apply List.Mem.tail)))); rw [hsl] at h0; exact h0)) ?_
              refine lstepB rfl rfl rfl (run_assign (.tmp rfl)) ?_
              refine lnil ?_
              refine xw_then ?_
              refine cw_seq ?_
              refine cw_region ?_
              refine lstepB rfl rfl rfl (run_loadN (.tmp rfl) kd24 sz24 (by repeat (first | exact List.Mem.head _ | apply List.Mem.tail)) (by repeat (first | exact Sub.done | apply Sub.take | apply Sub.skip))) ?_
              refine lstepB rfl rfl rfl (run_move (.tmp rfl)) ?_
              refine lstepB rfl rfl rfl (run_call1 cb16 (.cons (.tmp rfl) (.cons (.tmp rfl) .nil)) (fun w2 hS => (atQ f oa wa da oc wc dc ((k + 1 : Nat) : Int) w2 hm (hf.kept hS.kept)).as (show _ = Value.tuple #[spanV (bendS f.offs (k + 1)), .int .i64 0] from by rw [show atR f ((k + 1 : Nat) : Int) = (bendS f.offs (k + 1), 0) by unfold atR; rw [hv, hiB]; rfl]))) ?_
              by_cases c1 : bentT s (k + 1) = mostT s
              ·
                by_cases c2 : (sureN f.offs).testBit (k + 1) = true
                ·
                  by_cases c3 : (bendS f.offs (k + 1)).hi = (bendT f.offs).hi
                  ·
                    refine lstepB rfl rfl rfl (run_move (.tmp rfl)) ?_
                    refine lstepB rfl rfl rfl (run_extract (.tmp rfl) rfl) ?_
                    refine lstepB rfl rfl rfl (run_extract (.tmp rfl) rfl) ?_
                    refine lstep rfl rfl rfl (run_alloc zr28) ?_
                    intro b20 _
                    refine lstep0 rfl rfl (run_storeN (.tmp rfl) (.tmp rfl) rfl sz28 rfl (by repeat (first | exact Upd.here | apply Upd.there)) (by repeat (first | exact Put.done | apply Put.put | apply Put.skip))) ?_
                    refine lstepB rfl rfl rfl (run_assign (.tmp rfl)) ?_
                    refine lnil ?_
                    refine xw_then ?_
                    refine cw_seq ?_
                    refine cw_seq ?_
                    refine cw_region ?_
                    refine lstepB rfl rfl rfl (run_move (.tmp rfl)) ?_
                    refine lstepB rfl rfl rfl (run_neq (.tmp rfl) .const (by first | exact decide_eq_true (by omega) | exact decide_eq_false (by omega) | exact rfl)) ?_
                    refine lstepB rfl rfl rfl (run_move (.tmp rfl)) ?_
                    refine lyes rfl rfl rfl rfl ?_
                    refine gstepB rfl rfl (run_move (.tmp rfl)) ?_
                    refine lyes rfl rfl rfl rfl ?_
                    refine gstepB rfl rfl (run_loadN (.tmp rfl) kd28 sz28 (by repeat (first | exact List.Mem.head _ | apply List.Mem.tail)) (by repeat (first | exact Sub.done | apply Sub.take | apply Sub.skip))) ?_
                    refine lyes rfl rfl rfl rfl ?_
                    refine gstepB rfl rfl (run_call1 cb33 (.cons (.tmp rfl) (.cons (.tmp rfl) .nil)) (fun w2 _ => (insideK _ _ w2).as (congrArg Value.bool hin))) ?_
                    refine lyes rfl rfl rfl rfl ?_
                    refine gstepB rfl rfl (run_not (.tmp rfl) (by first | exact Bool.not_true | exact Bool.not_false | exact rfl)) ?_
                    refine lstepB rfl rfl rfl (by first | exact run_pick_true (.tmp rfl) .const | exact run_pick_false (.tmp rfl) (.tmp rfl)) ?_
                    refine lstepB rfl rfl rfl (run_move (.tmp rfl)) ?_
                    refine lyes rfl rfl rfl rfl ?_
                    refine gstepB rfl rfl (run_fieldAddr (.tmp rfl) fa28_1 (by first | exact Nat.zero_add _ | exact rfl)) ?_
                    refine lyes rfl rfl rfl rfl ?_
                    refine gstepB rfl rfl (run_load1 (.tmp rfl) kd3 (by repeat (first | exact List.Mem.head _ | apply List.Mem.tail)) (by exact rfl)) ?_
                    refine lyes rfl rfl rfl rfl ?_
                    refine gstepB rfl rfl (run_fieldAddr (.tmp rfl) fa28_1 (by first | exact Nat.zero_add _ | exact rfl)) ?_
                    refine lyes rfl rfl rfl rfl ?_
                    refine gstepB rfl rfl (run_load1 (.tmp rfl) kd3 (by repeat (first | exact List.Mem.head _ | apply List.Mem.tail)) (by exact rfl)) ?_
                    refine lyes rfl rfl rfl rfl ?_
                    refine gstepB rfl rfl (run_gtr (.tmp rfl) (.tmp rfl) (decide_eq_false (by omega))) ?_
                    refine lstepB rfl rfl rfl (by first | exact run_pick_true (.tmp rfl) .const | exact run_pick_false (.tmp rfl) (.tmp rfl)) ?_
                    refine lstepB rfl rfl rfl (run_move (.tmp rfl)) ?_
                    refine lyes rfl rfl rfl rfl ?_
                    refine gstepB rfl rfl (run_move (.tmp rfl)) ?_
                    refine lyes rfl rfl rfl rfl ?_
                    refine gstepB rfl rfl (run_move (.tmp rfl)) ?_
                    refine lyes rfl rfl rfl rfl ?_
                    refine gstepB rfl rfl (run_eql (.tmp rfl) (.tmp rfl) (decide_eq_true c1)) ?_
                    refine lyes rfl rfl rfl rfl ?_
                    refine gstepB rfl rfl (run_move (.tmp rfl)) ?_
                    refine lyes rfl rfl rfl rfl ?_
                    refine gstepB rfl rfl (run_move (.tmp rfl)) ?_
                    refine lyes rfl rfl rfl rfl ?_
                    refine gstepB rfl rfl (run_move (.tmp rfl)) ?_
                    refine lyes rfl rfl rfl rfl ?_
                    refine gstepB rfl rfl (run_shr (z := k + 1) (.tmp rfl) (.tmp rfl) (by omega)) ?_
                    refine lyes rfl rfl rfl rfl ?_
                    refine gstepB rfl rfl (run_and (c' := ((bitN (canN f.offs) (k + 1) : Nat) : Int)) (.tmp rfl) .const (and_one hqb)) ?_
                    refine lyes rfl rfl rfl rfl ?_
                    refine gstepB rfl rfl (run_eql (.tmp rfl) .const (decide_eq_false (hbB (hB1 c1)))) ?_
                    refine lyes rfl rfl rfl rfl ?_
                    refine gstepB rfl rfl (by first | exact run_pick_true (.tmp rfl) (.tmp rfl) | exact run_pick_false (.tmp rfl) .const) ?_
                    refine lstepB rfl rfl rfl (by first | exact run_pick_true (.tmp rfl) .const | exact run_pick_false (.tmp rfl) (.tmp rfl)) ?_
                    refine lstepB rfl rfl rfl (run_move (.tmp rfl)) ?_
                    refine lyes rfl rfl rfl rfl ?_
                    refine gstepB rfl rfl (run_move (.tmp rfl)) ?_
                    refine lyes rfl rfl rfl rfl ?_
                    refine gstepB rfl rfl (run_move (.tmp rfl)) ?_
                    refine lyes rfl rfl rfl rfl ?_
                    refine gstepB rfl rfl (run_lss (.tmp rfl) (.tmp rfl) (decide_eq_false (by omega))) ?_
                    refine lyes rfl rfl rfl rfl ?_
                    refine gstepB rfl rfl (run_move (.tmp rfl)) ?_
                    refine lskip rfl rfl rfl rfl rfl rfl rfl ?_
                    refine lskip rfl rfl rfl rfl rfl rfl rfl ?_
                    refine lskip rfl rfl rfl rfl rfl rfl rfl ?_
                    refine lskip rfl rfl rfl rfl rfl rfl rfl ?_
                    refine lskip rfl rfl rfl rfl rfl rfl rfl ?_
                    refine lyes rfl rfl rfl rfl ?_
                    refine gstepB rfl rfl (by first | exact run_pick_true (.tmp rfl) (.tmp rfl) | exact run_pick_false (.tmp rfl) .const) ?_
                    refine lstepB rfl rfl rfl (by first | exact run_pick_true (.tmp rfl) .const | exact run_pick_false (.tmp rfl) (.tmp rfl)) ?_
                    refine lstepB rfl rfl rfl (run_move (.tmp rfl)) ?_
                    refine lyes rfl rfl rfl rfl ?_
                    refine gstepB rfl rfl (run_move (.tmp rfl)) ?_
                    refine lyes rfl rfl rfl rfl ?_
                    refine gstepB rfl rfl (run_move (.tmp rfl)) ?_
                    refine lyes rfl rfl rfl rfl ?_
                    refine gstepB rfl rfl (run_shr (z := k + 1) (.tmp rfl) (.tmp rfl) (by omega)) ?_
                    refine lyes rfl rfl rfl rfl ?_
                    refine gstepB rfl rfl (run_and (c' := ((bitN (sureN f.offs) (k + 1) : Nat) : Int)) (.tmp rfl) .const (and_one hqa)) ?_
                    refine lyes rfl rfl rfl rfl ?_
                    refine gstepB rfl rfl (run_eql (.tmp rfl) .const (decide_eq_true (hbA.2 c2))) ?_
                    refine lyes rfl rfl rfl rfl ?_
                    refine gstepB rfl rfl (run_move (.tmp rfl)) ?_
                    refine lyes rfl rfl rfl rfl ?_
                    refine gstepB rfl rfl (run_fieldAddr (.tmp rfl) fa28_1 (by first | exact Nat.zero_add _ | exact rfl)) ?_
                    refine lyes rfl rfl rfl rfl ?_
                    refine gstepB rfl rfl (run_load1 (.tmp rfl) kd3 (by repeat (first | exact List.Mem.head _ | apply List.Mem.tail)) (by exact rfl)) ?_
                    refine lyes rfl rfl rfl rfl ?_
                    refine gstepB rfl rfl (run_fieldAddr (.tmp rfl) fa28_1 (by first | exact Nat.zero_add _ | exact rfl)) ?_
                    refine lyes rfl rfl rfl rfl ?_
                    refine gstepB rfl rfl (run_load1 (.tmp rfl) kd3 (by repeat (first | exact List.Mem.head _ | apply List.Mem.tail)) (by exact rfl)) ?_
                    refine lyes rfl rfl rfl rfl ?_
                    refine gstepB rfl rfl (run_neq (.tmp rfl) (.tmp rfl) (decide_eq_false (by rw [(hA c2).2]; simp))) ?_
                    refine lyes rfl rfl rfl rfl ?_
                    refine gstepB rfl rfl (by first | exact run_pick_true (.tmp rfl) (.tmp rfl) | exact run_pick_false (.tmp rfl) .const) ?_
                    refine lstepB rfl rfl rfl (by first | exact run_pick_true (.tmp rfl) .const | exact run_pick_false (.tmp rfl) (.tmp rfl)) ?_
                    refine lstepB rfl rfl rfl (run_move (.tmp rfl)) ?_
                    refine lyes rfl rfl rfl rfl ?_
                    refine gstepB rfl rfl (run_fieldAddr (.tmp rfl) fa28_1 (by first | exact Nat.zero_add _ | exact rfl)) ?_
                    refine lyes rfl rfl rfl rfl ?_
                    refine gstepB rfl rfl (run_load1 (.tmp rfl) kd3 (by repeat (first | exact List.Mem.head _ | apply List.Mem.tail)) (by exact rfl)) ?_
                    refine lyes rfl rfl rfl rfl ?_
                    refine gstepB rfl rfl (run_fieldAddr (.tmp rfl) fa28_1 (by first | exact Nat.zero_add _ | exact rfl)) ?_
                    refine lyes rfl rfl rfl rfl ?_
                    refine gstepB rfl rfl (run_load1 (.tmp rfl) kd3 (by repeat (first | exact List.Mem.head _ | apply List.Mem.tail)) (by exact rfl)) ?_
                    refine lyes rfl rfl rfl rfl ?_
                    refine gstepB rfl rfl (run_eql (.tmp rfl) (.tmp rfl) (decide_eq_true c3)) ?_
                    refine lyes rfl rfl rfl rfl ?_
                    refine gstepB rfl rfl (run_move (.tmp rfl)) ?_
                    refine lyes rfl rfl rfl rfl ?_
                    refine gstepB rfl rfl (run_move (.tmp rfl)) ?_
                    refine lyes rfl rfl rfl rfl ?_
                    refine gstepB rfl rfl (run_move (.tmp rfl)) ?_
                    refine lyes rfl rfl rfl rfl ?_
                    refine gstepB rfl rfl (run_shr (z := k + 1) (.tmp rfl) (.tmp rfl) (by omega)) ?_
                    refine lyes rfl rfl rfl rfl ?_
                    refine gstepB rfl rfl (run_and (c' := ((bitN (canN f.offs) (k + 1) : Nat) : Int)) (.tmp rfl) .const (and_one hqb)) ?_
                    refine lyes rfl rfl rfl rfl ?_
                    refine gstepB rfl rfl (run_eql (.tmp rfl) .const (decide_eq_false (hbB (hB2 c3)))) ?_
                    refine lyes rfl rfl rfl rfl ?_
                    refine gstepB rfl rfl (by first | exact run_pick_true (.tmp rfl) (.tmp rfl) | exact run_pick_false (.tmp rfl) .const) ?_
                    refine lstepB rfl rfl rfl (by first | exact run_pick_true (.tmp rfl) .const | exact run_pick_false (.tmp rfl) (.tmp rfl)) ?_
                    refine lnil ?_
                    refine xw_then ?_
                    refine cw_cond_false (.tmp rfl) ?_
                    cases hb
                    case false =>
                      refine cw_skip ?_
                      refine xw_then ?_
                      refine cw_region ?_
                      refine lstepB rfl rfl rfl (run_move (.tmp rfl)) ?_
                      refine lstepB rfl rfl rfl (run_move (.tmp rfl)) ?_
                      refine lyes rfl rfl rfl rfl ?_
                      refine gstepB rfl rfl (run_fieldAddr (.tmp rfl) fa28_1 (by first | exact Nat.zero_add _ | exact rfl)) ?_
                      refine lyes rfl rfl rfl rfl ?_
                      refine gstepB rfl rfl (run_load1 (.tmp rfl) kd3 (by repeat (first | exact List.Mem.head _ | apply List.Mem.tail)) (by exact rfl)) ?_
                      refine lyes rfl rfl rfl rfl ?_
                      refine gstepB rfl rfl (run_fieldAddr (.tmp rfl) fa28_1 (by first | exact Nat.zero_add _ | exact rfl)) ?_
                      refine lyes rfl rfl rfl rfl ?_
                      refine gstepB rfl rfl (run_load1 (.tmp rfl) kd3 (by repeat (first | exact List.Mem.head _ | apply List.Mem.tail)) (by exact rfl)) ?_
                      refine lyes rfl rfl rfl rfl ?_
                      refine gstepB rfl rfl (run_eql (.tmp rfl) (.tmp rfl) (decide_eq_true c3)) ?_
                      refine lstepB rfl rfl rfl (by first | exact run_pick_true (.tmp rfl) .const | exact run_pick_false (.tmp rfl) (.tmp rfl)) ?_
                      refine lstepB rfl rfl rfl (run_assign (.tmp rfl)) ?_
                      refine lnil ?_
                      refine xw_in ?_
                      refine xw_then ?_
                      refine cw_region ?_
                      refine lstepB rfl rfl rfl (run_move (.tmp rfl)) ?_
                      refine lstepB rfl rfl rfl (run_add (c := ((k + 1 + 1 : Nat) : Int)) (.tmp rfl) .const (by rw [show ((k + 1 + 1 : Nat) : Int) = ((k + 1 : Nat) : Int) + 1 by omega]; exact IntWalk.i64_in _ (by omega))) ?_
                      refine lstepB rfl rfl rfl (run_assign (.tmp rfl)) ?_
                      refine lnil ?_
                      exact xw_round (k + 1, true) ⟨by simp only; omega, ⟨fun _ => ⟨k + 1, by omega, c3⟩, fun _ => rfl⟩⟩ (by show f.offs.length - (k + 1) < f.offs.length - k; omega) (by repeat (first | exact Less.nil | refine Less.cons rfl ?_)) (by repeat (first | exact Pick.nil | (apply Pick.cons; focus (repeat (first | exact Del.here | apply Del.there)))))
                    case true =>
                      refine cw_skip ?_
                      refine xw_then ?_
                      refine cw_region ?_
                      refine lstepB rfl rfl rfl (run_move (.tmp rfl)) ?_
                      refine lstepB rfl rfl rfl (run_move (.tmp rfl)) ?_
                      refine lskip rfl rfl rfl rfl rfl rfl rfl ?_
                      refine lskip rfl rfl rfl rfl rfl rfl rfl ?_
                      refine lskip rfl rfl rfl rfl rfl rfl rfl ?_
                      refine lskip rfl rfl rfl rfl rfl rfl rfl ?_
                      refine lskip rfl rfl rfl rfl rfl rfl rfl ?_
                      refine lstepB rfl rfl rfl (by first | exact run_pick_true (.tmp rfl) .const | exact run_pick_false (.tmp rfl) (.tmp rfl)) ?_
                      refine lstepB rfl rfl rfl (run_assign (.tmp rfl)) ?_
                      refine lnil ?_
                      refine xw_in ?_
                      refine xw_then ?_
                      refine cw_region ?_
                      refine lstepB rfl rfl rfl (run_move (.tmp rfl)) ?_
                      refine lstepB rfl rfl rfl (run_add (c := ((k + 1 + 1 : Nat) : Int)) (.tmp rfl) .const (by rw [show ((k + 1 + 1 : Nat) : Int) = ((k + 1 : Nat) : Int) + 1 by omega]; exact IntWalk.i64_in _ (by omega))) ?_
                      refine lstepB rfl rfl rfl (run_assign (.tmp rfl)) ?_
                      refine lnil ?_
                      exact xw_round (k + 1, true) ⟨by simp only; omega, ⟨fun _ => ⟨k + 1, by omega, c3⟩, fun _ => rfl⟩⟩ (by show f.offs.length - (k + 1) < f.offs.length - k; omega) (by repeat (first | exact Less.nil | refine Less.cons rfl ?_)) (by repeat (first | exact Pick.nil | (apply Pick.cons; focus (repeat (first | exact Del.here | apply Del.there)))))
                  ·
                    refine lstepB rfl rfl rfl (run_move (.tmp rfl)) ?_
                    refine lstepB rfl rfl rfl (run_extract (.tmp rfl) rfl) ?_
                    refine lstepB rfl rfl rfl (run_extract (.tmp rfl) rfl) ?_
                    refine lstep rfl rfl rfl (run_alloc zr28) ?_
                    intro b20 _
                    refine lstep0 rfl rfl (run_storeN (.tmp rfl) (.tmp rfl) rfl sz28 rfl (by repeat (first | exact Upd.here | apply Upd.there)) (by repeat (first | exact Put.done | apply Put.put | apply Put.skip))) ?_
                    refine lstepB rfl rfl rfl (run_assign (.tmp rfl)) ?_
                    refine lnil ?_
                    refine xw_then ?_
                    refine cw_seq ?_
                    refine cw_seq ?_
                    refine cw_region ?_
                    refine lstepB rfl rfl rfl (run_move (.tmp rfl)) ?_
                    refine lstepB rfl rfl rfl (run_neq (.tmp rfl) .const (by first | exact decide_eq_true (by omega) | exact decide_eq_false (by omega) | exact rfl)) ?_
                    refine lstepB rfl rfl rfl (run_move (.tmp rfl)) ?_
                    refine lyes rfl rfl rfl rfl ?_
                    refine gstepB rfl rfl (run_move (.tmp rfl)) ?_
                    refine lyes rfl rfl rfl rfl ?_
                    refine gstepB rfl rfl (run_loadN (.tmp rfl) kd28 sz28 (by repeat (first | exact List.Mem.head _ | apply List.Mem.tail)) (by repeat (first | exact Sub.done | apply Sub.take | apply Sub.skip))) ?_
                    refine lyes rfl rfl rfl rfl ?_
                    refine gstepB rfl rfl (run_call1 cb33 (.cons (.tmp rfl) (.cons (.tmp rfl) .nil)) (fun w2 _ => (insideK _ _ w2).as (congrArg Value.bool hin))) ?_
                    refine lyes rfl rfl rfl rfl ?_
                    refine gstepB rfl rfl (run_not (.tmp rfl) (by first | exact Bool.not_true | exact Bool.not_false | exact rfl)) ?_
                    refine lstepB rfl rfl rfl (by first | exact run_pick_true (.tmp rfl) .const | exact run_pick_false (.tmp rfl) (.tmp rfl)) ?_
                    refine lstepB rfl rfl rfl (run_move (.tmp rfl)) ?_
                    refine lyes rfl rfl rfl rfl ?_
                    refine gstepB rfl rfl (run_fieldAddr (.tmp rfl) fa28_1 (by first | exact Nat.zero_add _ | exact rfl)) ?_
                    refine lyes rfl rfl rfl rfl ?_
                    refine gstepB rfl rfl (run_load1 (.tmp rfl) kd3 (by repeat (first | exact List.Mem.head _ | apply List.Mem.tail)) (by exact rfl)) ?_
                    refine lyes rfl rfl rfl rfl ?_
                    refine gstepB rfl rfl (run_fieldAddr (.tmp rfl) fa28_1 (by first | exact Nat.zero_add _ | exact rfl)) ?_
                    refine lyes rfl rfl rfl rfl ?_
                    refine gstepB rfl rfl (run_load1 (.tmp rfl) kd3 (by repeat (first | exact List.Mem.head _ | apply List.Mem.tail)) (by exact rfl)) ?_
                    refine lyes rfl rfl rfl rfl ?_
                    refine gstepB rfl rfl (run_gtr (.tmp rfl) (.tmp rfl) (decide_eq_false (by omega))) ?_
                    refine lstepB rfl rfl rfl (by first | exact run_pick_true (.tmp rfl) .const | exact run_pick_false (.tmp rfl) (.tmp rfl)) ?_
                    refine lstepB rfl rfl rfl (run_move (.tmp rfl)) ?_
                    refine lyes rfl rfl rfl rfl ?_
                    refine gstepB rfl rfl (run_move (.tmp rfl)) ?_
                    refine lyes rfl rfl rfl rfl ?_
                    refine gstepB rfl rfl (run_move (.tmp rfl)) ?_
                    refine lyes rfl rfl rfl rfl ?_
                    refine gstepB rfl rfl (run_eql (.tmp rfl) (.tmp rfl) (decide_eq_true c1)) ?_
                    refine lyes rfl rfl rfl rfl ?_
                    refine gstepB rfl rfl (run_move (.tmp rfl)) ?_
                    refine lyes rfl rfl rfl rfl ?_
                    refine gstepB rfl rfl (run_move (.tmp rfl)) ?_
                    refine lyes rfl rfl rfl rfl ?_
                    refine gstepB rfl rfl (run_move (.tmp rfl)) ?_
                    refine lyes rfl rfl rfl rfl ?_
                    refine gstepB rfl rfl (run_shr (z := k + 1) (.tmp rfl) (.tmp rfl) (by omega)) ?_
                    refine lyes rfl rfl rfl rfl ?_
                    refine gstepB rfl rfl (run_and (c' := ((bitN (canN f.offs) (k + 1) : Nat) : Int)) (.tmp rfl) .const (and_one hqb)) ?_
                    refine lyes rfl rfl rfl rfl ?_
                    refine gstepB rfl rfl (run_eql (.tmp rfl) .const (decide_eq_false (hbB (hB1 c1)))) ?_
                    refine lyes rfl rfl rfl rfl ?_
                    refine gstepB rfl rfl (by first | exact run_pick_true (.tmp rfl) (.tmp rfl) | exact run_pick_false (.tmp rfl) .const) ?_
                    refine lstepB rfl rfl rfl (by first | exact run_pick_true (.tmp rfl) .const | exact run_pick_false (.tmp rfl) (.tmp rfl)) ?_
                    refine lstepB rfl rfl rfl (run_move (.tmp rfl)) ?_
                    refine lyes rfl rfl rfl rfl ?_
                    refine gstepB rfl rfl (run_move (.tmp rfl)) ?_
                    refine lyes rfl rfl rfl rfl ?_
                    refine gstepB rfl rfl (run_move (.tmp rfl)) ?_
                    refine lyes rfl rfl rfl rfl ?_
                    refine gstepB rfl rfl (run_lss (.tmp rfl) (.tmp rfl) (decide_eq_false (by omega))) ?_
                    refine lyes rfl rfl rfl rfl ?_
                    refine gstepB rfl rfl (run_move (.tmp rfl)) ?_
                    refine lskip rfl rfl rfl rfl rfl rfl rfl ?_
                    refine lskip rfl rfl rfl rfl rfl rfl rfl ?_
                    refine lskip rfl rfl rfl rfl rfl rfl rfl ?_
                    refine lskip rfl rfl rfl rfl rfl rfl rfl ?_
                    refine lskip rfl rfl rfl rfl rfl rfl rfl ?_
                    refine lyes rfl rfl rfl rfl ?_
                    refine gstepB rfl rfl (by first | exact run_pick_true (.tmp rfl) (.tmp rfl) | exact run_pick_false (.tmp rfl) .const) ?_
                    refine lstepB rfl rfl rfl (by first | exact run_pick_true (.tmp rfl) .const | exact run_pick_false (.tmp rfl) (.tmp rfl)) ?_
                    refine lstepB rfl rfl rfl (run_move (.tmp rfl)) ?_
                    refine lyes rfl rfl rfl rfl ?_
                    refine gstepB rfl rfl (run_move (.tmp rfl)) ?_
                    refine lyes rfl rfl rfl rfl ?_
                    refine gstepB rfl rfl (run_move (.tmp rfl)) ?_
                    refine lyes rfl rfl rfl rfl ?_
                    refine gstepB rfl rfl (run_shr (z := k + 1) (.tmp rfl) (.tmp rfl) (by omega)) ?_
                    refine lyes rfl rfl rfl rfl ?_
                    refine gstepB rfl rfl (run_and (c' := ((bitN (sureN f.offs) (k + 1) : Nat) : Int)) (.tmp rfl) .const (and_one hqa)) ?_
                    refine lyes rfl rfl rfl rfl ?_
                    refine gstepB rfl rfl (run_eql (.tmp rfl) .const (decide_eq_true (hbA.2 c2))) ?_
                    refine lyes rfl rfl rfl rfl ?_
                    refine gstepB rfl rfl (run_move (.tmp rfl)) ?_
                    refine lyes rfl rfl rfl rfl ?_
                    refine gstepB rfl rfl (run_fieldAddr (.tmp rfl) fa28_1 (by first | exact Nat.zero_add _ | exact rfl)) ?_
                    refine lyes rfl rfl rfl rfl ?_
                    refine gstepB rfl rfl (run_load1 (.tmp rfl) kd3 (by repeat (first | exact List.Mem.head _ | apply List.Mem.tail)) (by exact rfl)) ?_
                    refine lyes rfl rfl rfl rfl ?_
                    refine gstepB rfl rfl (run_fieldAddr (.tmp rfl) fa28_1 (by first | exact Nat.zero_add _ | exact rfl)) ?_
                    refine lyes rfl rfl rfl rfl ?_
                    refine gstepB rfl rfl (run_load1 (.tmp rfl) kd3 (by repeat (first | exact List.Mem.head _ | apply List.Mem.tail)) (by exact rfl)) ?_
                    refine lyes rfl rfl rfl rfl ?_
                    refine gstepB rfl rfl (run_neq (.tmp rfl) (.tmp rfl) (decide_eq_false (by rw [(hA c2).2]; simp))) ?_
                    refine lyes rfl rfl rfl rfl ?_
                    refine gstepB rfl rfl (by first | exact run_pick_true (.tmp rfl) (.tmp rfl) | exact run_pick_false (.tmp rfl) .const) ?_
                    refine lstepB rfl rfl rfl (by first | exact run_pick_true (.tmp rfl) .const | exact run_pick_false (.tmp rfl) (.tmp rfl)) ?_
                    refine lstepB rfl rfl rfl (run_move (.tmp rfl)) ?_
                    refine lyes rfl rfl rfl rfl ?_
                    refine gstepB rfl rfl (run_fieldAddr (.tmp rfl) fa28_1 (by first | exact Nat.zero_add _ | exact rfl)) ?_
                    refine lyes rfl rfl rfl rfl ?_
                    refine gstepB rfl rfl (run_load1 (.tmp rfl) kd3 (by repeat (first | exact List.Mem.head _ | apply List.Mem.tail)) (by exact rfl)) ?_
                    refine lyes rfl rfl rfl rfl ?_
                    refine gstepB rfl rfl (run_fieldAddr (.tmp rfl) fa28_1 (by first | exact Nat.zero_add _ | exact rfl)) ?_
                    refine lyes rfl rfl rfl rfl ?_
                    refine gstepB rfl rfl (run_load1 (.tmp rfl) kd3 (by repeat (first | exact List.Mem.head _ | apply List.Mem.tail)) (by exact rfl)) ?_
                    refine lyes rfl rfl rfl rfl ?_
                    refine gstepB rfl rfl (run_eql (.tmp rfl) (.tmp rfl) (decide_eq_false c3)) ?_
                    refine lyes rfl rfl rfl rfl ?_
                    refine gstepB rfl rfl (run_move (.tmp rfl)) ?_
                    refine lskip rfl rfl rfl rfl rfl rfl rfl ?_
                    refine lskip rfl rfl rfl rfl rfl rfl rfl ?_
                    refine lskip rfl rfl rfl rfl rfl rfl rfl ?_
                    refine lskip rfl rfl rfl rfl rfl rfl rfl ?_
                    refine lskip rfl rfl rfl rfl rfl rfl rfl ?_
                    refine lyes rfl rfl rfl rfl ?_
                    refine gstepB rfl rfl (by first | exact run_pick_true (.tmp rfl) (.tmp rfl) | exact run_pick_false (.tmp rfl) .const) ?_
                    refine lstepB rfl rfl rfl (by first | exact run_pick_true (.tmp rfl) .const | exact run_pick_false (.tmp rfl) (.tmp rfl)) ?_
                    refine lnil ?_
                    refine xw_then ?_
                    refine cw_cond_false (.tmp rfl) ?_
                    cases hb
                    case false =>
                      refine cw_skip ?_
                      refine xw_then ?_
                      refine cw_region ?_
                      refine lstepB rfl rfl rfl (run_move (.tmp rfl)) ?_
                      refine lstepB rfl rfl rfl (run_move (.tmp rfl)) ?_
                      refine lyes rfl rfl rfl rfl ?_
                      refine gstepB rfl rfl (run_fieldAddr (.tmp rfl) fa28_1 (by first | exact Nat.zero_add _ | exact rfl)) ?_
                      refine lyes rfl rfl rfl rfl ?_
                      refine gstepB rfl rfl (run_load1 (.tmp rfl) kd3 (by repeat (first | exact List.Mem.head _ | apply List.Mem.tail)) (by exact rfl)) ?_
                      refine lyes rfl rfl rfl rfl ?_
                      refine gstepB rfl rfl (run_fieldAddr (.tmp rfl) fa28_1 (by first | exact Nat.zero_add _ | exact rfl)) ?_
                      refine lyes rfl rfl rfl rfl ?_
                      refine gstepB rfl rfl (run_load1 (.tmp rfl) kd3 (by repeat (first | exact List.Mem.head _ | apply List.Mem.tail)) (by exact rfl)) ?_
                      refine lyes rfl rfl rfl rfl ?_
                      refine gstepB rfl rfl (run_eql (.tmp rfl) (.tmp rfl) (decide_eq_false c3)) ?_
                      refine lstepB rfl rfl rfl (by first | exact run_pick_true (.tmp rfl) .const | exact run_pick_false (.tmp rfl) (.tmp rfl)) ?_
                      refine lstepB rfl rfl rfl (run_assign (.tmp rfl)) ?_
                      refine lnil ?_
                      refine xw_in ?_
                      refine xw_then ?_
                      refine cw_region ?_
                      refine lstepB rfl rfl rfl (run_move (.tmp rfl)) ?_
                      refine lstepB rfl rfl rfl (run_add (c := ((k + 1 + 1 : Nat) : Int)) (.tmp rfl) .const (by rw [show ((k + 1 + 1 : Nat) : Int) = ((k + 1 : Nat) : Int) + 1 by omega]; exact IntWalk.i64_in _ (by omega))) ?_
                      refine lstepB rfl rfl rfl (run_assign (.tmp rfl)) ?_
                      refine lnil ?_
                      exact xw_round (k + 1, false) ⟨by simp only; omega, ⟨fun h => (by cases h), fun ⟨j, hj, e⟩ => by rcases Nat.lt_or_ge j (k + 1) with h | h; exact hhb.2 ⟨j, by omega, e⟩; exact absurd (by rw [show j = k + 1 by omega] at e; exact e) c3⟩⟩ (by show f.offs.length - (k + 1) < f.offs.length - k; omega) (by repeat (first | exact Less.nil | refine Less.cons rfl ?_)) (by repeat (first | exact Pick.nil | (apply Pick.cons; focus (repeat (first | exact Del.here | apply Del.there)))))
                    case true =>
                      refine cw_skip ?_
                      refine xw_then ?_
                      refine cw_region ?_
                      refine lstepB rfl rfl rfl (run_move (.tmp rfl)) ?_
                      refine lstepB rfl rfl rfl (run_move (.tmp rfl)) ?_
                      refine lskip rfl rfl rfl rfl rfl rfl rfl ?_
                      refine lskip rfl rfl rfl rfl rfl rfl rfl ?_
                      refine lskip rfl rfl rfl rfl rfl rfl rfl ?_
                      refine lskip rfl rfl rfl rfl rfl rfl rfl ?_
                      refine lskip rfl rfl rfl rfl rfl rfl rfl ?_
                      refine lstepB rfl rfl rfl (by first | exact run_pick_true (.tmp rfl) .const | exact run_pick_false (.tmp rfl) (.tmp rfl)) ?_
                      refine lstepB rfl rfl rfl (run_assign (.tmp rfl)) ?_
                      refine lnil ?_
                      refine xw_in ?_
                      refine xw_then ?_
                      refine cw_region ?_
                      refine lstepB rfl rfl rfl (run_move (.tmp rfl)) ?_
                      refine lstepB rfl rfl rfl (run_add (c := ((k + 1 + 1 : Nat) : Int)) (.tmp rfl) .const (by rw [show ((k + 1 + 1 : Nat) : Int) = ((k + 1 : Nat) : Int) + 1 by omega]; exact IntWalk.i64_in _ (by omega))) ?_
                      refine lstepB rfl rfl rfl (run_assign (.tmp rfl)) ?_
                      refine lnil ?_
                      exact xw_round (k + 1, true) ⟨by simp only; omega, ⟨fun _ => by obtain ⟨j, hj, e⟩ := hhb.1 rfl; exact ⟨j, by omega, e⟩, fun _ => rfl⟩⟩ (by show f.offs.length - (k + 1) < f.offs.length - k; omega) (by repeat (first | exact Less.nil | refine Less.cons rfl ?_)) (by repeat (first | exact Pick.nil | (apply Pick.cons; focus (repeat (first | exact Del.here | apply Del.there)))))
                ·
                  by_cases c3 : (bendS f.offs (k + 1)).hi = (bendT f.offs).hi
                  ·
                    refine lstepB rfl rfl rfl (run_move (.tmp rfl)) ?_
                    refine lstepB rfl rfl rfl (run_extract (.tmp rfl) rfl) ?_
                    refine lstepB rfl rfl rfl (run_extract (.tmp rfl) rfl) ?_
                    refine lstep rfl rfl rfl (run_alloc zr28) ?_
                    intro b20 _
                    refine lstep0 rfl rfl (run_storeN (.tmp rfl) (.tmp rfl) rfl sz28 rfl (by repeat (first | exact Upd.here | apply Upd.there)) (by repeat (first | exact Put.done | apply Put.put | apply Put.skip))) ?_
                    refine lstepB rfl rfl rfl (run_assign (.tmp rfl)) ?_
                    refine lnil ?_
                    refine xw_then ?_
                    refine cw_seq ?_
                    refine cw_seq ?_
                    refine cw_region ?_
                    refine lstepB rfl rfl rfl (run_move (.tmp rfl)) ?_
                    refine lstepB rfl rfl rfl (run_neq (.tmp rfl) .const (by first | exact decide_eq_true (by omega) | exact decide_eq_false (by omega) | exact rfl)) ?_
                    refine lstepB rfl rfl rfl (run_move (.tmp rfl)) ?_
                    refine lyes rfl rfl rfl rfl ?_
                    refine gstepB rfl rfl (run_move (.tmp rfl)) ?_
                    refine lyes rfl rfl rfl rfl ?_
                    refine gstepB rfl rfl (run_loadN (.tmp rfl) kd28 sz28 (by repeat (first | exact List.Mem.head _ | apply List.Mem.tail)) (by repeat (first | exact Sub.done | apply Sub.take | apply Sub.skip))) ?_
                    refine lyes rfl rfl rfl rfl ?_
                    refine gstepB rfl rfl (run_call1 cb33 (.cons (.tmp rfl) (.cons (.tmp rfl) .nil)) (fun w2 _ => (insideK _ _ w2).as (congrArg Value.bool hin))) ?_
                    refine lyes rfl rfl rfl rfl ?_
                    refine gstepB rfl rfl (run_not (.tmp rfl) (by first | exact Bool.not_true | exact Bool.not_false | exact rfl)) ?_
                    refine lstepB rfl rfl rfl (by first | exact run_pick_true (.tmp rfl) .const | exact run_pick_false (.tmp rfl) (.tmp rfl)) ?_
                    refine lstepB rfl rfl rfl (run_move (.tmp rfl)) ?_
                    refine lyes rfl rfl rfl rfl ?_
                    refine gstepB rfl rfl (run_fieldAddr (.tmp rfl) fa28_1 (by first | exact Nat.zero_add _ | exact rfl)) ?_
                    refine lyes rfl rfl rfl rfl ?_
                    refine gstepB rfl rfl (run_load1 (.tmp rfl) kd3 (by repeat (first | exact List.Mem.head _ | apply List.Mem.tail)) (by exact rfl)) ?_
                    refine lyes rfl rfl rfl rfl ?_
                    refine gstepB rfl rfl (run_fieldAddr (.tmp rfl) fa28_1 (by first | exact Nat.zero_add _ | exact rfl)) ?_
                    refine lyes rfl rfl rfl rfl ?_
                    refine gstepB rfl rfl (run_load1 (.tmp rfl) kd3 (by repeat (first | exact List.Mem.head _ | apply List.Mem.tail)) (by exact rfl)) ?_
                    refine lyes rfl rfl rfl rfl ?_
                    refine gstepB rfl rfl (run_gtr (.tmp rfl) (.tmp rfl) (decide_eq_false (by omega))) ?_
                    refine lstepB rfl rfl rfl (by first | exact run_pick_true (.tmp rfl) .const | exact run_pick_false (.tmp rfl) (.tmp rfl)) ?_
                    refine lstepB rfl rfl rfl (run_move (.tmp rfl)) ?_
                    refine lyes rfl rfl rfl rfl ?_
                    refine gstepB rfl rfl (run_move (.tmp rfl)) ?_
                    refine lyes rfl rfl rfl rfl ?_
                    refine gstepB rfl rfl (run_move (.tmp rfl)) ?_
                    refine lyes rfl rfl rfl rfl ?_
                    refine gstepB rfl rfl (run_eql (.tmp rfl) (.tmp rfl) (decide_eq_true c1)) ?_
                    refine lyes rfl rfl rfl rfl ?_
                    refine gstepB rfl rfl (run_move (.tmp rfl)) ?_
                    refine lyes rfl rfl rfl rfl ?_
                    refine gstepB rfl rfl (run_move (.tmp rfl)) ?_
                    refine lyes rfl rfl rfl rfl ?_
                    refine gstepB rfl rfl (run_move (.tmp rfl)) ?_
                    refine lyes rfl rfl rfl rfl ?_
                    refine gstepB rfl rfl (run_shr (z := k + 1) (.tmp rfl) (.tmp rfl) (by omega)) ?_
                    refine lyes rfl rfl rfl rfl ?_
                    refine gstepB rfl rfl (run_and (c' := ((bitN (canN f.offs) (k + 1) : Nat) : Int)) (.tmp rfl) .const (and_one hqb)) ?_
                    refine lyes rfl rfl rfl rfl ?_
                    refine gstepB rfl rfl (run_eql (.tmp rfl) .const (decide_eq_false (hbB (hB1 c1)))) ?_
                    refine lyes rfl rfl rfl rfl ?_
                    refine gstepB rfl rfl (by first | exact run_pick_true (.tmp rfl) (.tmp rfl) | exact run_pick_false (.tmp rfl) .const) ?_
                    refine lstepB rfl rfl rfl (by first | exact run_pick_true (.tmp rfl) .const | exact run_pick_false (.tmp rfl) (.tmp rfl)) ?_
                    refine lstepB rfl rfl rfl (run_move (.tmp rfl)) ?_
                    refine lyes rfl rfl rfl rfl ?_
                    refine gstepB rfl rfl (run_move (.tmp rfl)) ?_
                    refine lyes rfl rfl rfl rfl ?_
                    refine gstepB rfl rfl (run_move (.tmp rfl)) ?_
                    refine lyes rfl rfl rfl rfl ?_
                    refine gstepB rfl rfl (run_lss (.tmp rfl) (.tmp rfl) (decide_eq_false (by omega))) ?_
                    refine lyes rfl rfl rfl rfl ?_
                    refine gstepB rfl rfl (run_move (.tmp rfl)) ?_
                    refine lskip rfl rfl rfl rfl rfl rfl rfl ?_
                    refine lskip rfl rfl rfl rfl rfl rfl rfl ?_
                    refine lskip rfl rfl rfl rfl rfl rfl rfl ?_
                    refine lskip rfl rfl rfl rfl rfl rfl rfl ?_
                    refine lskip rfl rfl rfl rfl rfl rfl rfl ?_
                    refine lyes rfl rfl rfl rfl ?_
                    refine gstepB rfl rfl (by first | exact run_pick_true (.tmp rfl) (.tmp rfl) | exact run_pick_false (.tmp rfl) .const) ?_
                    refine lstepB rfl rfl rfl (by first | exact run_pick_true (.tmp rfl) .const | exact run_pick_false (.tmp rfl) (.tmp rfl)) ?_
                    refine lstepB rfl rfl rfl (run_move (.tmp rfl)) ?_
                    refine lyes rfl rfl rfl rfl ?_
                    refine gstepB rfl rfl (run_move (.tmp rfl)) ?_
                    refine lyes rfl rfl rfl rfl ?_
                    refine gstepB rfl rfl (run_move (.tmp rfl)) ?_
                    refine lyes rfl rfl rfl rfl ?_
                    refine gstepB rfl rfl (run_shr (z := k + 1) (.tmp rfl) (.tmp rfl) (by omega)) ?_
                    refine lyes rfl rfl rfl rfl ?_
                    refine gstepB rfl rfl (run_and (c' := ((bitN (sureN f.offs) (k + 1) : Nat) : Int)) (.tmp rfl) .const (and_one hqa)) ?_
                    refine lyes rfl rfl rfl rfl ?_
                    refine gstepB rfl rfl (run_eql (.tmp rfl) .const (decide_eq_false (fun h => c2 (hbA.1 h)))) ?_
                    refine lyes rfl rfl rfl rfl ?_
                    refine gstepB rfl rfl (run_move (.tmp rfl)) ?_
                    refine lskip rfl rfl rfl rfl rfl rfl rfl ?_
                    refine lskip rfl rfl rfl rfl rfl rfl rfl ?_
                    refine lskip rfl rfl rfl rfl rfl rfl rfl ?_
                    refine lskip rfl rfl rfl rfl rfl rfl rfl ?_
                    refine lskip rfl rfl rfl rfl rfl rfl rfl ?_
                    refine lyes rfl rfl rfl rfl ?_
                    refine gstepB rfl rfl (by first | exact run_pick_true (.tmp rfl) (.tmp rfl) | exact run_pick_false (.tmp rfl) .const) ?_
                    refine lstepB rfl rfl rfl (by first | exact run_pick_true (.tmp rfl) .const | exact run_pick_false (.tmp rfl) (.tmp rfl)) ?_
                    refine lstepB rfl rfl rfl (run_move (.tmp rfl)) ?_
                    refine lyes rfl rfl rfl rfl ?_
                    refine gstepB rfl rfl (run_fieldAddr (.tmp rfl) fa28_1 (by first | exact Nat.zero_add _ | exact rfl)) ?_
                    refine lyes rfl rfl rfl rfl ?_
                    refine gstepB rfl rfl (run_load1 (.tmp rfl) kd3 (by repeat (first | exact List.Mem.head _ | apply List.Mem.tail)) (by exact rfl)) ?_
                    refine lyes rfl rfl rfl rfl ?_
                    refine gstepB rfl rfl (run_fieldAddr (.tmp rfl) fa28_1 (by first | exact Nat.zero_add _ | exact rfl)) ?_
                    refine lyes rfl rfl rfl rfl ?_
                    refine gstepB rfl rfl (run_load1 (.tmp rfl) kd3 (by repeat (first | exact List.Mem.head _ | apply List.Mem.tail)) (by exact rfl)) ?_
                    refine lyes rfl rfl rfl rfl ?_
                    refine gstepB rfl rfl (run_eql (.tmp rfl) (.tmp rfl) (decide_eq_true c3)) ?_
                    refine lyes rfl rfl rfl rfl ?_
                    refine gstepB rfl rfl (run_move (.tmp rfl)) ?_
                    refine lyes rfl rfl rfl rfl ?_
                    refine gstepB rfl rfl (run_move (.tmp rfl)) ?_
                    refine lyes rfl rfl rfl rfl ?_
                    refine gstepB rfl rfl (run_move (.tmp rfl)) ?_
                    refine lyes rfl rfl rfl rfl ?_
                    refine gstepB rfl rfl (run_shr (z := k + 1) (.tmp rfl) (.tmp rfl) (by omega)) ?_
                    refine lyes rfl rfl rfl rfl ?_
                    refine gstepB rfl rfl (run_and (c' := ((bitN (canN f.offs) (k + 1) : Nat) : Int)) (.tmp rfl) .const (and_one hqb)) ?_
                    refine lyes rfl rfl rfl rfl ?_
                    refine gstepB rfl rfl (run_eql (.tmp rfl) .const (decide_eq_false (hbB (hB2 c3)))) ?_
                    refine lyes rfl rfl rfl rfl ?_
                    refine gstepB rfl rfl (by first | exact run_pick_true (.tmp rfl) (.tmp rfl) | exact run_pick_false (.tmp rfl) .const) ?_
                    refine lstepB rfl rfl rfl (by first | exact run_pick_true (.tmp rfl) .const | exact run_pick_false (.tmp rfl) (.tmp rfl)) ?_
                    refine lnil ?_
                    refine xw_then ?_
                    refine cw_cond_false (.tmp rfl) ?_
                    cases hb
                    case false =>
                      refine cw_skip ?_
                      refine xw_then ?_
                      refine cw_region ?_
                      refine lstepB rfl rfl rfl (run_move (.tmp rfl)) ?_
                      refine lstepB rfl rfl rfl (run_move (.tmp rfl)) ?_
                      refine lyes rfl rfl rfl rfl ?_
                      refine gstepB rfl rfl (run_fieldAddr (.tmp rfl) fa28_1 (by first | exact Nat.zero_add _ | exact rfl)) ?_
                      refine lyes rfl rfl rfl rfl ?_
                      refine gstepB rfl rfl (run_load1 (.tmp rfl) kd3 (by repeat (first | exact List.Mem.head _ | apply List.Mem.tail)) (by exact rfl)) ?_
                      refine lyes rfl rfl rfl rfl ?_
                      refine gstepB rfl rfl (run_fieldAddr (.tmp rfl) fa28_1 (by first | exact Nat.zero_add _ | exact rfl)) ?_
                      refine lyes rfl rfl rfl rfl ?_
                      refine gstepB rfl rfl (run_load1 (.tmp rfl) kd3 (by repeat (first | exact List.Mem.head _ | apply List.Mem.tail)) (by exact rfl)) ?_
                      refine lyes rfl rfl rfl rfl ?_
                      refine gstepB rfl rfl (run_eql (.tmp rfl) (.tmp rfl) (decide_eq_true c3)) ?_
                      refine lstepB rfl rfl rfl (by first | exact run_pick_true (.tmp rfl) .const | exact run_pick_false (.tmp rfl) (.tmp rfl)) ?_
                      refine lstepB rfl rfl rfl (run_assign (.tmp rfl)) ?_
                      refine lnil ?_
                      refine xw_in ?_
                      refine xw_then ?_
                      refine cw_region ?_
                      refine lstepB rfl rfl rfl (run_move (.tmp rfl)) ?_
                      refine lstepB rfl rfl rfl (run_add (c := ((k + 1 + 1 : Nat) : Int)) (.tmp rfl) .const (by rw [show ((k + 1 + 1 : Nat) : Int) = ((k + 1 : Nat) : Int) + 1 by omega]; exact IntWalk.i64_in _ (by omega))) ?_
                      refine lstepB rfl rfl rfl (run_assign (.tmp rfl)) ?_
                      refine lnil ?_
                      exact xw_round (k + 1, true) ⟨by simp only; omega, ⟨fun _ => ⟨k + 1, by omega, c3⟩, fun _ => rfl⟩⟩ (by show f.offs.length - (k + 1) < f.offs.length - k; omega) (by repeat (first | exact Less.nil | refine Less.cons rfl ?_)) (by repeat (first | exact Pick.nil | (apply Pick.cons; focus (repeat (first | exact Del.here | apply Del.there)))))
                    case true =>
                      refine cw_skip ?_
                      refine xw_then ?_
                      refine cw_region ?_
                      refine lstepB rfl rfl rfl (run_move (.tmp rfl)) ?_
                      refine lstepB rfl rfl rfl (run_move (.tmp rfl)) ?_
                      refine lskip rfl rfl rfl rfl rfl rfl rfl ?_
                      refine lskip rfl rfl rfl rfl rfl rfl rfl ?_
                      refine lskip rfl rfl rfl rfl rfl rfl rfl ?_
                      refine lskip rfl rfl rfl rfl rfl rfl rfl ?_
                      refine lskip rfl rfl rfl rfl rfl rfl rfl ?_
                      refine lstepB rfl rfl rfl (by first | exact run_pick_true (.tmp rfl) .const | exact run_pick_false (.tmp rfl) (.tmp rfl)) ?_
                      refine lstepB rfl rfl rfl (run_assign (.tmp rfl)) ?_
                      refine lnil ?_
                      refine xw_in ?_
                      refine xw_then ?_
                      refine cw_region ?_
                      refine lstepB rfl rfl rfl (run_move (.tmp rfl)) ?_
                      refine lstepB rfl rfl rfl (run_add (c := ((k + 1 + 1 : Nat) : Int)) (.tmp rfl) .const (by rw [show ((k + 1 + 1 : Nat) : Int) = ((k + 1 : Nat) : Int) + 1 by omega]; exact IntWalk.i64_in _ (by omega))) ?_
                      refine lstepB rfl rfl rfl (run_assign (.tmp rfl)) ?_
                      refine lnil ?_
                      exact xw_round (k + 1, true) ⟨by simp only; omega, ⟨fun _ => ⟨k + 1, by omega, c3⟩, fun _ => rfl⟩⟩ (by show f.offs.length - (k + 1) < f.offs.length - k; omega) (by repeat (first | exact Less.nil | refine Less.cons rfl ?_)) (by repeat (first | exact Pick.nil | (apply Pick.cons; focus (repeat (first | exact Del.here | apply Del.there)))))
                  ·
                    refine lstepB rfl rfl rfl (run_move (.tmp rfl)) ?_
                    refine lstepB rfl rfl rfl (run_extract (.tmp rfl) rfl) ?_
                    refine lstepB rfl rfl rfl (run_extract (.tmp rfl) rfl) ?_
                    refine lstep rfl rfl rfl (run_alloc zr28) ?_
                    intro b20 _
                    refine lstep0 rfl rfl (run_storeN (.tmp rfl) (.tmp rfl) rfl sz28 rfl (by repeat (first | exact Upd.here | apply Upd.there)) (by repeat (first | exact Put.done | apply Put.put | apply Put.skip))) ?_
                    refine lstepB rfl rfl rfl (run_assign (.tmp rfl)) ?_
                    refine lnil ?_
                    refine xw_then ?_
                    refine cw_seq ?_
                    refine cw_seq ?_
                    refine cw_region ?_
                    refine lstepB rfl rfl rfl (run_move (.tmp rfl)) ?_
                    refine lstepB rfl rfl rfl (run_neq (.tmp rfl) .const (by first | exact decide_eq_true (by omega) | exact decide_eq_false (by omega) | exact rfl)) ?_
                    refine lstepB rfl rfl rfl (run_move (.tmp rfl)) ?_
                    refine lyes rfl rfl rfl rfl ?_
                    refine gstepB rfl rfl (run_move (.tmp rfl)) ?_
                    refine lyes rfl rfl rfl rfl ?_
                    refine gstepB rfl rfl (run_loadN (.tmp rfl) kd28 sz28 (by repeat (first | exact List.Mem.head _ | apply List.Mem.tail)) (by repeat (first | exact Sub.done | apply Sub.take | apply Sub.skip))) ?_
                    refine lyes rfl rfl rfl rfl ?_
                    refine gstepB rfl rfl (run_call1 cb33 (.cons (.tmp rfl) (.cons (.tmp rfl) .nil)) (fun w2 _ => (insideK _ _ w2).as (congrArg Value.bool hin))) ?_
                    refine lyes rfl rfl rfl rfl ?_
                    refine gstepB rfl rfl (run_not (.tmp rfl) (by first | exact Bool.not_true | exact Bool.not_false | exact rfl)) ?_
                    refine lstepB rfl rfl rfl (by first | exact run_pick_true (.tmp rfl) .const | exact run_pick_false (.tmp rfl) (.tmp rfl)) ?_
                    refine lstepB rfl rfl rfl (run_move (.tmp rfl)) ?_
                    refine lyes rfl rfl rfl rfl ?_
                    refine gstepB rfl rfl (run_fieldAddr (.tmp rfl) fa28_1 (by first | exact Nat.zero_add _ | exact rfl)) ?_
                    refine lyes rfl rfl rfl rfl ?_
                    refine gstepB rfl rfl (run_load1 (.tmp rfl) kd3 (by repeat (first | exact List.Mem.head _ | apply List.Mem.tail)) (by exact rfl)) ?_
                    refine lyes rfl rfl rfl rfl ?_
                    refine gstepB rfl rfl (run_fieldAddr (.tmp rfl) fa28_1 (by first | exact Nat.zero_add _ | exact rfl)) ?_
                    refine lyes rfl rfl rfl rfl ?_
                    refine gstepB rfl rfl (run_load1 (.tmp rfl) kd3 (by repeat (first | exact List.Mem.head _ | apply List.Mem.tail)) (by exact rfl)) ?_
                    refine lyes rfl rfl rfl rfl ?_
                    refine gstepB rfl rfl (run_gtr (.tmp rfl) (.tmp rfl) (decide_eq_false (by omega))) ?_
                    refine lstepB rfl rfl rfl (by first | exact run_pick_true (.tmp rfl) .const | exact run_pick_false (.tmp rfl) (.tmp rfl)) ?_
                    refine lstepB rfl rfl rfl (run_move (.tmp rfl)) ?_
                    refine lyes rfl rfl rfl rfl ?_
                    refine gstepB rfl rfl (run_move (.tmp rfl)) ?_
                    refine lyes rfl rfl rfl rfl ?_
                    refine gstepB rfl rfl (run_move (.tmp rfl)) ?_
                    refine lyes rfl rfl rfl rfl ?_
                    refine gstepB rfl rfl (run_eql (.tmp rfl) (.tmp rfl) (decide_eq_true c1)) ?_
                    refine lyes rfl rfl rfl rfl ?_
                    refine gstepB rfl rfl (run_move (.tmp rfl)) ?_
                    refine lyes rfl rfl rfl rfl ?_
                    refine gstepB rfl rfl (run_move (.tmp rfl)) ?_
                    refine lyes rfl rfl rfl rfl ?_
                    refine gstepB rfl rfl (run_move (.tmp rfl)) ?_
                    refine lyes rfl rfl rfl rfl ?_
                    refine gstepB rfl rfl (run_shr (z := k + 1) (.tmp rfl) (.tmp rfl) (by omega)) ?_
                    refine lyes rfl rfl rfl rfl ?_
                    refine gstepB rfl rfl (run_and (c' := ((bitN (canN f.offs) (k + 1) : Nat) : Int)) (.tmp rfl) .const (and_one hqb)) ?_
                    refine lyes rfl rfl rfl rfl ?_
                    refine gstepB rfl rfl (run_eql (.tmp rfl) .const (decide_eq_false (hbB (hB1 c1)))) ?_
                    refine lyes rfl rfl rfl rfl ?_
                    refine gstepB rfl rfl (by first | exact run_pick_true (.tmp rfl) (.tmp rfl) | exact run_pick_false (.tmp rfl) .const) ?_
                    refine lstepB rfl rfl rfl (by first | exact run_pick_true (.tmp rfl) .const | exact run_pick_false (.tmp rfl) (.tmp rfl)) ?_
                    refine lstepB rfl rfl rfl (run_move (.tmp rfl)) ?_
                    refine lyes rfl rfl rfl rfl ?_
                    refine gstepB rfl rfl (run_move (.tmp rfl)) ?_
                    refine lyes rfl rfl rfl rfl ?_
                    refine gstepB rfl rfl (run_move (.tmp rfl)) ?_
                    refine lyes rfl rfl rfl rfl ?_
                    refine gstepB rfl rfl (run_lss (.tmp rfl) (.tmp rfl) (decide_eq_false (by omega))) ?_
                    refine lyes rfl rfl rfl rfl ?_
                    refine gstepB rfl rfl (run_move (.tmp rfl)) ?_
                    refine lskip rfl rfl rfl rfl rfl rfl rfl ?_
                    refine lskip rfl rfl rfl rfl rfl rfl rfl ?_
                    refine lskip rfl rfl rfl rfl rfl rfl rfl ?_
                    refine lskip rfl rfl rfl rfl rfl rfl rfl ?_
                    refine lskip rfl rfl rfl rfl rfl rfl rfl ?_
                    refine lyes rfl rfl rfl rfl ?_
                    refine gstepB rfl rfl (by first | exact run_pick_true (.tmp rfl) (.tmp rfl) | exact run_pick_false (.tmp rfl) .const) ?_
                    refine lstepB rfl rfl rfl (by first | exact run_pick_true (.tmp rfl) .const | exact run_pick_false (.tmp rfl) (.tmp rfl)) ?_
                    refine lstepB rfl rfl rfl (run_move (.tmp rfl)) ?_
                    refine lyes rfl rfl rfl rfl ?_
                    refine gstepB rfl rfl (run_move (.tmp rfl)) ?_
                    refine lyes rfl rfl rfl rfl ?_
                    refine gstepB rfl rfl (run_move (.tmp rfl)) ?_
                    refine lyes rfl rfl rfl rfl ?_
                    refine gstepB rfl rfl (run_shr (z := k + 1) (.tmp rfl) (.tmp rfl) (by omega)) ?_
                    refine lyes rfl rfl rfl rfl ?_
                    refine gstepB rfl rfl (run_and (c' := ((bitN (sureN f.offs) (k + 1) : Nat) : Int)) (.tmp rfl) .const (and_one hqa)) ?_
                    refine lyes rfl rfl rfl rfl ?_
                    refine gstepB rfl rfl (run_eql (.tmp rfl) .const (decide_eq_false (fun h => c2 (hbA.1 h)))) ?_
                    refine lyes rfl rfl rfl rfl ?_
                    refine gstepB rfl rfl (run_move (.tmp rfl)) ?_
                    refine lskip rfl rfl rfl rfl rfl rfl rfl ?_
                    refine lskip rfl rfl rfl rfl rfl rfl rfl ?_
                    refine lskip rfl rfl rfl rfl rfl rfl rfl ?_
                    refine lskip rfl rfl rfl rfl rfl rfl rfl ?_
                    refine lskip rfl rfl rfl rfl rfl rfl rfl ?_
                    refine lyes rfl rfl rfl rfl ?_
                    refine gstepB rfl rfl (by first | exact run_pick_true (.tmp rfl) (.tmp rfl) | exact run_pick_false (.tmp rfl) .const) ?_
                    refine lstepB rfl rfl rfl (by first | exact run_pick_true (.tmp rfl) .const | exact run_pick_false (.tmp rfl) (.tmp rfl)) ?_
                    refine lstepB rfl rfl rfl (run_move (.tmp rfl)) ?_
                    refine lyes rfl rfl rfl rfl ?_
                    refine gstepB rfl rfl (run_fieldAddr (.tmp rfl) fa28_1 (by first | exact Nat.zero_add _ | exact rfl)) ?_
                    refine lyes rfl rfl rfl rfl ?_
                    refine gstepB rfl rfl (run_load1 (.tmp rfl) kd3 (by repeat (first | exact List.Mem.head _ | apply List.Mem.tail)) (by exact rfl)) ?_
                    refine lyes rfl rfl rfl rfl ?_
                    refine gstepB rfl rfl (run_fieldAddr (.tmp rfl) fa28_1 (by first | exact Nat.zero_add _ | exact rfl)) ?_
                    refine lyes rfl rfl rfl rfl ?_
                    refine gstepB rfl rfl (run_load1 (.tmp rfl) kd3 (by repeat (first | exact List.Mem.head _ | apply List.Mem.tail)) (by exact rfl)) ?_
                    refine lyes rfl rfl rfl rfl ?_
                    refine gstepB rfl rfl (run_eql (.tmp rfl) (.tmp rfl) (decide_eq_false c3)) ?_
                    refine lyes rfl rfl rfl rfl ?_
                    refine gstepB rfl rfl (run_move (.tmp rfl)) ?_
                    refine lskip rfl rfl rfl rfl rfl rfl rfl ?_
                    refine lskip rfl rfl rfl rfl rfl rfl rfl ?_
                    refine lskip rfl rfl rfl rfl rfl rfl rfl ?_
                    refine lskip rfl rfl rfl rfl rfl rfl rfl ?_
                    refine lskip rfl rfl rfl rfl rfl rfl rfl ?_
                    refine lyes rfl rfl rfl rfl ?_
                    refine gstepB rfl rfl (by first | exact run_pick_true (.tmp rfl) (.tmp rfl) | exact run_pick_false (.tmp rfl) .const) ?_
                    refine lstepB rfl rfl rfl (by first | exact run_pick_true (.tmp rfl) .const | exact run_pick_false (.tmp rfl) (.tmp rfl)) ?_
                    refine lnil ?_
                    refine xw_then ?_
                    refine cw_cond_false (.tmp rfl) ?_
                    cases hb
                    case false =>
                      refine cw_skip ?_
                      refine xw_then ?_
                      refine cw_region ?_
                      refine lstepB rfl rfl rfl (run_move (.tmp rfl)) ?_
                      refine lstepB rfl rfl rfl (run_move (.tmp rfl)) ?_
                      refine lyes rfl rfl rfl rfl ?_
                      refine gstepB rfl rfl (run_fieldAddr (.tmp rfl) fa28_1 (by first | exact Nat.zero_add _ | exact rfl)) ?_
                      refine lyes rfl rfl rfl rfl ?_
                      refine gstepB rfl rfl (run_load1 (.tmp rfl) kd3 (by repeat (first | exact List.Mem.head _ | apply List.Mem.tail)) (by exact rfl)) ?_
                      refine lyes rfl rfl rfl rfl ?_
                      refine gstepB rfl rfl (run_fieldAddr (.tmp rfl) fa28_1 (by first | exact Nat.zero_add _ | exact rfl)) ?_
                      refine lyes rfl rfl rfl rfl ?_
                      refine gstepB rfl rfl (run_load1 (.tmp rfl) kd3 (by repeat (first | exact List.Mem.head _ | apply List.Mem.tail)) (by exact rfl)) ?_
                      refine lyes rfl rfl rfl rfl ?_
                      refine gstepB rfl rfl (run_eql (.tmp rfl) (.tmp rfl) (decide_eq_false c3)) ?_
                      refine lstepB rfl rfl rfl (by first | exact run_pick_true (.tmp rfl) .const | exact run_pick_false (.tmp rfl) (.tmp rfl)) ?_
                      refine lstepB rfl rfl rfl (run_assign (.tmp rfl)) ?_
                      refine lnil ?_
                      refine xw_in ?_
                      refine xw_then ?_
                      refine cw_region ?_
                      refine lstepB rfl rfl rfl (run_move (.tmp rfl)) ?_
                      refine lstepB rfl rfl rfl (run_add (c := ((k + 1 + 1 : Nat) : Int)) (.tmp rfl) .const (by rw [show ((k + 1 + 1 : Nat) : Int) = ((k + 1 : Nat) : Int) + 1 by omega]; exact IntWalk.i64_in _ (by omega))) ?_
                      refine lstepB rfl rfl rfl (run_assign (.tmp rfl)) ?_
                      refine lnil ?_
                      exact xw_round (k + 1, false) ⟨by simp only; omega, ⟨fun h => (by cases h), fun ⟨j, hj, e⟩ => by rcases Nat.lt_or_ge j (k + 1) with h | h; exact hhb.2 ⟨j, by omega, e⟩; exact absurd (by rw [show j = k + 1 by omega] at e; exact e) c3⟩⟩ (by show f.offs.length - (k + 1) < f.offs.length - k; omega) (by repeat (first | exact Less.nil | refine Less.cons rfl ?_)) (by repeat (first | exact Pick.nil | (apply Pick.cons; focus (repeat (first | exact Del.here | apply Del.there)))))
                    case true =>
                      refine cw_skip ?_
                      refine xw_then ?_
                      refine cw_region ?_
                      refine lstepB rfl rfl rfl (run_move (.tmp rfl)) ?_
                      refine lstepB rfl rfl rfl (run_move (.tmp rfl)) ?_
                      refine lskip rfl rfl rfl rfl rfl rfl rfl ?_
                      refine lskip rfl rfl rfl rfl rfl rfl rfl ?_
                      refine lskip rfl rfl rfl rfl rfl rfl rfl ?_
                      refine lskip rfl rfl rfl rfl rfl rfl rfl ?_
                      refine lskip rfl rfl rfl rfl rfl rfl rfl ?_
                      refine lstepB rfl rfl rfl (by first | exact run_pick_true (.tmp rfl) .const | exact run_pick_false (.tmp rfl) (.tmp rfl)) ?_
                      refine lstepB rfl rfl rfl (run_assign (.tmp rfl)) ?_
                      refine lnil ?_
                      refine xw_in ?_
                      refine xw_then ?_
                      refine cw_region ?_
                      refine lstepB rfl rfl rfl (run_move (.tmp rfl)) ?_
                      refine lstepB rfl rfl rfl (run_add (c := ((k + 1 + 1 : Nat) : Int)) (.tmp rfl) .const (by rw [show ((k + 1 + 1 : Nat) : Int) = ((k + 1 : Nat) : Int) + 1 by omega]; exact IntWalk.i64_in _ (by omega))) ?_
                      refine lstepB rfl rfl rfl (run_assign (.tmp rfl)) ?_
                      refine lnil ?_
                      exact xw_round (k + 1, true) ⟨by simp only; omega, ⟨fun _ => by obtain ⟨j, hj, e⟩ := hhb.1 rfl; exact ⟨j, by omega, e⟩, fun _ => rfl⟩⟩ (by show f.offs.length - (k + 1) < f.offs.length - k; omega) (by repeat (first | exact Less.nil | refine Less.cons rfl ?_)) (by repeat (first | exact Pick.nil | (apply Pick.cons; focus (repeat (first | exact Del.here | apply Del.there)))))
              ·
                by_cases c2 : (sureN f.offs).testBit (k + 1) = true
                ·
                  exact absurd (show bentT s (k + 1) < mostT s by omega) (hA c2).1
                ·
                  by_cases c3 : (bendS f.offs (k + 1)).hi = (bendT f.offs).hi
                  ·
                    refine lstepB rfl rfl rfl (run_move (.tmp rfl)) ?_
                    refine lstepB rfl rfl rfl (run_extract (.tmp rfl) rfl) ?_
                    refine lstepB rfl rfl rfl (run_extract (.tmp rfl) rfl) ?_
                    refine lstep rfl rfl rfl (run_alloc zr28) ?_
                    intro b20 _
                    refine lstep0 rfl rfl (run_storeN (.tmp rfl) (.tmp rfl) rfl sz28 rfl (by repeat (first | exact Upd.here | apply Upd.there)) (by repeat (first | exact Put.done | apply Put.put | apply Put.skip))) ?_
                    refine lstepB rfl rfl rfl (run_assign (.tmp rfl)) ?_
                    refine lnil ?_
                    refine xw_then ?_
                    refine cw_seq ?_
                    refine cw_seq ?_
                    refine cw_region ?_
                    refine lstepB rfl rfl rfl (run_move (.tmp rfl)) ?_
                    refine lstepB rfl rfl rfl (run_neq (.tmp rfl) .const (by first | exact decide_eq_true (by omega) | exact decide_eq_false (by omega) | exact rfl)) ?_
                    refine lstepB rfl rfl rfl (run_move (.tmp rfl)) ?_
                    refine lyes rfl rfl rfl rfl ?_
                    refine gstepB rfl rfl (run_move (.tmp rfl)) ?_
                    refine lyes rfl rfl rfl rfl ?_
                    refine gstepB rfl rfl (run_loadN (.tmp rfl) kd28 sz28 (by repeat (first | exact List.Mem.head _ | apply List.Mem.tail)) (by repeat (first | exact Sub.done | apply Sub.take | apply Sub.skip))) ?_
                    refine lyes rfl rfl rfl rfl ?_
                    refine gstepB rfl rfl (run_call1 cb33 (.cons (.tmp rfl) (.cons (.tmp rfl) .nil)) (fun w2 _ => (insideK _ _ w2).as (congrArg Value.bool hin))) ?_
                    refine lyes rfl rfl rfl rfl ?_
                    refine gstepB rfl rfl (run_not (.tmp rfl) (by first | exact Bool.not_true | exact Bool.not_false | exact rfl)) ?_
                    refine lstepB rfl rfl rfl (by first | exact run_pick_true (.tmp rfl) .const | exact run_pick_false (.tmp rfl) (.tmp rfl)) ?_
                    refine lstepB rfl rfl rfl (run_move (.tmp rfl)) ?_
                    refine lyes rfl rfl rfl rfl ?_
                    refine gstepB rfl rfl (run_fieldAddr (.tmp rfl) fa28_1 (by first | exact Nat.zero_add _ | exact rfl)) ?_
                    refine lyes rfl rfl rfl rfl ?_
                    refine gstepB rfl rfl (run_load1 (.tmp rfl) kd3 (by repeat (first | exact List.Mem.head _ | apply List.Mem.tail)) (by exact rfl)) ?_
                    refine lyes rfl rfl rfl rfl ?_
                    refine gstepB rfl rfl (run_fieldAddr (.tmp rfl) fa28_1 (by first | exact Nat.zero_add _ | exact rfl)) ?_
                    refine lyes rfl rfl rfl rfl ?_
                    refine gstepB rfl rfl (run_load1 (.tmp rfl) kd3 (by repeat (first | exact List.Mem.head _ | apply List.Mem.tail)) (by exact rfl)) ?_
                    refine lyes rfl rfl rfl rfl ?_
                    refine gstepB rfl rfl (run_gtr (.tmp rfl) (.tmp rfl) (decide_eq_false (by omega))) ?_
                    refine lstepB rfl rfl rfl (by first | exact run_pick_true (.tmp rfl) .const | exact run_pick_false (.tmp rfl) (.tmp rfl)) ?_
                    refine lstepB rfl rfl rfl (run_move (.tmp rfl)) ?_
                    refine lyes rfl rfl rfl rfl ?_
                    refine gstepB rfl rfl (run_move (.tmp rfl)) ?_
                    refine lyes rfl rfl rfl rfl ?_
                    refine gstepB rfl rfl (run_move (.tmp rfl)) ?_
                    refine lyes rfl rfl rfl rfl ?_
                    refine gstepB rfl rfl (run_eql (.tmp rfl) (.tmp rfl) (decide_eq_false c1)) ?_
                    refine lyes rfl rfl rfl rfl ?_
                    refine gstepB rfl rfl (run_move (.tmp rfl)) ?_
                    refine lskip rfl rfl rfl rfl rfl rfl rfl ?_
                    refine lskip rfl rfl rfl rfl rfl rfl rfl ?_
                    refine lskip rfl rfl rfl rfl rfl rfl rfl ?_
                    refine lskip rfl rfl rfl rfl rfl rfl rfl ?_
                    refine lskip rfl rfl rfl rfl rfl rfl rfl ?_
                    refine lyes rfl rfl rfl rfl ?_
                    refine gstepB rfl rfl (by first | exact run_pick_true (.tmp rfl) (.tmp rfl) | exact run_pick_false (.tmp rfl) .const) ?_
                    refine lstepB rfl rfl rfl (by first | exact run_pick_true (.tmp rfl) .const | exact run_pick_false (.tmp rfl) (.tmp rfl)) ?_
                    refine lstepB rfl rfl rfl (run_move (.tmp rfl)) ?_
                    refine lyes rfl rfl rfl rfl ?_
                    refine gstepB rfl rfl (run_move (.tmp rfl)) ?_
                    refine lyes rfl rfl rfl rfl ?_
                    refine gstepB rfl rfl (run_move (.tmp rfl)) ?_
                    refine lyes rfl rfl rfl rfl ?_
                    refine gstepB rfl rfl (run_lss (.tmp rfl) (.tmp rfl) (decide_eq_true (by omega))) ?_
                    refine lyes rfl rfl rfl rfl ?_
                    refine gstepB rfl rfl (run_move (.tmp rfl)) ?_
                    refine lyes rfl rfl rfl rfl ?_
                    refine gstepB rfl rfl (run_move (.tmp rfl)) ?_
                    refine lyes rfl rfl rfl rfl ?_
                    refine gstepB rfl rfl (run_move (.tmp rfl)) ?_
                    refine lyes rfl rfl rfl rfl ?_
                    refine gstepB rfl rfl (run_shr (z := k + 1) (.tmp rfl) (.tmp rfl) (by omega)) ?_
                    refine lyes rfl rfl rfl rfl ?_
                    refine gstepB rfl rfl (run_and (c' := ((bitN (sureN f.offs) (k + 1) : Nat) : Int)) (.tmp rfl) .const (and_one hqa)) ?_
                    refine lyes rfl rfl rfl rfl ?_
                    refine gstepB rfl rfl (run_eql (.tmp rfl) .const (decide_eq_false (fun h => c2 (hbA.1 h)))) ?_
                    refine lyes rfl rfl rfl rfl ?_
                    refine gstepB rfl rfl (by first | exact run_pick_true (.tmp rfl) (.tmp rfl) | exact run_pick_false (.tmp rfl) .const) ?_
                    refine lstepB rfl rfl rfl (by first | exact run_pick_true (.tmp rfl) .const | exact run_pick_false (.tmp rfl) (.tmp rfl)) ?_
                    refine lstepB rfl rfl rfl (run_move (.tmp rfl)) ?_
                    refine lyes rfl rfl rfl rfl ?_
                    refine gstepB rfl rfl (run_move (.tmp rfl)) ?_
                    refine lyes rfl rfl rfl rfl ?_
                    refine gstepB rfl rfl (run_move (.tmp rfl)) ?_
                    refine lyes rfl rfl rfl rfl ?_
                    refine gstepB rfl rfl (run_shr (z := k + 1) (.tmp rfl) (.tmp rfl) (by omega)) ?_
                    refine lyes rfl rfl rfl rfl ?_
                    refine gstepB rfl rfl (run_and (c' := ((bitN (sureN f.offs) (k + 1) : Nat) : Int)) (.tmp rfl) .const (and_one hqa)) ?_
                    refine lyes rfl rfl rfl rfl ?_
                    refine gstepB rfl rfl (run_eql (.tmp rfl) .const (decide_eq_false (fun h => c2 (hbA.1 h)))) ?_
                    refine lyes rfl rfl rfl rfl ?_
                    refine gstepB rfl rfl (run_move (.tmp rfl)) ?_
                    refine lskip rfl rfl rfl rfl rfl rfl rfl ?_
                    refine lskip rfl rfl rfl rfl rfl rfl rfl ?_
                    refine lskip rfl rfl rfl rfl rfl rfl rfl ?_
                    refine lskip rfl rfl rfl rfl rfl rfl rfl ?_
                    refine lskip rfl rfl rfl rfl rfl rfl rfl ?_
                    refine lyes rfl rfl rfl rfl ?_
                    refine gstepB rfl rfl (by first | exact run_pick_true (.tmp rfl) (.tmp rfl) | exact run_pick_false (.tmp rfl) .const) ?_
                    refine lstepB rfl rfl rfl (by first | exact run_pick_true (.tmp rfl) .const | exact run_pick_false (.tmp rfl) (.tmp rfl)) ?_
                    refine lstepB rfl rfl rfl (run_move (.tmp rfl)) ?_
                    refine lyes rfl rfl rfl rfl ?_
                    refine gstepB rfl rfl (run_fieldAddr (.tmp rfl) fa28_1 (by first | exact Nat.zero_add _ | exact rfl)) ?_
                    refine lyes rfl rfl rfl rfl ?_
                    refine gstepB rfl rfl (run_load1 (.tmp rfl) kd3 (by repeat (first | exact List.Mem.head _ | apply List.Mem.tail)) (by exact rfl)) ?_
                    refine lyes rfl rfl rfl rfl ?_
                    refine gstepB rfl rfl (run_fieldAddr (.tmp rfl) fa28_1 (by first | exact Nat.zero_add _ | exact rfl)) ?_
                    refine lyes rfl rfl rfl rfl ?_
                    refine gstepB rfl rfl (run_load1 (.tmp rfl) kd3 (by repeat (first | exact List.Mem.head _ | apply List.Mem.tail)) (by exact rfl)) ?_
                    refine lyes rfl rfl rfl rfl ?_
                    refine gstepB rfl rfl (run_eql (.tmp rfl) (.tmp rfl) (decide_eq_true c3)) ?_
                    refine lyes rfl rfl rfl rfl ?_
                    refine gstepB rfl rfl (run_move (.tmp rfl)) ?_
                    refine lyes rfl rfl rfl rfl ?_
                    refine gstepB rfl rfl (run_move (.tmp rfl)) ?_
                    refine lyes rfl rfl rfl rfl ?_
                    refine gstepB rfl rfl (run_move (.tmp rfl)) ?_
                    refine lyes rfl rfl rfl rfl ?_
                    refine gstepB rfl rfl (run_shr (z := k + 1) (.tmp rfl) (.tmp rfl) (by omega)) ?_
                    refine lyes rfl rfl rfl rfl ?_
                    refine gstepB rfl rfl (run_and (c' := ((bitN (canN f.offs) (k + 1) : Nat) : Int)) (.tmp rfl) .const (and_one hqb)) ?_
                    refine lyes rfl rfl rfl rfl ?_
                    refine gstepB rfl rfl (run_eql (.tmp rfl) .const (decide_eq_false (hbB (hB2 c3)))) ?_
                    refine lyes rfl rfl rfl rfl ?_
                    refine gstepB rfl rfl (by first | exact run_pick_true (.tmp rfl) (.tmp rfl) | exact run_pick_false (.tmp rfl) .const) ?_
                    refine lstepB rfl rfl rfl (by first | exact run_pick_true (.tmp rfl) .const | exact run_pick_false (.tmp rfl) (.tmp rfl)) ?_
                    refine lnil ?_
                    refine xw_then ?_
                    refine cw_cond_false (.tmp rfl) ?_
                    cases hb
                    case false =>
                      refine cw_skip ?_
                      refine xw_then ?_
                      refine cw_region ?_
                      refine lstepB rfl rfl rfl (run_move (.tmp rfl)) ?_
                      refine lstepB rfl rfl rfl (run_move (.tmp rfl)) ?_
                      refine lyes rfl rfl rfl rfl ?_
                      refine gstepB rfl rfl (run_fieldAddr (.tmp rfl) fa28_1 (by first | exact Nat.zero_add _ | exact rfl)) ?_
                      refine lyes rfl rfl rfl rfl ?_
                      refine gstepB rfl rfl (run_load1 (.tmp rfl) kd3 (by repeat (first | exact List.Mem.head _ | apply List.Mem.tail)) (by exact rfl)) ?_
                      refine lyes rfl rfl rfl rfl ?_
                      refine gstepB rfl rfl (run_fieldAddr (.tmp rfl) fa28_1 (by first | exact Nat.zero_add _ | exact rfl)) ?_
                      refine lyes rfl rfl rfl rfl ?_
                      refine gstepB rfl rfl (run_load1 (.tmp rfl) kd3 (by repeat (first | exact List.Mem.head _ | apply List.Mem.tail)) (by exact rfl)) ?_
                      refine lyes rfl rfl rfl rfl ?_
                      refine gstepB rfl rfl (run_eql (.tmp rfl) (.tmp rfl) (decide_eq_true c3)) ?_
                      refine lstepB rfl rfl rfl (by first | exact run_pick_true (.tmp rfl) .const | exact run_pick_false (.tmp rfl) (.tmp rfl)) ?_
                      refine lstepB rfl rfl rfl (run_assign (.tmp rfl)) ?_
                      refine lnil ?_
                      refine xw_in ?_
                      refine xw_then ?_
                      refine cw_region ?_
                      refine lstepB rfl rfl rfl (run_move (.tmp rfl)) ?_
                      refine lstepB rfl rfl rfl (run_add (c := ((k + 1 + 1 : Nat) : Int)) (.tmp rfl) .const (by rw [show ((k + 1 + 1 : Nat) : Int) = ((k + 1 : Nat) : Int) + 1 by omega]; exact IntWalk.i64_in _ (by omega))) ?_
                      refine lstepB rfl rfl rfl (run_assign (.tmp rfl)) ?_
                      refine lnil ?_
                      exact xw_round (k + 1, true) ⟨by simp only; omega, ⟨fun _ => ⟨k + 1, by omega, c3⟩, fun _ => rfl⟩⟩ (by show f.offs.length - (k + 1) < f.offs.length - k; omega) (by repeat (first | exact Less.nil | refine Less.cons rfl ?_)) (by repeat (first | exact Pick.nil | (apply Pick.cons; focus (repeat (first | exact Del.here | apply Del.there)))))
                    case true =>
                      refine cw_skip ?_
                      refine xw_then ?_
                      refine cw_region ?_
                      refine lstepB rfl rfl rfl (run_move (.tmp rfl)) ?_
                      refine lstepB rfl rfl rfl (run_move (.tmp rfl)) ?_
                      refine lskip rfl rfl rfl rfl rfl rfl rfl ?_
                      refine lskip rfl rfl rfl rfl rfl rfl rfl ?_
                      refine lskip rfl rfl rfl rfl rfl rfl rfl ?_
                      refine lskip rfl rfl rfl rfl rfl rfl rfl ?_
                      refine lskip rfl rfl rfl rfl rfl rfl rfl ?_
                      refine lstepB rfl rfl rfl (by first | exact run_pick_true (.tmp rfl) .const | exact run_pick_false (.tmp rfl) (.tmp rfl)) ?_
                      refine lstepB rfl rfl rfl (run_assign (.tmp rfl)) ?_
                      refine lnil ?_
                      refine xw_in ?_
                      refine xw_then ?_
                      refine cw_region ?_
                      refine lstepB rfl rfl rfl (run_move (.tmp rfl)) ?_
                      refine lstepB rfl rfl rfl (run_add (c := ((k + 1 + 1 : Nat) : Int)) (.tmp rfl) .const (by rw [show ((k + 1 + 1 : Nat) : Int) = ((k + 1 : Nat) : Int) + 1 by omega]; exact IntWalk.i64_in _ (by omega))) ?_
                      refine lstepB rfl rfl rfl (run_assign (.tmp rfl)) ?_
                      refine lnil ?_
                      exact xw_round (k + 1, true) ⟨by simp only; omega, ⟨fun _ => ⟨k + 1, by omega, c3⟩, fun _ => rfl⟩⟩ (by show f.offs.length - (k + 1) < f.offs.length - k; omega) (by repeat (first | exact Less.nil | refine Less.cons rfl ?_)) (by repeat (first | exact Pick.nil | (apply Pick.cons; focus (repeat (first | exact Del.here | apply Del.there)))))
                  ·
                    refine lstepB rfl rfl rfl (run_move (.tmp rfl)) ?_
                    refine lstepB rfl rfl rfl (run_extract (.tmp rfl) rfl) ?_
                    refine lstepB rfl rfl rfl (run_extract (.tmp rfl) rfl) ?_
                    refine lstep rfl rfl rfl (run_alloc zr28) ?_
                    intro b20 _
                    refine lstep0 rfl rfl (run_storeN (.tmp rfl) (.tmp rfl) rfl sz28 rfl (by repeat (first | exact Upd.here | apply Upd.there)) (by repeat (first | exact Put.done | apply Put.put | apply Put.skip))) ?_
                    refine lstepB rfl rfl rfl (run_assign (.tmp rfl)) ?_
                    refine lnil ?_
                    refine xw_then ?_
                    refine cw_seq ?_
                    refine cw_seq ?_
                    refine cw_region ?_
                    refine lstepB rfl rfl rfl (run_move (.tmp rfl)) ?_
                    refine lstepB rfl rfl rfl (run_neq (.tmp rfl) .const (by first | exact decide_eq_true (by omega) | exact decide_eq_false (by omega) | exact rfl)) ?_
                    refine lstepB rfl rfl rfl (run_move (.tmp rfl)) ?_
                    refine lyes rfl rfl rfl rfl ?_
                    refine gstepB rfl rfl (run_move (.tmp rfl)) ?_
                    refine lyes rfl rfl rfl rfl ?_
                    refine gstepB rfl rfl (run_loadN (.tmp rfl) kd28 sz28 (by repeat (first | exact List.Mem.head _ | apply List.Mem.tail)) (by repeat (first | exact Sub.done | apply Sub.take | apply Sub.skip))) ?_
                    refine lyes rfl rfl rfl rfl ?_
                    refine gstepB rfl rfl (run_call1 cb33 (.cons (.tmp rfl) (.cons (.tmp rfl) .nil)) (fun w2 _ => (insideK _ _ w2).as (congrArg Value.bool hin))) ?_
                    refine lyes rfl rfl rfl rfl ?_
                    refine gstepB rfl rfl (run_not (.tmp rfl) (by first | exact Bool.not_true | exact Bool.not_false | exact rfl)) ?_
                    refine lstepB rfl rfl rfl (by first | exact run_pick_true (.tmp rfl) .const | exact run_pick_false (.tmp rfl) (.tmp rfl)) ?_
                    refine lstepB rfl rfl rfl (run_move (.tmp rfl)) ?_
                    refine lyes rfl rfl rfl rfl ?_
                    refine gstepB rfl rfl (run_fieldAddr (.tmp rfl) fa28_1 (by first | exact Nat.zero_add _ | exact rfl)) ?_
                    refine lyes rfl rfl rfl rfl ?_
                    refine gstepB rfl rfl (run_load1 (.tmp rfl) kd3 (by repeat (first | exact List.Mem.head _ | apply List.Mem.tail)) (by exact rfl)) ?_
                    refine lyes rfl rfl rfl rfl ?_
                    refine gstepB rfl rfl (run_fieldAddr (.tmp rfl) fa28_1 (by first | exact Nat.zero_add _ | exact rfl)) ?_
                    refine lyes rfl rfl rfl rfl ?_
                    refine gstepB rfl rfl (run_load1 (.tmp rfl) kd3 (by repeat (first | exact List.Mem.head _ | apply List.Mem.tail)) (by exact rfl)) ?_
                    refine lyes rfl rfl rfl rfl ?_
                    refine gstepB rfl rfl (run_gtr (.tmp rfl) (.tmp rfl) (decide_eq_false (by omega))) ?_
                    refine lstepB rfl rfl rfl (by first | exact run_pick_true (.tmp rfl) .const | exact run_pick_false (.tmp rfl) (.tmp rfl)) ?_
                    refine lstepB rfl rfl rfl (run_move (.tmp rfl)) ?_
                    refine lyes rfl rfl rfl rfl ?_
                    refine gstepB rfl rfl (run_move (.tmp rfl)) ?_
                    refine lyes rfl rfl rfl rfl ?_
                    refine gstepB rfl rfl (run_move (.tmp rfl)) ?_
                    refine lyes rfl rfl rfl rfl ?_
                    refine gstepB rfl rfl (run_eql (.tmp rfl) (.tmp rfl) (decide_eq_false c1)) ?_
                    refine lyes rfl rfl rfl rfl ?_
                    refine gstepB rfl rfl (run_move (.tmp rfl)) ?_
                    refine lskip rfl rfl rfl rfl rfl rfl rfl ?_
                    refine lskip rfl rfl rfl rfl rfl rfl rfl ?_
                    refine lskip rfl rfl rfl rfl rfl rfl rfl ?_
                    refine lskip rfl rfl rfl rfl rfl rfl rfl ?_
                    refine lskip rfl rfl rfl rfl rfl rfl rfl ?_
                    refine lyes rfl rfl rfl rfl ?_
                    refine gstepB rfl rfl (by first | exact run_pick_true (.tmp rfl) (.tmp rfl) | exact run_pick_false (.tmp rfl) .const) ?_
                    refine lstepB rfl rfl rfl (by first | exact run_pick_true (.tmp rfl) .const | exact run_pick_false (.tmp rfl) (.tmp rfl)) ?_
                    refine lstepB rfl rfl rfl (run_move (.tmp rfl)) ?_
                    refine lyes rfl rfl rfl rfl ?_
                    refine gstepB rfl rfl (run_move (.tmp rfl)) ?_
                    refine lyes rfl rfl rfl rfl ?_
                    refine gstepB rfl rfl (run_move (.tmp rfl)) ?_
                    refine lyes rfl rfl rfl rfl ?_
                    refine gstepB rfl rfl (run_lss (.tmp rfl) (.tmp rfl) (decide_eq_true (by omega))) ?_
                    refine lyes rfl rfl rfl rfl ?_
                    refine gstepB rfl rfl (run_move (.tmp rfl)) ?_
                    refine lyes rfl rfl rfl rfl ?_
                    refine gstepB rfl rfl (run_move (.tmp rfl)) ?_
                    refine lyes rfl rfl rfl rfl ?_
                    refine gstepB rfl rfl (run_move (.tmp rfl)) ?_
                    refine lyes rfl rfl rfl rfl ?_
                    refine gstepB rfl rfl (run_shr (z := k + 1) (.tmp rfl) (.tmp rfl) (by omega)) ?_
                    refine lyes rfl rfl rfl rfl ?_
                    refine gstepB rfl rfl (run_and (c' := ((bitN (sureN f.offs) (k + 1) : Nat) : Int)) (.tmp rfl) .const (and_one hqa)) ?_
                    refine lyes rfl rfl rfl rfl ?_
                    refine gstepB rfl rfl (run_eql (.tmp rfl) .const (decide_eq_false (fun h => c2 (hbA.1 h)))) ?_
                    refine lyes rfl rfl rfl rfl ?_
                    refine gstepB rfl rfl (by first | exact run_pick_true (.tmp rfl) (.tmp rfl) | exact run_pick_false (.tmp rfl) .const) ?_
                    refine lstepB rfl rfl rfl (by first | exact run_pick_true (.tmp rfl) .const | exact run_pick_false (.tmp rfl) (.tmp rfl)) ?_
                    refine lstepB rfl rfl rfl (run_move (.tmp rfl)) ?_
                    refine lyes rfl rfl rfl rfl ?_
                    refine gstepB rfl rfl (run_move (.tmp rfl)) ?_
                    refine lyes rfl rfl rfl rfl ?_
                    refine gstepB rfl rfl (run_move (.tmp rfl)) ?_
                    refine lyes rfl rfl rfl rfl ?_
                    refine gstepB rfl rfl (run_shr (z := k + 1) (.tmp rfl) (.tmp rfl) (by omega)) ?_
                    refine lyes rfl rfl rfl rfl ?_
                    refine gstepB rfl rfl (run_and (c' := ((bitN (sureN f.offs) (k + 1) : Nat) : Int)) (.tmp rfl) .const (and_one hqa)) ?_
                    refine lyes rfl rfl rfl rfl ?_
                    refine gstepB rfl rfl (run_eql (.tmp rfl) .const (decide_eq_false (fun h => c2 (hbA.1 h)))) ?_
                    refine lyes rfl rfl rfl rfl ?_
                    refine gstepB rfl rfl (run_move (.tmp rfl)) ?_
                    refine lskip rfl rfl rfl rfl rfl rfl rfl ?_
                    refine lskip rfl rfl rfl rfl rfl rfl rfl ?_
                    refine lskip rfl rfl rfl rfl rfl rfl rfl ?_
                    refine lskip rfl rfl rfl rfl rfl rfl rfl ?_
                    refine lskip rfl rfl rfl rfl rfl rfl rfl ?_
                    refine lyes rfl rfl rfl rfl ?_
                    refine gstepB rfl rfl (by first | exact run_pick_true (.tmp rfl) (.tmp rfl) | exact run_pick_false (.tmp rfl) .const) ?_
                    refine lstepB rfl rfl rfl (by first | exact run_pick_true (.tmp rfl) .const | exact run_pick_false (.tmp rfl) (.tmp rfl)) ?_
                    refine lstepB rfl rfl rfl (run_move (.tmp rfl)) ?_
                    refine lyes rfl rfl rfl rfl ?_
                    refine gstepB rfl rfl (run_fieldAddr (.tmp rfl) fa28_1 (by first | exact Nat.zero_add _ | exact rfl)) ?_
                    refine lyes rfl rfl rfl rfl ?_
                    refine gstepB rfl rfl (run_load1 (.tmp rfl) kd3 (by repeat (first | exact List.Mem.head _ | apply List.Mem.tail)) (by exact rfl)) ?_
                    refine lyes rfl rfl rfl rfl ?_
                    refine gstepB rfl rfl (run_fieldAddr (.tmp rfl) fa28_1 (by first | exact Nat.zero_add _ | exact rfl)) ?_
                    refine lyes rfl rfl rfl rfl ?_
                    refine gstepB rfl rfl (run_load1 (.tmp rfl) kd3 (by repeat (first | exact List.Mem.head _ | apply List.Mem.tail)) (by exact rfl)) ?_
                    refine lyes rfl rfl rfl rfl ?_
                    refine gstepB rfl rfl (run_eql (.tmp rfl) (.tmp rfl) (decide_eq_false c3)) ?_
                    refine lyes rfl rfl rfl rfl ?_
                    refine gstepB rfl rfl (run_move (.tmp rfl)) ?_
                    refine lskip rfl rfl rfl rfl rfl rfl rfl ?_
                    refine lskip rfl rfl rfl rfl rfl rfl rfl ?_
                    refine lskip rfl rfl rfl rfl rfl rfl rfl ?_
                    refine lskip rfl rfl rfl rfl rfl rfl rfl ?_
                    refine lskip rfl rfl rfl rfl rfl rfl rfl ?_
                    refine lyes rfl rfl rfl rfl ?_
                    refine gstepB rfl rfl (by first | exact run_pick_true (.tmp rfl) (.tmp rfl) | exact run_pick_false (.tmp rfl) .const) ?_
                    refine lstepB rfl rfl rfl (by first | exact run_pick_true (.tmp rfl) .const | exact run_pick_false (.tmp rfl) (.tmp rfl)) ?_
                    refine lnil ?_
                    refine xw_then ?_
                    refine cw_cond_false (.tmp rfl) ?_
                    cases hb
                    case false =>
                      refine cw_skip ?_
                      refine xw_then ?_
                      refine cw_region ?_
                      refine lstepB rfl rfl rfl (run_move (.tmp rfl)) ?_
                      refine lstepB rfl rfl rfl (run_move (.tmp rfl)) ?_
                      refine lyes rfl rfl rfl rfl ?_
                      refine gstepB rfl rfl (run_fieldAddr (.tmp rfl) fa28_1 (by first | exact Nat.zero_add _ | exact rfl)) ?_
                      refine lyes rfl rfl rfl rfl ?_
                      refine gstepB rfl rfl (run_load1 (.tmp rfl) kd3 (by repeat (first | exact List.Mem.head _ | apply List.Mem.tail)) (by exact rfl)) ?_
                      refine lyes rfl rfl rfl rfl ?_
                      refine gstepB rfl rfl (run_fieldAddr (.tmp rfl) fa28_1 (by first | exact Nat.zero_add _ | exact rfl)) ?_
                      refine lyes rfl rfl rfl rfl ?_
                      refine gstepB rfl rfl (run_load1 (.tmp rfl) kd3 (by repeat (first | exact List.Mem.head _ | apply List.Mem.tail)) (by exact rfl)) ?_
                      refine lyes rfl rfl rfl rfl ?_
                      refine gstepB rfl rfl (run_eql (.tmp rfl) (.tmp rfl) (decide_eq_false c3)) ?_
                      refine lstepB rfl rfl rfl (by first | exact run_pick_true (.tmp rfl) .const | exact run_pick_false (.tmp rfl) (.tmp rfl)) ?_
                      refine lstepB rfl rfl rfl (run_assign (.tmp rfl)) ?_
                      refine lnil ?_
                      refine xw_in ?_
                      refine xw_then ?_
                      refine cw_region ?_
                      refine lstepB rfl rfl rfl (run_move (.tmp rfl)) ?_
                      refine lstepB rfl rfl rfl (run_add (c := ((k + 1 + 1 : Nat) : Int)) (.tmp rfl) .const (by rw [show ((k + 1 + 1 : Nat) : Int) = ((k + 1 : Nat) : Int) + 1 by omega]; exact IntWalk.i64_in _ (by omega))) ?_
                      refine lstepB rfl rfl rfl (run_assign (.tmp rfl)) ?_
                      refine lnil ?_
                      exact xw_round (k + 1, false) ⟨by simp only; omega, ⟨fun h => (by cases h), fun ⟨j, hj, e⟩ => by rcases Nat.lt_or_ge j (k + 1) with h | h; exact hhb.2 ⟨j, by omega, e⟩; exact absurd (by rw [show j = k + 1 by omega] at e; exact e) c3⟩⟩ (by show f.offs.length - (k + 1) < f.offs.length - k; omega) (by repeat (first | exact Less.nil | refine Less.cons rfl ?_)) (by repeat (first | exact Pick.nil | (apply Pick.cons; focus (repeat (first | exact Del.here | apply Del.there)))))
                    case true =>
                      refine cw_skip ?_
                      refine xw_then ?_
                      refine cw_region ?_
                      refine lstepB rfl rfl rfl (run_move (.tmp rfl)) ?_
                      refine lstepB rfl rfl rfl (run_move (.tmp rfl)) ?_
                      refine lskip rfl rfl rfl rfl rfl rfl rfl ?_
                      refine lskip rfl rfl rfl rfl rfl rfl rfl ?_
                      refine lskip rfl rfl rfl rfl rfl rfl rfl ?_
                      refine lskip rfl rfl rfl rfl rfl rfl rfl ?_
                      refine lskip rfl rfl rfl rfl rfl rfl rfl ?_
                      refine lstepB rfl rfl rfl (by first | exact run_pick_true (.tmp rfl) .const | exact run_pick_false (.tmp rfl) (.tmp rfl)) ?_
                      refine lstepB rfl rfl rfl (run_assign (.tmp rfl)) ?_
                      refine lnil ?_
                      refine xw_in ?_
                      refine xw_then ?_
                      refine cw_region ?_
                      refine lstepB rfl rfl rfl (run_move (.tmp rfl)) ?_
                      refine lstepB rfl rfl rfl (run_add (c := ((k + 1 + 1 : Nat) : Int)) (.tmp rfl) .const (by rw [show ((k + 1 + 1 : Nat) : Int) = ((k + 1 : Nat) : Int) + 1 by omega]; exact IntWalk.i64_in _ (by omega))) ?_
                      refine lstepB rfl rfl rfl (run_assign (.tmp rfl)) ?_
                      refine lnil ?_
                      exact xw_round (k + 1, true) ⟨by simp only; omega, ⟨fun _ => by obtain ⟨j, hj, e⟩ := hhb.1 rfl; exact ⟨j, by omega, e⟩, fun _ => rfl⟩⟩ (by show f.offs.length - (k + 1) < f.offs.length - k; omega) (by repeat (first | exact Less.nil | refine Less.cons rfl ?_)) (by repeat (first | exact Pick.nil | (apply Pick.cons; focus (repeat (first | exact Del.here | apply Del.there)))))
            ·
              obtain rfl : k = f.offs.length - 2 := by omega
              have hfin : hb = true ∨ ((innerN (f.offs.length - 2) : Nat) : Int) = 0 := by
                rcases Nat.lt_or_ge f.offs.length 3 with h3 | h3
                · exact .inr (by rw [show f.offs.length - 2 = 0 by omega]; rfl)
                · left
                  refine hhb.2 ?_
                  obtain ⟨u, hu1, hu2⟩ := (bendT_spec hfine).2.2
                  obtain ⟨j, hj, e⟩ := some_leads hu1.1 h3
                  have h1 := (bendS_at hfine hj hu1).2
                  obtain ⟨t2, ht2, e2⟩ := bendS_hi hfine hj
                  have h2 := mostT_ge ht2.1 hj
                  have h4 := ((bendT_spec hfine).1 t2 ht2).2
                  exact ⟨j, ⟨hj.1, by have := hj.2; omega⟩, by omega⟩
              cases hb
              case false =>
                have hfin := hfin.resolve_left (by simp)
                refine cw_exit ?_
                refine xw_then_exit ?_
                refine xw_then_exit ?_
                refine xw_in_exit ?_
                refine xw_then ?_
                refine cw_seq ?_
                refine cw_region ?_
                refine lstepB rfl rfl rfl (run_move (.tmp rfl)) ?_
                refine lstepB rfl rfl rfl (run_move (.tmp rfl)) ?_
                refine lyes rfl rfl rfl rfl ?_
                refine gstepB rfl rfl (run_move (.tmp rfl)) ?_
                refine lyes rfl rfl rfl rfl ?_
                refine gstepB rfl rfl (run_eql (.tmp rfl) .const (decide_eq_true hfin)) ?_
                refine lstepB rfl rfl rfl (by first | exact run_pick_true (.tmp rfl) .const | exact run_pick_false (.tmp rfl) (.tmp rfl)) ?_
                refine lstepB rfl rfl rfl (run_move (.tmp rfl)) ?_
                refine lyes rfl rfl rfl rfl ?_
                refine gstepB rfl rfl (run_call1 cb13 .nil (fun w _ => aliveK w)) ?_
                refine lstepB rfl rfl rfl (by first | exact run_pick_true (.tmp rfl) (.tmp rfl) | exact run_pick_false (.tmp rfl) .const) ?_
                refine lstepB rfl rfl rfl (run_assign (.tmp rfl)) ?_
                refine lnil ?_
                refine xw_then ?_
                refine cw_ret ?_
                refine xw_ret1 Try.results9 rfl (fun w hS => ⟨rfl, hS.kept⟩)
              case true =>
                refine cw_exit ?_
                refine xw_then_exit ?_
                refine xw_then_exit ?_
                refine xw_in_exit ?_
                refine xw_then ?_
                refine cw_seq ?_
                refine cw_region ?_
                refine lstepB rfl rfl rfl (run_move (.tmp rfl)) ?_
                refine lstepB rfl rfl rfl (run_move (.tmp rfl)) ?_
                refine lskip rfl rfl rfl rfl rfl rfl rfl ?_
                refine lskip rfl rfl rfl rfl rfl rfl rfl ?_
                refine lstepB rfl rfl rfl (by first | exact run_pick_true (.tmp rfl) .const | exact run_pick_false (.tmp rfl) (.tmp rfl)) ?_
                refine lstepB rfl rfl rfl (run_move (.tmp rfl)) ?_
                refine lyes rfl rfl rfl rfl ?_
                refine gstepB rfl rfl (run_call1 cb13 .nil (fun w _ => aliveK w)) ?_
                refine lstepB rfl rfl rfl (by first | exact run_pick_true (.tmp rfl) (.tmp rfl) | exact run_pick_false (.tmp rfl) .const) ?_
                refine lstepB rfl rfl rfl (run_assign (.tmp rfl)) ?_
                refine lnil ?_
                refine xw_then ?_
                refine cw_ret ?_
                refine xw_ret1 Try.results9 rfl (fun w hS => ⟨rfl, hS.kept⟩)
  ·
    refine .mk <| enter (n := 229) Try.func9 rfl rfl rfl (by repeat (first | exact Fill.nil | apply Fill.cons)) ?_
    refine cw_seq ?_
    refine cw_region ?_
    refine lstep rfl rfl rfl (run_boxN (.tmp rfl)) ?_
    intro b2 _
    refine lstepB rfl rfl rfl (run_assign .const) ?_
    refine lnil ?_
    refine xw_then ?_
    refine cw_seq ?_
    refine cw_seq ?_
    refine cw_region ?_
    refine lstepB rfl rfl rfl (run_loadN (.tmp rfl) kd24 sz24 (by repeat (first | exact List.Mem.head _ | apply List.Mem.tail)) (by repeat (first | exact Sub.done | apply Sub.take | apply Sub.skip))) ?_
    refine lstepB rfl rfl rfl (run_call1 cb12 (.cons (.tmp rfl) (.cons .const (.cons .const .nil))) (fun w2 hS => (heavyK f oa wa da oc wc dc 8 6 w2 hbnd (hf.kept hS.kept)).as (congrArg Value.bool hh))) ?_
    refine lstepB rfl rfl rfl (run_move (.tmp rfl)) ?_
    refine lskip rfl rfl rfl rfl rfl rfl rfl ?_
    refine lskip rfl rfl rfl rfl rfl rfl rfl ?_
    refine lskip rfl rfl rfl rfl rfl rfl rfl ?_
    refine lstepB rfl rfl rfl (by first | exact run_pick_true (.tmp rfl) .const | exact run_pick_false (.tmp rfl) (.tmp rfl)) ?_
    refine lnil ?_
    refine xw_then ?_
    refine cw_cond_true (.tmp rfl) ?_
    refine cw_seq ?_
    refine cw_region ?_
    refine lstepB rfl rfl rfl (run_call1 cb13 .nil (fun w _ => aliveK w)) ?_
    refine lstepB rfl rfl rfl (run_assign (.tmp rfl)) ?_
    refine lnil ?_
    refine xw_then ?_
    refine cw_ret ?_
    refine xw_then_ret ?_
    refine xw_ret1 Try.results9 rfl (fun w hS => ⟨rfl, hS.kept⟩)
end Go.Proofs.Ytjdeplehhmhpcaa
