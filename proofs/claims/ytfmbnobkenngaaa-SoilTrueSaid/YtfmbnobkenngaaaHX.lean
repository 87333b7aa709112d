/- Soil: what is told of a made ground holds of what it was made of. -/
import Derived.Test.YtfmbnobkenngaaaHW
import Derived.Test.YtfmbnobkenngaaaHL
import Derived.Test.YtfmbnobkenngaaaHMO
namespace Go.Proofs.Ytfmbnobkenngaaa
open Go.RowKit En

namespace Truly
variable {g : GroundD} {L : List PlaceD}
theorem ok_ (t : Truly g L) {i : Nat} (hi : i < L.length) : okP (L.getD i no) := t.m.ok i _ (some_ hi)
theorem hard_in (t : Truly g L) {i : Nat} (hi : i < L.length) : (hardC g (i : Int)).lo ≤ (L.getD i no).h ∧ (L.getD i no).h ≤ (hardC g (i : Int)).hi := truthH_in t.vg t.truthH (by rw [t.places]; exact hi)
theorem soil_in (t : Truly g L) {i : Nat} (hi : i < L.length) : InM ((soilsL g).getD i noMix) (S L i) := (soils_P (s := S L i) t.vg (lookOk_soils t.look) (by rw [t.places]; exact hi) (t.ok_ hi).2.2.2.2).2 ⟨S L, t.truthP, rfl⟩
theorem class_in (t : Truly g L) {i : Nat} (hi : i < L.length) : (classesM ((soilsL g).getD i noMix)).testBit (classN (L.getD i no).a (L.getD i no).b (L.getD i no).c) = true := (classes_bit _ _).2 ⟨S L i, (t.ok_ hi).2.2.2.2, t.soil_in hi, rfl⟩
theorem bit_one {a z : Nat} (h : a.testBit z = true) : a / 2 ^ z % 2 = 1 := by
  rw [Nat.testBit_eq_decide_div_mod_eq] at h
  simpa using h
theorem sure_in (t : Truly g L) {i c : Nat} (hi : i < L.length) (h : sureB (soilsL g) c i = true) : classN (L.getD i no).a (L.getD i no).b (L.getD i no).c = c := by
  have h1 := t.class_in hi
  simp only [sureB, decide_eq_true_eq] at h
  rw [h, Nat.testBit_two_pow] at h1
  simpa [eq_comm] using h1
def sumH (L : List PlaceD) (i : Nat) : Int := ((L.take i).map PlaceD.h).sum
theorem sumH_succ {i : Nat} (hi : i < L.length) : sumH L (i + 1) = sumH L i + (L.getD i no).h := by
  unfold sumH
  rw [List.take_add_one, some_ hi, Option.toList_some, List.map_append, List.sum_append]
  simp
theorem sumH_bound (t : Truly g L) : ∀ i, i ≤ L.length → 0 ≤ sumH L i ∧ sumH L i ≤ 1000 * (i : Int)
  | 0, _ => by simp [sumH]
  | i + 1, h => by
    have ih := t.sumH_bound i (by omega)
    have := (t.ok_ (i := i) (by omega)).1
    rw [sumH_succ (by omega)]
    omega
theorem work_in (t : Truly g L) : ∀ i, i < L.length → (sumR g 0 (i : Int)).lo ≤ sumH L (i + 1) ∧ sumH L (i + 1) ≤ (sumR g 0 (i : Int)).hi
  | 0, h => by
    have h1 := t.hard_in h
    have hl := t.long
    have e0 : sumR g 0 ((0 : Nat) : Int) = hardC g ((0 : Nat) : Int) := sumR_one (g := g) (k := ((0 : Nat) : Int)) (by omega) (by omega)
    rw [e0, sumH_succ h]
    have : sumH L 0 = 0 := rfl
    omega
  | i + 1, h => by
    have ih := t.work_in i (by omega)
    have h1 := t.hard_in h
    have hl := t.len
    rw [sumR_split (g := g) (x := 0) (y := (i : Int)) (z := ((i + 1 : Nat) : Int)) (by omega) (by omega) (by omega), sumH_succ h]
    rw [show (i : Int) + 1 = ((i + 1 : Nat) : Int) by omega, sumR_one (g := g) (k := ((i + 1 : Nat) : Int)) (by omega) (by omega)]
    dsimp only
    omega
end Truly
/-- A pit whose hardness is told otherwise. -/
def wrongP (p : PitD) (W : Int) : PitD := { p with hard := ⟨W, W⟩ }
def wrongG (g : GroundD) (K : Nat) (p : PitD) (W : Int) : GroundD := { g with pits := g.pits.set K (wrongP p W) }
theorem wrong_len (g : GroundD) (K : Nat) (p : PitD) (W : Int) : (wrongG g K p W).pits.length = g.pits.length := List.length_set
theorem VG.wrong {g : GroundD} (h : VG g) {K : Nat} {p : PitD} (hp : g.pits[K]? = some p) {W : Int} (hW : 0 ≤ W ∧ W ≤ 1000) : VG (wrongG g K p W) := by
  refine ⟨⟨h.v.long, h.v.rise, h.v.change, by rw [wrong_len]; exact h.v.len, fun q hq => ?_⟩, ?_⟩
  · rcases List.mem_or_eq_of_mem_set hq with hq | rfl
    · exact h.v.pits q hq
    · obtain ⟨h1, h2⟩ := h.v.pits p (List.mem_of_getElem? hp)
      refine ⟨h1, ?_⟩
      have q1 : decide (0 ≤ W) = true := decide_eq_true hW.1
      have q2 : decide (W ≤ W) = true := decide_eq_true (Int.le_refl _)
      have q3 : decide (W ≤ 1000) = true := decide_eq_true hW.2
      simp only [pitB, withinB, Bool.and_eq_true, wrongP] at h2 ⊢
      exact ⟨⟨⟨⟨⟨q1, q2⟩, q3⟩, h2.1.1.2⟩, h2.1.2⟩, h2.2⟩
  · have e : (wrongG g K p W).pits.map PitD.at_ = g.pits.map PitD.at_ := by
      show (g.pits.set K (wrongP p W)).map PitD.at_ = _
      refine List.ext_getElem? fun j => ?_
      rw [List.getElem?_map, List.getElem?_map, List.getElem?_set]
      split
      · rename_i e; subst e
        split
        · rw [hp]; rfl
        · rename_i hn; exact absurd (List.getElem?_eq_some_iff.1 hp).1 hn
      · rfl
    have h1 := h.ord
    rw [← List.pairwise_map (f := PitD.at_) (R := fun a b : Int => a < b)] at h1 ⊢
    rw [e]; exact h1
theorem oddF_small {g : GroundD} (h : VG g) : oddF g g.pits.length < 2 ^ 32 := by
  have h1 := oddF_lt g g.pits.length
  have h2 := pow8 ⟨g.pits.length, by have := h.v.len; omega⟩
  simp only at h2
  omega
theorem without_wrong {g : GroundD} {K : Nat} {p : PitD} {W : Int} : withoutG (wrongG g K p W) K = withoutG g K := by
  have e2 : ∀ a b : GroundD, a.long = b.long → a.rise = b.rise → a.change = b.change → a.pits = b.pits → a = b := by
    rintro ⟨_, _, _, _⟩ ⟨_, _, _, _⟩ rfl rfl rfl rfl; rfl
  refine e2 _ _ rfl rfl rfl ?_
  rw [without_pits, without_pits]
  show (g.pits.set K (wrongP p W)).take K ++ (g.pits.set K (wrongP p W)).drop (K + 1) = _
  rw [List.take_set_of_le (Nat.le_refl K), List.drop_set_of_lt (Nat.lt_succ_self K)]
theorem Truly.odd_in {g : GroundD} {L : List PlaceD} (t : Truly g L) {K : Nat} (hK : K < g.pits.length) {p : PitD} {W : Int} : (oddF (wrongG g K p W) (wrongG g K p W).pits.length).testBit K = true := by
  rw [oddF_bit, without_wrong, wrong_len, Bool.and_eq_true]
  refine ⟨by simpa using hK, (lookOk_iff (t.vg.without K)).2 ⟨⟨Truly.H L, fun j hj => ?_⟩, ⟨Truly.S L, fun j hj => ?_⟩⟩⟩
  · obtain ⟨h1, h2, h3⟩ := t.truthH j hj
    exact ⟨h1, fun q hq => h2 q (by rw [without_pits] at hq; exact (List.mem_append.1 hq).elim List.mem_of_mem_take List.mem_of_mem_drop), h3⟩
  · obtain ⟨h1, h2, h3⟩ := t.truthP j hj
    exact ⟨h1, fun q hq => h2 q (by rw [without_pits] at hq; exact (List.mem_append.1 hq).elim List.mem_of_mem_take List.mem_of_mem_drop), h3⟩
theorem pitsC_wrong : ∀ (l : List PitD) (K : Nat) (p : PitD) (W : Int), l[K]? = some p → ((pitsC l).set (K * 9 + 1) (.int .i64 W)).set (K * 9 + 2) (.int .i64 W) = pitsC (l.set K (wrongP p W))
  | [], K, p, W, h => by simp at h
  | a :: r, 0, p, W, h => by cases h; rfl
  | a :: r, K + 1, p, W, h => by
    have ih := pitsC_wrong r K p W (by simpa using h)
    show ((pitC a ++ pitsC r).set ((K + 1) * 9 + 1) _).set ((K + 1) * 9 + 2) _ = pitC a ++ pitsC (r.set K (wrongP p W))
    rw [← ih, List.set_append_right _ _ (by simp only [List.length_cons, List.length_nil]; omega), List.set_append_right _ _ (by simp only [List.length_cons, List.length_nil]; omega)]
    have e1 : (K + 1) * 9 + 1 - (pitC a).length = K * 9 + 1 := by simp only [List.length_cons, List.length_nil]; omega
    have e2 : (K + 1) * 9 + 2 - (pitC a).length = K * 9 + 2 := by simp only [List.length_cons, List.length_nil]; omega
    rw [e1, e2]
theorem row_wrong {n cap : Nat} {cur : List Value} {l : List PitD} {K : Nat} {p : PitD} {W : Int} (h : InRow 9 n cap cur (pitsC l)) (hp : l[K]? = some p) : InRow 9 n cap (setAll cur (K * 9 + 1) [.int .i64 W, .int .i64 W]) (pitsC (l.set K (wrongP p W))) := by
  obtain ⟨h1, h2, h3, h4⟩ := h
  refine ⟨h1, h2, ?_, ?_⟩
  · show ((cur.set (K * 9 + 1) _).set (K * 9 + 2) _).length = _
    rw [List.length_set, List.length_set, h3]
  · show ((cur.set (K * 9 + 1) _).set (K * 9 + 2) _).take (n * 9) = _
    rw [List.take_set, List.take_set, h4, pitsC_wrong l K p W hp]
section
variable {P : Program} {w0 : World} {T : Nat → Prop} {R : Heap} {E : Env} {x y : Operand} {d : Option Tmp} {t ty : TypeId} {pos : String} {af : Array Edge} {g : Option (Nat × Bool)} {b off : Nat}
theorem run_storeR {cs l : List Value} {te : TypeId} {k : Nat} {H H' : Heap} (hx : Ev E x (.pointer (some ⟨b, off, none⟩))) (hy : Ev E y (.agg l.toArray)) (hv : l.all plainV = true) (hz : sizeB P t = some k) (hl : l.length = k) (hm : Upd H b (Obj.cells cs.toArray te (0, 0)) (Obj.cells (setAll cs off l).toArray te (0, 0)) H') (hs : off + l.length ≤ cs.length) :
    Run1 P E w0 T H ⟨d, .store t x y, ty, pos, af, g⟩ undef H' := fun ρ w hρ hS => by
  refine doneO rfl ?_
  have e := hρ x _ (by simp [Op.operands]) hx
  have e' := hρ y _ (by simp [Op.operands]) hy
  obtain ⟨w', H1, k1, k2, k3⟩ := run_storeCells (P := P) (off := off) l cs 0 H w hS hm.mem (by simpa using hs) hv
  have hz' := run_size hz w
  rw [Nat.add_zero] at k3
  obtain rfl := k3.unique hm hS.apart
  simp [execOp, e, e', Done, go_sem, Instr.storeAt, Instr.sureAddr, storeVar, hz', Value.cells, hl, k1, k2]
theorem lr_storeR {cs l : List Value} {te : TypeId} {k : Nat} (hx : Ev E x (.pointer (some ⟨b, off, none⟩))) (hy : Ev E y (.agg l.toArray)) (hv : l.all plainV = true) (hz : sizeB P t = some k) (hl : l.length = k) (hs : off + l.length ≤ cs.length) :
    LR1 P E w0 T R [(b, Obj.cells cs.toArray te (0, 0))] ⟨d, .store t x y, ty, pos, af, g⟩ undef [(b, Obj.cells (setAll cs off l).toArray te (0, 0))] :=
  tr_of_run1 rfl fun _ => run_storeR hx hy hv hz hl .here hs
theorem run_remT {k : IntKind} {a c : Int} {tx tyy : TypeId} (hx : Ev E x (.int k a)) (hy : Ev E y (.int k c)) (hc : c ≠ 0) : RunB P E w0 T R ⟨d, .binOp .rem tx x y tyy, ty, pos, af, g⟩ (.int k (a.tmod c)) := fun ρ w hρ _ => by
  refine doneO rfl ?_
  have e := hρ x _ (by simp [Op.operands]) hx
  have e' := hρ y _ (by simp [Op.operands]) hy
  simp [execOp, e, e', Done, go_sem, Below.refl, eqGuard, binOp, Op.intDiv, hc]
end
/-- The numbers that are drawn from, as the call has them. -/
structure U16At (w : World) (pb po : Nat) (l : List Int) : Prop where
  row : ∀ i x, l[i]? = some x → (0 ≤ x ∧ x ≤ 65535) ∧ w.cell? ⟨pb, po + i, none⟩ = some (.int .u16 x)
  pos : 0 < l.length
  len : (l.length : Int) ≤ 9223372036854775807
theorem U16At.draws {w0 w : World} {pb po cap dC bx : Nat} {l : List Int} (h : U16At w0 pb po l) (hS : St w0 NoT [(bx, Obj.cells [.slice (some ⟨pb, po, none⟩) l.length cap].toArray 42 (0, 0))] w) (hA : w.heap[dC]? = some (cntO 0)) : DrawOk w bx dC pb po cap l := by
  have hb := hS.mem (List.Mem.head _)
  have hrow : ∀ i x, l[i]? = some x → (0 ≤ x ∧ x ≤ 65535) ∧ w.cell? ⟨pb, po + i, none⟩ = some (.int .u16 x) := fun i x hi => ⟨(h.row i x hi).1, hS.old_cell (fun h => h) (h.row i x hi).2⟩
  refine ⟨own_cell1 hb, hrow, ?_, ?_, h.pos, h.len⟩
  · rintro rfl
    rw [hb] at hA
    simp [cntO] at hA
  · rintro rfl
    obtain ⟨_, h2⟩ := hrow 0 _ (List.getElem?_eq_getElem h.pos)
    simp only [World.cell?, hA, cntO] at h2
    rcases Nat.eq_zero_or_pos po with e | e
    · subst e; simp at h2
    · simp [show po ≠ 0 by omega] at h2
set_option maxRecDepth 100000 in
set_option maxHeartbeats 4000000 in
theorem insideK (a : SpanD) (n : Int) (h : a.lo ≤ n ∧ n ≤ a.hi) (w : World) : Gives Try.prog 29 [.agg [.int .i64 a.lo, .int .i64 a.hi].toArray, .int .i64 n] w (.bool true) := by
  refine .mk <| enter (n := 15) Try.func29 rfl rfl rfl (by repeat (first | exact Fill.nil | apply Fill.cons)) ?_
  refine cw_seq ?_
  refine cw_region ?_
  refine lstep rfl rfl rfl (run_boxN (.tmp rfl)) ?_
  intro b2 _
  refine lstepB rfl rfl rfl (run_assign .const) ?_
  refine lnil ?_
  refine xw_then ?_
  refine cw_seq ?_
  refine cw_region ?_
  refine lstepB rfl rfl rfl (run_fieldAddr (.tmp rfl) fa28_0 (by first | exact Nat.zero_add _ | exact rfl)) ?_
  refine lstepB rfl rfl rfl (run_load1 (.tmp rfl) kd3 (by repeat (first | exact List.Mem.head _ | apply List.Mem.tail)) (by exact rfl)) ?_
  refine lstepB rfl rfl rfl (run_move (.tmp rfl)) ?_
  refine lstepB rfl rfl rfl (run_leq (.tmp rfl) (.tmp rfl) (by first | exact decide_eq_true (by omega) | exact decide_eq_false (by omega) | exact rfl)) ?_
  refine lstepB rfl rfl rfl (run_move (.tmp rfl)) ?_
  refine lyes rfl rfl rfl rfl ?_
  refine gstepB rfl rfl (run_move (.tmp rfl)) ?_
  refine lyes rfl rfl rfl rfl ?_
  refine gstepB rfl rfl (run_fieldAddr (.tmp rfl) fa28_1 (by first | exact Nat.zero_add _ | exact rfl)) ?_
  refine lyes rfl rfl rfl rfl ?_
  refine gstepB rfl rfl (run_load1 (.tmp rfl) kd3 (by repeat (first | exact List.Mem.head _ | apply List.Mem.tail)) (by exact rfl)) ?_
  refine lyes rfl rfl rfl rfl ?_
  refine gstepB rfl rfl (run_leq (.tmp rfl) (.tmp rfl) (by first | exact decide_eq_true (by omega) | exact decide_eq_false (by omega) | exact rfl)) ?_
  refine lstepB rfl rfl rfl (by first | exact run_pick_true (.tmp rfl) (.tmp rfl) | exact run_pick_false (.tmp rfl) .const) ?_
  refine lstepB rfl rfl rfl (run_assign (.tmp rfl)) ?_
  refine lnil ?_
  refine xw_then ?_
  refine cw_ret ?_
  refine xw_ret1 Try.results29 rfl (fun w hS => ⟨rfl, hS.kept⟩)
set_option maxRecDepth 100000 in
set_option maxHeartbeats 4000000 in
theorem clayTK (a b : Int) (h : -1000 ≤ a ∧ a ≤ 1000 ∧ -1000 ≤ b ∧ b ≤ 1000) (w : World) : Gives Try.prog 52 [.agg [.int .i64 a, .int .i64 b].toArray] w (.int .i64 (20 - a - b)) := by
  refine .mk <| enter (n := 9) Try.func52 rfl rfl rfl (by repeat (first | exact Fill.nil | apply Fill.cons)) ?_
  refine cw_seq ?_
  refine cw_region ?_
  refine lstep rfl rfl rfl (run_boxN (.tmp rfl)) ?_
  intro b1 _
  refine lstepB rfl rfl rfl (run_assign .const) ?_
  refine lnil ?_
  refine xw_then ?_
  refine cw_seq ?_
  refine cw_region ?_
  refine lstepB rfl rfl rfl (run_fieldAddr (.tmp rfl) fa92_0 (by first | exact Nat.zero_add _ | exact rfl)) ?_
  refine lstepB rfl rfl rfl (run_load1 (.tmp rfl) kd3 (by repeat (first | exact List.Mem.head _ | apply List.Mem.tail)) (by exact rfl)) ?_
  refine lstepB rfl rfl rfl (run_sub .const (.tmp rfl) (by first | exact IntWalk.i64_in _ (by omega) | exact rfl)) ?_
  refine lstepB rfl rfl rfl (run_fieldAddr (.tmp rfl) fa92_1 (by first | exact Nat.zero_add _ | exact rfl)) ?_
  refine lstepB rfl rfl rfl (run_load1 (.tmp rfl) kd3 (by repeat (first | exact List.Mem.head _ | apply List.Mem.tail)) (by exact rfl)) ?_
  refine lstepB rfl rfl rfl (run_sub (.tmp rfl) (.tmp rfl) (by first | exact IntWalk.i64_in _ (by omega) | exact rfl)) ?_
  refine lstepB rfl rfl rfl (run_assign (.tmp rfl)) ?_
  refine lnil ?_
  refine xw_then ?_
  refine cw_ret ?_
  refine xw_ret1 Try.results52 rfl (fun w hS => ⟨rfl, hS.kept⟩)
set_option maxRecDepth 100000 in
set_option maxHeartbeats 4000000 in
theorem classTK (a b c : Int) (h : -1000 ≤ a ∧ a ≤ 1000 ∧ -1000 ≤ b ∧ b ≤ 1000) (h20 : a + b + c = 20) (w : World) : Gives Try.prog 75 [.agg [.int .i64 a, .int .i64 b].toArray] w (.int .i64 ((classN a b c : Nat) : Int)) := by
  rw [show c = 20 - a - b by omega]
  unfold classN
  by_cases h1 : 8 ≤ 20 - a - b
  ·
    rw [if_pos h1]
    refine .mk <| enter (n := 12) Try.func75 rfl rfl rfl (by repeat (first | exact Fill.nil | apply Fill.cons)) ?_
    refine cw_seq ?_
    refine cw_region ?_
    refine lstep rfl rfl rfl (run_boxN (.tmp rfl)) ?_
    intro b1 _
    refine lstepB rfl rfl rfl (run_assign .const) ?_
    refine lnil ?_
    refine xw_then ?_
    refine cw_seq ?_
    refine cw_seq ?_
    refine cw_region ?_
    refine lstepB rfl rfl rfl (run_loadN (.tmp rfl) kd92 sz92 (by repeat (first | exact List.Mem.head _ | apply List.Mem.tail)) (by repeat (first | exact Sub.done | apply Sub.take | apply Sub.skip))) ?_
    refine lstepB rfl rfl rfl (run_call1 cb52 (.cons (.tmp rfl) .nil) (fun w _ => clayTK _ _ (by omega) w)) ?_
    refine lstepB rfl rfl rfl (run_geq (.tmp rfl) .const (by first | exact decide_eq_true (by omega) | exact decide_eq_false (by omega) | exact rfl)) ?_
    refine lnil ?_
    refine xw_then ?_
    refine cw_cond_true (.tmp rfl) ?_
    refine cw_seq ?_
    refine cw_region ?_
    refine lstepB rfl rfl rfl (run_assign .const) ?_
    refine lnil ?_
    refine xw_then ?_
    refine cw_ret ?_
    refine xw_then_ret ?_
    refine xw_ret1 Try.results75 rfl (fun w hS => ⟨rfl, hS.kept⟩)
  ·
    rw [if_neg h1]
    by_cases h2 : 14 ≤ a
    ·
      rw [if_pos h2]
      refine .mk <| enter (n := 12) Try.func75 rfl rfl rfl (by repeat (first | exact Fill.nil | apply Fill.cons)) ?_
      refine cw_seq ?_
      refine cw_region ?_
      refine lstep rfl rfl rfl (run_boxN (.tmp rfl)) ?_
      intro b1 _
      refine lstepB rfl rfl rfl (run_assign .const) ?_
      refine lnil ?_
      refine xw_then ?_
      refine cw_seq ?_
      refine cw_seq ?_
      refine cw_region ?_
      refine lstepB rfl rfl rfl (run_loadN (.tmp rfl) kd92 sz92 (by repeat (first | exact List.Mem.head _ | apply List.Mem.tail)) (by repeat (first | exact Sub.done | apply Sub.take | apply Sub.skip))) ?_
      refine lstepB rfl rfl rfl (run_call1 cb52 (.cons (.tmp rfl) .nil) (fun w _ => clayTK _ _ (by omega) w)) ?_
      refine lstepB rfl rfl rfl (run_geq (.tmp rfl) .const (by first | exact decide_eq_true (by omega) | exact decide_eq_false (by omega) | exact rfl)) ?_
      refine lnil ?_
      refine xw_then ?_
      refine cw_cond_false (.tmp rfl) ?_
      refine cw_skip ?_
      refine xw_then ?_
      refine cw_seq ?_
      refine cw_seq ?_
      refine cw_region ?_
      refine lstepB rfl rfl rfl (run_fieldAddr (.tmp rfl) fa92_0 (by first | exact Nat.zero_add _ | exact rfl)) ?_
      refine lstepB rfl rfl rfl (run_load1 (.tmp rfl) kd3 (by repeat (first | exact List.Mem.head _ | apply List.Mem.tail)) (by exact rfl)) ?_
      refine lstepB rfl rfl rfl (run_geq (.tmp rfl) .const (by first | exact decide_eq_true (by omega) | exact decide_eq_false (by omega) | exact rfl)) ?_
      refine lnil ?_
      refine xw_then ?_
      refine cw_cond_true (.tmp rfl) ?_
      refine cw_seq ?_
      refine cw_region ?_
      refine lstepB rfl rfl rfl (run_assign .const) ?_
      refine lnil ?_
      refine xw_then ?_
      refine cw_ret ?_
      refine xw_then_ret ?_
      refine xw_ret1 Try.results75 rfl (fun w hS => ⟨rfl, hS.kept⟩)
    ·
      rw [if_neg h2]
      by_cases h3 : 12 ≤ b
      ·
        rw [if_pos h3]
        refine .mk <| enter (n := 12) Try.func75 rfl rfl rfl (by repeat (first | exact Fill.nil | apply Fill.cons)) ?_
        refine cw_seq ?_
        refine cw_region ?_
        refine lstep rfl rfl rfl (run_boxN (.tmp rfl)) ?_
        intro b1 _
        refine lstepB rfl rfl rfl (run_assign .const) ?_
        refine lnil ?_
        refine xw_then ?_
        refine cw_seq ?_
        refine cw_seq ?_
        refine cw_region ?_
        refine lstepB rfl rfl rfl (run_loadN (.tmp rfl) kd92 sz92 (by repeat (first | exact List.Mem.head _ | apply List.Mem.tail)) (by repeat (first | exact Sub.done | apply Sub.take | apply Sub.skip))) ?_
        refine lstepB rfl rfl rfl (run_call1 cb52 (.cons (.tmp rfl) .nil) (fun w _ => clayTK _ _ (by omega) w)) ?_
        refine lstepB rfl rfl rfl (run_geq (.tmp rfl) .const (by first | exact decide_eq_true (by omega) | exact decide_eq_false (by omega) | exact rfl)) ?_
        refine lnil ?_
        refine xw_then ?_
        refine cw_cond_false (.tmp rfl) ?_
        refine cw_skip ?_
        refine xw_then ?_
        refine cw_seq ?_
        refine cw_seq ?_
        refine cw_region ?_
        refine lstepB rfl rfl rfl (run_fieldAddr (.tmp rfl) fa92_0 (by first | exact Nat.zero_add _ | exact rfl)) ?_
        refine lstepB rfl rfl rfl (run_load1 (.tmp rfl) kd3 (by repeat (first | exact List.Mem.head _ | apply List.Mem.tail)) (by exact rfl)) ?_
        refine lstepB rfl rfl rfl (run_geq (.tmp rfl) .const (by first | exact decide_eq_true (by omega) | exact decide_eq_false (by omega) | exact rfl)) ?_
        refine lnil ?_
        refine xw_then ?_
        refine cw_cond_false (.tmp rfl) ?_
        refine cw_skip ?_
        refine xw_then ?_
        refine cw_seq ?_
        refine cw_seq ?_
        refine cw_region ?_
        refine lstepB rfl rfl rfl (run_fieldAddr (.tmp rfl) fa92_1 (by first | exact Nat.zero_add _ | exact rfl)) ?_
        refine lstepB rfl rfl rfl (run_load1 (.tmp rfl) kd3 (by repeat (first | exact List.Mem.head _ | apply List.Mem.tail)) (by exact rfl)) ?_
        refine lstepB rfl rfl rfl (run_geq (.tmp rfl) .const (by first | exact decide_eq_true (by omega) | exact decide_eq_false (by omega) | exact rfl)) ?_
        refine lnil ?_
        refine xw_then ?_
        refine cw_cond_true (.tmp rfl) ?_
        refine cw_seq ?_
        refine cw_region ?_
        refine lstepB rfl rfl rfl (run_assign .const) ?_
        refine lnil ?_
        refine xw_then ?_
        refine cw_ret ?_
        refine xw_then_ret ?_
        refine xw_ret1 Try.results75 rfl (fun w hS => ⟨rfl, hS.kept⟩)
      ·
        rw [if_neg h3]
        refine .mk <| enter (n := 12) Try.func75 rfl rfl rfl (by repeat (first | exact Fill.nil | apply Fill.cons)) ?_
        refine cw_seq ?_
        refine cw_region ?_
        refine lstep rfl rfl rfl (run_boxN (.tmp rfl)) ?_
        intro b1 _
        refine lstepB rfl rfl rfl (run_assign .const) ?_
        refine lnil ?_
        refine xw_then ?_
        refine cw_seq ?_
        refine cw_seq ?_
        refine cw_region ?_
        refine lstepB rfl rfl rfl (run_loadN (.tmp rfl) kd92 sz92 (by repeat (first | exact List.Mem.head _ | apply List.Mem.tail)) (by repeat (first | exact Sub.done | apply Sub.take | apply Sub.skip))) ?_
        refine lstepB rfl rfl rfl (run_call1 cb52 (.cons (.tmp rfl) .nil) (fun w _ => clayTK _ _ (by omega) w)) ?_
        refine lstepB rfl rfl rfl (run_geq (.tmp rfl) .const (by first | exact decide_eq_true (by omega) | exact decide_eq_false (by omega) | exact rfl)) ?_
        refine lnil ?_
        refine xw_then ?_
        refine cw_cond_false (.tmp rfl) ?_
        refine cw_skip ?_
        refine xw_then ?_
        refine cw_seq ?_
        refine cw_seq ?_
        refine cw_region ?_
        refine lstepB rfl rfl rfl (run_fieldAddr (.tmp rfl) fa92_0 (by first | exact Nat.zero_add _ | exact rfl)) ?_
        refine lstepB rfl rfl rfl (run_load1 (.tmp rfl) kd3 (by repeat (first | exact List.Mem.head _ | apply List.Mem.tail)) (by exact rfl)) ?_
        refine lstepB rfl rfl rfl (run_geq (.tmp rfl) .const (by first | exact decide_eq_true (by omega) | exact decide_eq_false (by omega) | exact rfl)) ?_
        refine lnil ?_
        refine xw_then ?_
        refine cw_cond_false (.tmp rfl) ?_
        refine cw_skip ?_
        refine xw_then ?_
        refine cw_seq ?_
        refine cw_seq ?_
        refine cw_region ?_
        refine lstepB rfl rfl rfl (run_fieldAddr (.tmp rfl) fa92_1 (by first | exact Nat.zero_add _ | exact rfl)) ?_
        refine lstepB rfl rfl rfl (run_load1 (.tmp rfl) kd3 (by repeat (first | exact List.Mem.head _ | apply List.Mem.tail)) (by exact rfl)) ?_
        refine lstepB rfl rfl rfl (run_geq (.tmp rfl) .const (by first | exact decide_eq_true (by omega) | exact decide_eq_false (by omega) | exact rfl)) ?_
        refine lnil ?_
        refine xw_then ?_
        refine cw_cond_false (.tmp rfl) ?_
        refine cw_skip ?_
        refine xw_then ?_
        refine cw_seq ?_
        refine cw_region ?_
        refine lstepB rfl rfl rfl (run_assign .const) ?_
        refine lnil ?_
        refine xw_then ?_
        refine cw_ret ?_
        refine xw_ret1 Try.results75 rfl (fun w hS => ⟨rfl, hS.kept⟩)
set_option maxRecDepth 100000 in
set_option maxHeartbeats 4000000 in
theorem placeK (p : PlaceD) (h : okP p) (w : World) : Gives Try.prog 30 [.agg (plC p).toArray] w (.int .i64 ((classN p.a p.b p.c : Nat) : Int)) := by
  refine .mk <| enter (n := 9) Try.func30 rfl rfl rfl (by repeat (first | exact Fill.nil | apply Fill.cons)) ?_
  refine cw_seq ?_
  refine cw_region ?_
  refine lstep rfl rfl rfl (run_boxN (.tmp rfl)) ?_
  intro b1 _
  refine lstepB rfl rfl rfl (run_assign .const) ?_
  refine lnil ?_
  refine xw_then ?_
  refine cw_seq ?_
  refine cw_region ?_
  refine lstepB rfl rfl rfl (run_fieldAddr (.tmp rfl) fa50_1 (by first | exact Nat.zero_add _ | exact rfl)) ?_
  refine lstepB rfl rfl rfl (run_load1 (.tmp rfl) kd3 (by repeat (first | exact List.Mem.head _ | apply List.Mem.tail)) (by exact rfl)) ?_
  refine lstepB rfl rfl rfl (run_fieldAddr (.tmp rfl) fa50_2 (by first | exact Nat.zero_add _ | exact rfl)) ?_
  refine lstepB rfl rfl rfl (run_load1 (.tmp rfl) kd3 (by repeat (first | exact List.Mem.head _ | apply List.Mem.tail)) (by exact rfl)) ?_
  refine lstepB rfl rfl rfl (run_build_at (.cons (.tmp rfl) (.cons (.tmp rfl) .nil)) (fun w => bd92_0_1 w)) ?_
  refine lstepB rfl rfl rfl (run_call1 cb75 (.cons (.tmp rfl) .nil) (fun w _ => classTK _ _ p.c (by simp only [okP] at h; omega) (by simp only [okP] at h; omega) w)) ?_
  refine lstepB rfl rfl rfl (run_assign (.tmp rfl)) ?_
  refine lnil ?_
  refine xw_then ?_
  refine cw_ret ?_
  refine xw_ret1 Try.results30 rfl (fun w hS => ⟨rfl, hS.kept⟩)
end Go.Proofs.Ytfmbnobkenngaaa
