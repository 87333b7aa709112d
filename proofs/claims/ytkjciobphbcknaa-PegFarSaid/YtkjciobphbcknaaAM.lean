/- The laws of package peg: some of the lengths. -/
import Derived.Test.YtkjciobphbcknaaAL
namespace Go.Proofs.Ytkjciobphbcknaa
open Go.RowKit

theorem spanL_any (a b : Int) (w : World) : Calls Try.prog 28 #[.int .i64 a, .int .i64 b] w fun e w' => e = .returned (.agg #[.int .i64 a, .int .i64 b]) ∧ w' = w.alloc (.cells #[.int .i64 a, .int .i64 b] 32) := by
  go_enter Try.func28, Try.ntmps28
  go_wp2
  refine bodyPost_ret (v := .agg #[.int .i64 a, .int .i64 b]) (by simp [results, Try.results28, go_sem]) rfl ?_
  exact ⟨rfl, rfl⟩
theorem postL_any (a b c d : Int) (w : World) : Calls Try.prog 69 #[.int .i64 a, .int .i64 b, .int .i64 c, .int .i64 d] w fun e w' => e = .returned (.agg #[.int .i64 a, .int .i64 b, .int .i64 c, .int .i64 d]) ∧ Kept w w' := by
  go_enter Try.func69, Try.ntmps69
  go_wp2_with (go_at_call 28; refine (spanL_any _ _ _).mono ?_; rintro e w1 ⟨rfl, rfl⟩)
  refine bodyPost_ret (v := .agg #[.int .i64 a, .int .i64 b, .int .i64 c, .int .i64 d]) (by simp [results, Try.results69, go_sem]) rfl ?_
  exact ⟨rfl, (((Kept.refl _).alloc _).alloc _).alloc _⟩

theorem info65 : (Try.prog.info? 65).map (fun i => (i.zero, i.size, i.bytes)) = some (some (.agg #[.int .i64 0, .int .i64 0, .int .i64 0, .int .i64 0]), 4, 32) := by kernel_rfl
def lenCells (L : List Len) : List Value := L.flatMap fun l => [.int .i64 l.a, .int .i64 l.b, .int .i64 l.lo, .int .i64 l.hi]
theorem lenCells_snoc (L : List Len) (l : Len) : lenCells (L ++ [l]) = lenCells L ++ [.int .i64 l.a, .int .i64 l.b, .int .i64 l.lo, .int .i64 l.hi] := by simp [lenCells]
theorem lenCells_length (L : List Len) : (lenCells L).length = L.length * 4 := by
  induction L with
  | nil => rfl
  | cons a l ih => simp only [lenCells, List.flatMap_cons, List.length_append, List.length_cons, List.length_nil] at *; omega
theorem lenCells_at : ∀ (L : List Len) (i : Nat) (l : Len), L[i]? = some l → (lenCells L)[i * 4]? = some (.int .i64 l.a) ∧ (lenCells L)[i * 4 + 1]? = some (.int .i64 l.b) ∧ (lenCells L)[i * 4 + 2]? = some (.int .i64 l.lo) ∧ (lenCells L)[i * 4 + 3]? = some (.int .i64 l.hi)
  | [], i, l, h => by simp at h
  | x :: r, 0, l, h => by simp at h; subst h; simp [lenCells]
  | x :: r, i + 1, l, h => by
    have := lenCells_at r i l (by simpa using h)
    have e : lenCells (x :: r) = [.int .i64 x.a, .int .i64 x.b, .int .i64 x.lo, .int .i64 x.hi] ++ lenCells r := by simp [lenCells]
    rw [e]
    have q : ∀ k, ([Value.int .i64 x.a, .int .i64 x.b, .int .i64 x.lo, .int .i64 x.hi] ++ lenCells r)[(i + 1) * 4 + k]? = (lenCells r)[i * 4 + k]? := fun k => by
      rw [List.getElem?_append_right (by simp; omega)]
      congr 1
      simp; omega
    exact ⟨(q 0).trans this.1, (q 1).trans this.2.1, (q 2).trans this.2.2.1, (q 3).trans this.2.2.2⟩

/-- A slice value that owns lengths. -/
def OwnsLens (w : World) (base : Nat) (v : Value) (L : List Len) : Prop := w.ownsRow base 65 4 v L.length (lenCells L)
theorem append_len {ops : Array Oper} {rest : List Oper} {o : Oper} {a : Act} {Q : Exit → Act → World → Prop} (hgd : o.guard = none) (s x : Operand)
    (ho : o.op = .call { callee := .builtin .append, args := #[s, x], argTypes := #[23, 23] }) (base : Nat) (v : Value) (L : List Len) (q : Len) (hs : a.eval s = v) (w : World) (hown : OwnsLens w base v L)
    (n : Nat) (hn : n = w.heap.size) (hx : a.eval x = .slice (some ⟨n, 0, none⟩) 1 1) (hlen : L.length ≤ 1000) (hbase : base ≤ w.heap.size)
    (h : ∀ v' w', OwnsLens w' base v' (L ++ [q]) → (w.alloc (.cells #[.int .i64 q.a, .int .i64 q.b, .int .i64 q.lo, .int .i64 q.hi] 65)).grownBy w' v.ownBlock → wpList Try.prog ops Q rest (a.put o.dst v') w') :
    wpList Try.prog ops Q (o :: rest) a (w.alloc (.cells #[.int .i64 q.a, .int .i64 q.b, .int .i64 q.lo, .int .i64 q.hi] 65)) := by
  subst hn
  obtain ⟨i0, hi, hz0, hz1, hz2⟩ := info_parts info65
  refine wpList_append_own _ hgd s x 23 ho base 65 i0 (.agg #[.int .i64 0, .int .i64 0, .int .i64 0, .int .i64 0]) 4 32 Try.underlying23 hi hz0 hz1 hz2 rfl (by decide) v L.length (lenCells L) hs (World.ownsRow.alloc hown _)
    ⟨w.heap.size, 0, none⟩ 1 1 [.int .i64 q.a, .int .i64 q.b, .int .i64 q.lo, .int .i64 q.hi] hx rfl ?_ (by simp [Value.oneCell']) (by unfold maxLen; omega) (by omega) (by simp; omega) ?_
  · intro j u hj
    match j with
    | 0 => simp at hj; subst hj; simp [go_sem, Addr.add]
    | 1 => simp at hj; subst hj; simp [go_sem, Addr.add]
    | 2 => simp at hj; subst hj; simp [go_sem, Addr.add]
    | 3 => simp at hj; subst hj; simp [go_sem, Addr.add]
    | n + 4 => simp at hj
  · intro v' w' h1 h2 _
    exact h v' w' (by unfold OwnsLens; rw [lenCells_snoc, List.length_append]; exact h1) h2

/-- Is a number in a set? -/
def bitAt (set j : Nat) : Bool := decide (set / 2 ^ j % 2 = 1)
theorem bit_run (s j : Nat) (hs : s < 64) (hj : j < 6) : bits .and .i64 ((s : Int) / 2 ^ j) 1 = ((s / 2 ^ j % 2 : Nat) : Int) := (by decide +kernel : ∀ s : Fin 64, ∀ j : Fin 6, bits .and .i64 ((s.1 : Int) / 2 ^ j.1) 1 = ((s.1 / 2 ^ j.1 % 2 : Nat) : Int)) ⟨s, hs⟩ ⟨j, hj⟩
/-- The first of the lengths, those of a set alone. -/
def partTo (set : Nat) (ls : List Len) : Nat → List Len
  | 0 => []
  | j + 1 => partTo set ls j ++ if bitAt set j then ls[j]?.toList else []
def partL (set : Nat) (ls : List Len) : List Len := partTo set ls ls.length
theorem partTo_length (set : Nat) (ls : List Len) : ∀ j, (partTo set ls j).length ≤ j
  | 0 => by simp [partTo]
  | j + 1 => by
    have := partTo_length set ls j
    simp only [partTo, List.length_append]
    split
    · cases ls[j]? <;> simp <;> omega
    · simp; omega

theorem OwnsLens.reads {w : World} {base : Nat} {v : Value} {L : List Len} (h : OwnsLens w base v L) : ∃ pa cap, v = .slice pa L.length cap ∧ LensIn w pa L := by
  obtain ⟨h1, ⟨rfl, h2⟩ | ⟨g, cap, cur, rfl, hb, hg, h3, h4, h5, h6⟩⟩ := h
  · exact ⟨none, 0, by rw [h2], fun i s hi => by rw [List.eq_nil_of_length_eq_zero h2] at hi; simp at hi⟩
  · refine ⟨some ⟨g, 0, none⟩, cap, rfl, fun i s hi => ⟨g, 0, rfl, (Array.getElem?_eq_some_iff.1 hg).1, ?_⟩⟩
    have hil : i < L.length := (List.getElem?_eq_some_iff.1 hi).1
    obtain ⟨c1, c2, c3, c4⟩ := lenCells_at L i s hi
    rw [← h6, List.getElem?_take, if_pos (by omega)] at c1
    rw [← h6, List.getElem?_take, if_pos (by omega)] at c2
    rw [← h6, List.getElem?_take, if_pos (by omega)] at c3
    rw [← h6, List.getElem?_take, if_pos (by omega)] at c4
    simp only [World.cell?, hg]
    exact ⟨by simpa using c1, by simpa using c2, by simpa using c3, by simpa using c4⟩

theorem OwnsLens.set {w : World} {base : Nat} {v : Value} {L : List Len} (h : OwnsLens w base v L) (b o : Nat) (u : Value) (hb : b < base) : OwnsLens (w.setCell ⟨b, o, none⟩ u) base v L := by
  obtain ⟨h1, h2 | ⟨g, cap, cur, e, hbg, hg, r⟩⟩ := h
  · exact ⟨h1, .inl h2⟩
  · exact ⟨h1, .inr ⟨g, cap, cur, e, hbg, (Below.heap_setCell _ _ _ _ (show g ≠ b by omega)).trans hg, r⟩⟩

set_option maxRecDepth 100000 in
set_option maxHeartbeats 4000000 in
theorem part_any (side : Int) (pv : Value) (la : Option Addr) (lc : Nat) (ls : List Len) (set : Nat) (w : World) (hset : set < 64) (h6 : ls.length ≤ 6) (hl : LensIn w la ls) (hpv : ∃ pa n c, pv = .slice pa n c) :
    Calls Try.prog 38 #[.agg #[.int .i64 side, pv, .slice la ls.length lc], .int .i64 set] w
      fun e w' => ∃ pa c, e = .returned (.agg #[.int .i64 side, pv, .slice pa (partL set ls).length c]) ∧ LensIn w' pa (partL set ls) ∧ (∀ a, pa = some a → w.heap.size ≤ a.block) ∧ Kept w w' := by
  have HL := Lib.hid hl
  clear hl
  obtain ⟨pa, pn, pc, rfl⟩ := hpv
  go_enter Try.func38, Try.ntmps38
  go_wp2
  have k0 : Kept w (((w.alloc (Obj.cells #[.int .i64 side, .slice pa pn pc, .slice la ls.length lc] 25)).alloc (Obj.cells #[.int .i64 0, .slice none 0 0, .slice none 0 0] 25)).alloc (Obj.cells #[.int .i64 side, .slice pa pn pc, .slice none 0 0] 25)) := (((Kept.refl _).alloc _).alloc _).alloc _
  have a0 : (((w.alloc (Obj.cells #[.int .i64 side, .slice pa pn pc, .slice la ls.length lc] 25)).alloc (Obj.cells #[.int .i64 0, .slice none 0 0, .slice none 0 0] 25)).alloc (Obj.cells #[.int .i64 side, .slice pa pn pc, .slice none 0 0] 25)).cell? ⟨w.heap.size + 1 + 1, 0, none⟩ = some (.int .i64 side) := by simp [go_sem]
  have a1 : (((w.alloc (Obj.cells #[.int .i64 side, .slice pa pn pc, .slice la ls.length lc] 25)).alloc (Obj.cells #[.int .i64 0, .slice none 0 0, .slice none 0 0] 25)).alloc (Obj.cells #[.int .i64 side, .slice pa pn pc, .slice none 0 0] 25)).cell? ⟨w.heap.size + 1 + 1, 1, none⟩ = some (.slice pa pn pc) := by simp [go_sem]
  have a2 : (((w.alloc (Obj.cells #[.int .i64 side, .slice pa pn pc, .slice la ls.length lc] 25)).alloc (Obj.cells #[.int .i64 0, .slice none 0 0, .slice none 0 0] 25)).alloc (Obj.cells #[.int .i64 side, .slice pa pn pc, .slice none 0 0] 25)).cell? ⟨w.heap.size + 1 + 1, 2, none⟩ = some (.slice none 0 0) := by simp [go_sem]
  have z2 : (((w.alloc (Obj.cells #[.int .i64 side, .slice pa pn pc, .slice la ls.length lc] 25)).alloc (Obj.cells #[.int .i64 0, .slice none 0 0, .slice none 0 0] 25)).alloc (Obj.cells #[.int .i64 side, .slice pa pn pc, .slice none 0 0] 25)).frozen? ⟨w.heap.size + 1 + 1, 2, none⟩ = false := by simp [go_sem]
  have b0 : (((w.alloc (Obj.cells #[.int .i64 side, .slice pa pn pc, .slice la ls.length lc] 25)).alloc (Obj.cells #[.int .i64 0, .slice none 0 0, .slice none 0 0] 25)).alloc (Obj.cells #[.int .i64 side, .slice pa pn pc, .slice none 0 0] 25)).cell? ⟨w.heap.size + 1, 0, none⟩ = some (.int .i64 0) := by simp [go_sem]
  have b1 : (((w.alloc (Obj.cells #[.int .i64 side, .slice pa pn pc, .slice la ls.length lc] 25)).alloc (Obj.cells #[.int .i64 0, .slice none 0 0, .slice none 0 0] 25)).alloc (Obj.cells #[.int .i64 side, .slice pa pn pc, .slice none 0 0] 25)).cell? ⟨w.heap.size + 1, 1, none⟩ = some (.slice none 0 0) := by simp [go_sem]
  have b2 : (((w.alloc (Obj.cells #[.int .i64 side, .slice pa pn pc, .slice la ls.length lc] 25)).alloc (Obj.cells #[.int .i64 0, .slice none 0 0, .slice none 0 0] 25)).alloc (Obj.cells #[.int .i64 side, .slice pa pn pc, .slice none 0 0] 25)).cell? ⟨w.heap.size + 1, 2, none⟩ = some (.slice none 0 0) := by simp [go_sem]
  have y0 : (((w.alloc (Obj.cells #[.int .i64 side, .slice pa pn pc, .slice la ls.length lc] 25)).alloc (Obj.cells #[.int .i64 0, .slice none 0 0, .slice none 0 0] 25)).alloc (Obj.cells #[.int .i64 side, .slice pa pn pc, .slice none 0 0] 25)).frozen? ⟨w.heap.size + 1, 0, none⟩ = false := by simp [go_sem]
  have y1 : (((w.alloc (Obj.cells #[.int .i64 side, .slice pa pn pc, .slice la ls.length lc] 25)).alloc (Obj.cells #[.int .i64 0, .slice none 0 0, .slice none 0 0] 25)).alloc (Obj.cells #[.int .i64 side, .slice pa pn pc, .slice none 0 0] 25)).frozen? ⟨w.heap.size + 1, 1, none⟩ = false := by simp [go_sem]
  have y2 : (((w.alloc (Obj.cells #[.int .i64 side, .slice pa pn pc, .slice la ls.length lc] 25)).alloc (Obj.cells #[.int .i64 0, .slice none 0 0, .slice none 0 0] 25)).alloc (Obj.cells #[.int .i64 side, .slice pa pn pc, .slice none 0 0] 25)).frozen? ⟨w.heap.size + 1, 2, none⟩ = false := by simp [go_sem]
  have sz0 : (((w.alloc (Obj.cells #[.int .i64 side, .slice pa pn pc, .slice la ls.length lc] 25)).alloc (Obj.cells #[.int .i64 0, .slice none 0 0, .slice none 0 0] 25)).alloc (Obj.cells #[.int .i64 side, .slice pa pn pc, .slice none 0 0] 25)).heap.size = w.heap.size + 3 := by simp
  have HLW := Lib.hid (HL.out.kept k0)
  generalize hW0 : (((w.alloc (Obj.cells #[.int .i64 side, .slice pa pn pc, .slice la ls.length lc] 25)).alloc (Obj.cells #[.int .i64 0, .slice none 0 0, .slice none 0 0] 25)).alloc (Obj.cells #[.int .i64 side, .slice pa pn pc, .slice none 0 0] 25)) = W0 at *
  clear hW0
  go_loopw [13] (fun i wr => ∃ (j : Nat) (v : Value), j ≤ ls.length ∧ i = .int .i64 j ∧ OwnsLens wr (w.heap.size + 3) v (partTo set ls j) ∧ wr.cell? ⟨w.heap.size + 1 + 1, 2, none⟩ = some v ∧ KeptT (fun q => q = w.heap.size + 1 + 1) W0 wr ∧
      wr.cell? ⟨w.heap.size + 1 + 1, 0, none⟩ = some (.int .i64 side) ∧ wr.cell? ⟨w.heap.size + 1 + 1, 1, none⟩ = some (.slice pa pn pc) ∧ wr.frozen? ⟨w.heap.size + 1 + 1, 2, none⟩ = false) (fun i _ => ls.length - (intOf i).toNat)
  case atStart => exact ⟨0, .slice none 0 0, Nat.zero_le _, rfl, World.ownsRow_nil _ _ _ _, a2, KeptT.refl _, a0, a1, z2⟩
  case round =>
    obtain ⟨j, v, hj, rfl, hown, e2, hk, e0, e1, ez⟩ := hrel
    by_cases hlt : j < ls.length
    · obtain ⟨bl, o, rfl, hbs, d1, d2, d3, d4⟩ := HLW.out j (ls[j]) (by simp)
      have hbw : bl < w.heap.size := by
        obtain ⟨bl', o', e, hbs', _⟩ := HL.out j (ls[j]) (by simp)
        cases e; exact hbs'
      have hne : ¬ bl = w.heap.size + 1 + 1 := by omega
      have f1 := (hk.cells _ _ hbs hne).trans d1
      have f2 := (hk.cells _ _ hbs hne).trans d2
      have f3 := (hk.cells _ _ hbs hne).trans d3
      have f4 := (hk.cells _ _ hbs hne).trans d4
      have hb2 : bl < wr.heap.size := Nat.lt_of_lt_of_le hbs hk.size
      have hn2 : w.heap.size + 1 + 1 < wr.heap.size := by have := hk.size; omega
      have hbit := bit_run set j hset (by omega)
      have hle := partTo_length set ls j
      have HK := Lib.hid hk
      have HOW := Lib.hid hown
      have h0 : (0 : Int) ≤ (j : Int) := by omega
      clear hk d1 d2 d3 d4
      by_cases hb : set / 2 ^ j % 2 = 1
      · have HP : Hid (partTo set ls (j + 1) = partTo set ls j ++ [ls[j]]) := by rw [Hid, partTo]; simp [bitAt, hb, hlt]
        rw [hb] at hbit
        clear hown
        go_wp2_with (at_builtin; go_must (refine append_len rfl _ _ rfl (w.heap.size + 3) v (partTo set ls j) ls[j] rfl _ (World.ownsRow.alloc HOW.out _) (wr.heap.size + 1) (by simp) rfl (by omega) (by simp; omega) ?_; intro v' w1 hown' hgrow; obtain ⟨px, cx, rfl, hpx⟩ := OwnsLens.reads hown'; have hg2 := World.cell?_of_block (a := ⟨w.heap.size + 1 + 1, 2, none⟩) (hgrow.block (w.heap.size + 1 + 1) (by simp; omega) (fun e => by have := (World.ownsRow.lt HOW.out _ e.symm).1; omega)); have hz2 := World.frozen?_of_block (a := ⟨w.heap.size + 1 + 1, 2, none⟩) (hgrow.block (w.heap.size + 1 + 1) (by simp; omega) (fun e => by have := (World.ownsRow.lt HOW.out _ e.symm).1; omega)); rw [World.cell?_alloc_lt _ _ _ (by simp; omega), World.cell?_alloc_lt _ _ _ (by simp; omega), e2] at hg2; rw [World.frozen?_alloc_past _ _ _ (by simp; omega), World.frozen?_alloc_past _ _ _ (by omega), ez] at hz2))
        have kg : KeptT (fun q => q = w.heap.size + 1 + 1) W0 w1 := by
          have q1 : KeptT (fun q => q = w.heap.size + 1 + 1) W0 (((wr.alloc (Obj.cells #[.int .i64 ls[j].a, .int .i64 ls[j].b, .int .i64 ls[j].lo, .int .i64 ls[j].hi] 65)).alloc (Obj.cells #[.int .i64 ls[j].a, .int .i64 ls[j].b, .int .i64 ls[j].lo, .int .i64 ls[j].hi] 65))) := (HK.out.alloc _).alloc _
          exact ⟨hgrow.os.trans q1.os, hgrow.tape.trans q1.tape, hgrow.output.trans q1.output, Nat.le_trans q1.size hgrow.size, fun k hk hn => (hgrow.block k (Nat.lt_of_lt_of_le hk q1.size) (fun e => by have := (World.ownsRow.lt HOW.out _ e.symm).1; omega)).trans (q1.block k hk hn)⟩
        have hl1 : w.heap.size + 1 + 1 < w1.heap.size := World.block_lt_of_cell? w1 _ hg2
        have x0 : w1.cell? ⟨w.heap.size + 1 + 1, 0, none⟩ = some (.int .i64 side) := by
          rw [World.cell?_of_block (a := ⟨w.heap.size + 1 + 1, 0, none⟩) (hgrow.block (w.heap.size + 1 + 1) (by simp; omega) (fun e => by have := (World.ownsRow.lt HOW.out _ e.symm).1; omega)), World.cell?_alloc_lt _ _ _ (by simp; omega), World.cell?_alloc_lt _ _ _ (by simp; omega), e0]
        have x1 : w1.cell? ⟨w.heap.size + 1 + 1, 1, none⟩ = some (.slice pa pn pc) := by
          rw [World.cell?_of_block (a := ⟨w.heap.size + 1 + 1, 1, none⟩) (hgrow.block (w.heap.size + 1 + 1) (by simp; omega) (fun e => by have := (World.ownsRow.lt HOW.out _ e.symm).1; omega)), World.cell?_alloc_lt _ _ _ (by simp; omega), World.cell?_alloc_lt _ _ _ (by simp; omega), e1]
        have hlen' : (partTo set ls j ++ [ls[j]]).length = (partTo set ls j).length + 1 := by simp
        rw [hlen'] at hown'
        go_roundw
        case rel =>
          refine ⟨j + 1, .slice px ((partTo set ls j).length + 1) cx, by omega, by go_num, by rw [HP.out]; exact OwnsLens.set hown' _ _ _ (by omega), ?_, kg.trans (keptT_setCell _ _ _ _), ?_, ?_, ?_⟩
          · exact World.cell?_setCell_same' _ _ _ (by rw [hg2]; rfl)
          · rw [World.cell?_setCell_other _ _ _ _ (by simp)]; exact x0
          · rw [World.cell?_setCell_other _ _ _ _ (by simp)]; exact x1
          · rw [World.frozen?_setCell]; exact hz2
        case measure => simp [intOf]; omega
      · have HP : Hid (partTo set ls (j + 1) = partTo set ls j) := by rw [Hid, partTo]; simp [bitAt, hb]
        have hb3 : ((set / 2 ^ j % 2 : Nat) : Int) ≠ 1 := by omega
        generalize ((set / 2 ^ j % 2 : Nat) : Int) = bb at *
        have hb4 : (bb == 1) = false := by simpa using hb3
        clear hown hb
        go_wp2
        go_roundw
        case rel =>
          refine ⟨j + 1, v, by omega, by go_num, by rw [HP.out]; exact World.ownsRow.alloc HOW.out _, ?_, HK.out.alloc _, ?_, ?_, ?_⟩
          · rw [World.cell?_alloc_lt _ _ _ (by simp; omega)]; exact e2
          · rw [World.cell?_alloc_lt _ _ _ (by simp; omega)]; exact e0
          · rw [World.cell?_alloc_lt _ _ _ (by simp; omega)]; exact e1
          · rw [World.frozen?_alloc_past _ _ _ (by omega)]; exact ez
        case measure => simp [intOf]; omega
    · have e : j = ls.length := by omega
      subst e
      obtain ⟨px, cx, rfl, hpx⟩ := OwnsLens.reads hown
      have hfar : ∀ a, px = some a → w.heap.size + 3 ≤ a.block := fun a e => (World.ownsRow.lt hown a.block (by rw [e]; rfl)).1
      have hn1 : ¬ w.heap.size + 1 = w.heap.size + 1 + 1 := by omega
      have g0 := (hk.cells (w.heap.size + 1) 0 (by omega) hn1).trans b0
      have g1 := (hk.cells (w.heap.size + 1) 1 (by omega) hn1).trans b1
      have g2 := (hk.cells (w.heap.size + 1) 2 (by omega) hn1).trans b2
      have q0 := (hk.frozens (w.heap.size + 1) 0 (by omega) hn1).trans y0
      have q1 := (hk.frozens (w.heap.size + 1) 1 (by omega) hn1).trans y1
      have q2 := (hk.frozens (w.heap.size + 1) 2 (by omega) hn1).trans y2
      have HPX := Lib.hid hpx
      have HK := Lib.hid (hk.toKept k0 (fun i e => by omega))
      clear hk hown hpx
      go_wp2
      refine bodyPost_ret (v := .agg #[.int .i64 side, .slice pa pn pc, .slice px (partL set ls).length cx]) (by simp [results, Try.results38, go_sem, partL, g0, g1, g2]) rfl ?_
      refine ⟨px, cx, rfl, ?_, fun a e => by have := hfar a e; omega, ((HK.out.setCell (p := ⟨w.heap.size + 1, 0, none⟩) (by simp) _).setCell (p := ⟨w.heap.size + 1, 1, none⟩) (by simp) _).setCell (p := ⟨w.heap.size + 1, 2, none⟩) (by simp) _⟩
      have kT : KeptT (fun q => q = w.heap.size + 1) wr (((wr.setCell ⟨w.heap.size + 1, 0, none⟩ (.int .i64 side)).setCell ⟨w.heap.size + 1, 1, none⟩ (.slice pa pn pc)).setCell ⟨w.heap.size + 1, 2, none⟩ (.slice px (partTo set ls ls.length).length cx)) :=
        ((keptT_setCell _ _ _ _).trans (keptT_setCell _ _ _ _)).trans (keptT_setCell _ _ _ _)
      exact HPX.out.keptT kT (fun a e _ => by have := hfar a e; omega)
end Go.Proofs.Ytkjciobphbcknaa
