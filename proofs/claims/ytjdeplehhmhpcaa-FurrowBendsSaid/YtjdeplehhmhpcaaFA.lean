/- Package furrow: data, and the smallest functions. -/
import Derived.Test.YtjdeplehhmhpcaaEF
import Derived.Test.YtjdeplehhmhpcaaEH
namespace Go.Proofs.Ytjdeplehhmhpcaa
open Go.RowKit En

structure SpanD where
  lo : Int
  hi : Int
  deriving DecidableEq, Inhabited
structure PlaceD where
  k : Int
  a : Int
  b : Int
  deriving DecidableEq, Inhabited
structure FurrowD where
  offs : List SpanD
  wids : List SpanD
  deps : List SpanD
abbrev spanC (s : SpanD) : List Value := [.int .i64 s.lo, .int .i64 s.hi]
abbrev placeC (p : PlaceD) : List Value := [.int .i64 p.k, .int .i64 p.a, .int .i64 p.b]
abbrev placeV (p : PlaceD) : Value := .agg (placeC p).toArray
/-- Rows of m cells that lie one behind the other. -/
def RowsAt (w : World) (a : Option Addr) (m : Nat) (L : List (List Value)) : Prop :=
  ∀ i r, L[i]? = some r → ∃ b o, a = some ⟨b, o, none⟩ ∧ b < w.heap.size ∧ ∀ j v, r[j]? = some v → w.cell? ⟨b, o + i * m + j, none⟩ = some v
theorem cell_kept {w w' : World} {b o : Nat} (hb : Below w.heap.size w w') (h : b < w.heap.size) : w'.cell? ⟨b, o, none⟩ = w.cell? ⟨b, o, none⟩ := World.cell?_of_block (hb.block b h)
theorem cell_kept' {w w' : World} {b o : Nat} {v : Value} (h : w.cell? ⟨b, o, none⟩ = some v) (hb : Below w.heap.size w w') : w'.cell? ⟨b, o, none⟩ = some v := (cell_kept hb (World.block_lt_of_cell? w _ h)).trans h
theorem RowsAt.kept {w w' : World} {a : Option Addr} {m : Nat} {L : List (List Value)} (h : RowsAt w a m L) (hb : Below w.heap.size w w') : RowsAt w' a m L := fun i r hi => by
  obtain ⟨b, o, rfl, hlt, hc⟩ := h i r hi
  exact ⟨b, o, rfl, Nat.lt_of_lt_of_le hlt hb.size, fun j v hj => (cell_kept hb hlt).trans (hc j v hj)⟩
theorem RowsAt.at_ {w : World} {a : Option Addr} {m : Nat} {L : List (List Value)} (h : RowsAt w a m L) (hn : 0 < L.length) : ∃ b o, a = some ⟨b, o, none⟩ ∧ b < w.heap.size ∧ ∀ i r, L[i]? = some r → ∀ j v, r[j]? = some v → w.cell? ⟨b, o + i * m + j, none⟩ = some v := by
  obtain ⟨b, o, rfl, hlt, _⟩ := h 0 _ (List.getElem?_eq_getElem hn)
  refine ⟨b, o, rfl, hlt, fun i r hi j v hj => ?_⟩
  obtain ⟨b', o', e, _, hc⟩ := h i r hi
  cases e
  exact hc j v hj
theorem rowsAt_cells {w : World} {b o m : Nat} {cs : List Value} {te : TypeId} {fr : Nat × Nat} {L : List (List Value)} (h : w.heap[b]? = some (.cells cs.toArray te fr)) (hc : ∀ i r, L[i]? = some r → ∀ j v, r[j]? = some v → cs[o + i * m + j]? = some v) : RowsAt w (some ⟨b, o, none⟩) m L :=
  fun i r hi => ⟨b, o, rfl, (Array.getElem?_eq_some_iff.1 h).1, fun j v hj => by simp [World.cell?, h, hc i r hi j v hj]⟩
abbrev SpansAt (w : World) (a : Option Addr) (l : List SpanD) : Prop := RowsAt w a 2 (l.map spanC)
theorem SpansAt.span {w : World} {a : Option Addr} {l : List SpanD} (h : SpansAt w a l) (hn : 0 < l.length) : ∃ b o, a = some ⟨b, o, none⟩ ∧ b < w.heap.size ∧ ∀ i s, l[i]? = some s → ∀ j v, (spanC s)[j]? = some v → w.cell? ⟨b, o + i * 2 + j, none⟩ = some v := by
  obtain ⟨b, o, e, hlt, hc⟩ := RowsAt.at_ h (by simpa using hn)
  exact ⟨b, o, e, hlt, fun i p hi => hc i _ (by simp [hi])⟩
abbrev spansC (l : List SpanD) : List Value := l.flatMap spanC
theorem spansC_length (l : List SpanD) : (spansC l).length = l.length * 2 := by
  induction l with
  | nil => rfl
  | cons a r ih => simp only [spansC, List.flatMap_cons, List.length_append, List.length_cons, List.length_nil] at ih ⊢; omega
theorem spansC_at : ∀ (l : List SpanD) (i : Nat) (s : SpanD), l[i]? = some s → (spansC l)[i * 2]? = some (.int .i64 s.lo) ∧ (spansC l)[i * 2 + 1]? = some (.int .i64 s.hi)
  | [], i, s, h => by cases h
  | a :: r, 0, s, h => by cases h; exact ⟨rfl, rfl⟩
  | a :: r, i + 1, s, h => by
    have := spansC_at r i s h
    rw [show (i + 1) * 2 = i * 2 + 2 by omega]
    exact this
theorem spans_succ {l : List SpanD} {k : Nat} {s : SpanD} (h : l[k]? = some s) : spansC (l.take k) ++ [.int .i64 s.lo, .int .i64 s.hi] = spansC (l.take (k + 1)) := by
  rw [List.take_add_one, h]
  simp [spansC, List.flatMap_append]
theorem spansAt_row {w : World} {b cap : Nat} {cur : List Value} {te : TypeId} {fr : Nat × Nat} {l : List SpanD} {n : Nat} (h : w.heap[b]? = some (.cells cur.toArray te fr)) (hr : InRow 2 n cap cur (spansC l)) : SpansAt w (some ⟨b, 0, none⟩) l := rowsAt_cells h fun i r hi j v hj => by
  rw [List.getElem?_map] at hi
  obtain ⟨m, hm, rfl⟩ := Option.map_eq_some_iff.1 hi
  obtain ⟨a1, a2⟩ := spansC_at l i m hm
  match j, hj with
  | 0, hj => cases hj; simpa using hr.get a1
  | 1, hj => cases hj; simpa using hr.get a2
/-- Numbers from one to another one. -/
def upL (lo hi : Int) : List Int := (List.range (hi - lo + 1).toNat).map fun (i : Nat) => lo + (i : Int)
abbrev intsV (l : List Int) : List Value := l.map fun n => .int .i64 n
theorem upL_length (lo hi : Int) : (upL lo hi).length = (hi - lo + 1).toNat := by simp [upL]
theorem upL_at {lo hi : Int} {k : Nat} (h : k < (hi - lo + 1).toNat) : (upL lo hi)[k]? = some (lo + (k : Int)) := by simp [upL, h]
theorem upV_at {lo hi : Int} {k : Nat} (h : k < (hi - lo + 1).toNat) : (intsV (upL lo hi))[k]? = some (.int .i64 (lo + (k : Int))) := by simp [intsV, upL_at h]
theorem upV_inv {lo hi : Int} {k : Nat} {v : Value} (h : (intsV (upL lo hi))[k]? = some v) : k < (hi - lo + 1).toNat ∧ v = .int .i64 (lo + (k : Int)) := by
  have hk : k < (hi - lo + 1).toNat := by have := (List.getElem?_eq_some_iff.1 h).1; simpa [upL] using this
  rw [upV_at hk] at h
  cases h
  exact ⟨hk, rfl⟩
theorem mem_upL {lo hi x : Int} : x ∈ upL lo hi ↔ lo ≤ x ∧ x ≤ hi := by
  simp only [upL, List.mem_map, List.mem_range]
  constructor
  · rintro ⟨i, h1, rfl⟩; omega
  · rintro ⟨h1, h2⟩; exact ⟨(x - lo).toNat, by omega, by omega⟩
def bendI (a b c : Int) : Int := max (2 * b - a - c) (-(2 * b - a - c))
/-- A function's value that tells a bool of a number, in every world behind. -/
def PredAt (w : World) (v : Value) (p : Int → Bool) (D : Int → Prop) : Prop :=
  (∃ (G : FuncId) (gs : List Value), v = .func (.func G) #[] gs.toArray ∧ callB Try.prog G = true ∧ ∀ w2, Below w.heap.size w w2 → ∀ x, D x → Gives Try.prog G (.int .i64 x :: gs) w2 (.bool (p x))) ∨
  ∃ (G : FuncId) (fs : List Value), v = .func (.func G) fs.toArray #[] ∧ callB Try.prog G = true ∧ ∀ w2, Below w.heap.size w w2 → ∀ x, D x → Gives Try.prog G (fs ++ [.int .i64 x]) w2 (.bool (p x))
theorem PredAt.kept {w w' : World} {v : Value} {p : Int → Bool} {D : Int → Prop} (h : PredAt w v p D) (hb : Below w.heap.size w w') : PredAt w' v p D := by
  rcases h with ⟨G, gs, h1, h2, h3⟩ | ⟨G, gs, h1, h2, h3⟩
  · exact .inl ⟨G, gs, h1, h2, fun w2 hb2 => h3 w2 (hb.trans (hb2.mono hb.size))⟩
  · exact .inr ⟨G, gs, h1, h2, fun w2 hb2 => h3 w2 (hb.trans (hb2.mono hb.size))⟩
theorem run_pred {E : Env} {w0 w1 : World} {T : Nat → Prop} {H : Heap} {d : Option Tmp} {ty : TypeId} {pos : String} {af : Array Edge} {g : Option (Nat × Bool)} {x y : Operand} {ts : Array TypeId} {v : Value} {p : Int → Bool} {D : Int → Prop} {a : Int} (h : PredAt w1 v p D) (hx : Ev E x v) (hy : Ev E y (.int .i64 a)) (hD : D a) (hk : ∀ w, St w0 T H w → Below w1.heap.size w1 w) :
    RunB Try.prog E w0 T H ⟨d, .call ⟨.value x, [y].toArray, ts⟩, ty, pos, af, g⟩ (.bool (p a)) := by
  rcases h with ⟨G, gs, rfl, h2, h3⟩ | ⟨G, gs, rfl, h2, h3⟩
  · exact run_callv1 h2 hx (.cons hy .nil) rfl (fun w hS => h3 w (hk w hS) a hD)
  · exact run_callm1 h2 hx (.cons hy .nil) rfl (fun w hS => h3 w (hk w hS) a hD)
set_option maxRecDepth 100000 in
set_option maxHeartbeats 4000000 in
theorem betweenK (a b : Int) (w : World) : Gives Try.prog 83 [.int .i64 a, .int .i64 b] w (.agg [.int .i64 a, .int .i64 b].toArray) := by
  refine .mk <| enter (n := 9) Try.func83 rfl rfl rfl (by repeat (first | exact Fill.nil | apply Fill.cons)) ?_
  refine cw_seq ?_
  refine cw_region ?_
  refine lstep rfl rfl rfl (run_alloc zr67) ?_
  intro b4 _
  refine lnil ?_
  refine xw_then ?_
  refine cw_seq ?_
  refine cw_region ?_
  refine lstepB rfl rfl rfl (run_move (.tmp rfl)) ?_
  refine lstepB rfl rfl rfl (run_move (.tmp rfl)) ?_
  refine lstepB rfl rfl rfl (run_build_at (.cons (.tmp rfl) (.cons (.tmp rfl) .nil)) (fun w => bd28_0_1 w)) ?_
  refine lstepB rfl rfl rfl (run_build_at (.cons (.tmp rfl) .nil) (fun w => bd67_0 w)) ?_
  refine lstep0 rfl rfl (run_storeN (.tmp rfl) (.tmp rfl) rfl sz67 rfl (by repeat (first | exact Upd.here | apply Upd.there)) (by repeat (first | exact Put.done | apply Put.put | apply Put.skip))) ?_
  refine lnil ?_
  refine xw_then ?_
  refine cw_ret ?_
  refine xw_retC1 rfl rfl kd67 sz67 (by repeat (first | exact List.Mem.head _ | apply List.Mem.tail)) (by repeat (first | exact Sub.done | apply Sub.take | apply Sub.skip)) (fun w hS => ⟨rfl, hS.kept⟩)
set_option maxRecDepth 100000 in
set_option maxHeartbeats 4000000 in
theorem bendOfK (a b c : Int) (w : World) (ha : -1000 ≤ a ∧ a ≤ 1000) (hb : -1000 ≤ b ∧ b ≤ 1000) (hc : -1000 ≤ c ∧ c ≤ 1000) : Gives Try.prog 85 [.int .i64 a, .int .i64 b, .int .i64 c] w (.int .i64 (bendI a b c)) := by
  refine .mk <| enter (n := 18) Try.func85 rfl rfl rfl (by repeat (first | exact Fill.nil | apply Fill.cons)) ?_
  refine cw_seq ?_
  refine cw_region ?_
  refine lstepB rfl rfl rfl (run_assign .const) ?_
  refine lnil ?_
  refine xw_then ?_
  refine cw_seq ?_
  refine cw_region ?_
  refine lstepB rfl rfl rfl (run_move (.tmp rfl)) ?_
  refine lstepB rfl rfl rfl (run_mul .const (.tmp rfl) (by first | exact IntWalk.i64_in _ (by omega) | exact rfl)) ?_
  refine lstepB rfl rfl rfl (run_move (.tmp rfl)) ?_
  refine lstepB rfl rfl rfl (run_sub (.tmp rfl) (.tmp rfl) (by first | exact IntWalk.i64_in _ (by omega) | exact rfl)) ?_
  refine lstepB rfl rfl rfl (run_move (.tmp rfl)) ?_
  refine lstepB rfl rfl rfl (run_sub (.tmp rfl) (.tmp rfl) (by first | exact IntWalk.i64_in _ (by omega) | exact rfl)) ?_
  refine lstepB rfl rfl rfl (run_assign (.tmp rfl)) ?_
  refine lnil ?_
  refine xw_then ?_
  refine cw_seq ?_
  refine cw_region ?_
  refine lstepB rfl rfl rfl (run_move (.tmp rfl)) ?_
  refine lstepB rfl rfl rfl (run_move (.tmp rfl)) ?_
  refine lstepB rfl rfl rfl (run_neg (.tmp rfl) (by first | exact IntWalk.i64_in _ (by omega) | exact rfl)) ?_
  refine lstepB rfl rfl rfl (run_max2 (.tmp rfl) (.tmp rfl)) ?_
  refine lstepB rfl rfl rfl (run_assign (.tmp rfl)) ?_
  refine lnil ?_
  refine xw_then ?_
  refine cw_ret ?_
  refine xw_ret1 Try.results85 rfl (fun w hS => ⟨rfl, hS.kept⟩)
set_option maxRecDepth 100000 in
set_option maxHeartbeats 4000000 in
theorem nextK (p : PlaceD) (o : Int) (w : World) (hk : 0 ≤ p.k ∧ p.k ≤ 1000) : Gives Try.prog 104 [placeV p, .int .i64 o] w (placeV ⟨p.k + 1, p.b, o⟩) := by
  refine .mk <| enter (n := 14) Try.func104 rfl rfl rfl (by repeat (first | exact Fill.nil | apply Fill.cons)) ?_
  refine cw_seq ?_
  refine cw_region ?_
  refine lstep rfl rfl rfl (run_boxN (.tmp rfl)) ?_
  intro b2 _
  refine lstep rfl rfl rfl (run_alloc zr129) ?_
  intro b4 _
  refine lnil ?_
  refine xw_then ?_
  refine cw_seq ?_
  refine cw_region ?_
  refine lstepB rfl rfl rfl (run_fieldAddr (.tmp rfl) fa129_0 (by first | exact Nat.zero_add _ | exact rfl)) ?_
  refine lstepB rfl rfl rfl (run_load1 (.tmp rfl) kd3 (by repeat (first | exact List.Mem.head _ | apply List.Mem.tail)) (by exact rfl)) ?_
  refine lstepB rfl rfl rfl (run_add (.tmp rfl) .const (by first | exact IntWalk.i64_in _ (by omega) | exact rfl)) ?_
  refine lstepB rfl rfl rfl (run_fieldAddr (.tmp rfl) fa129_1 (by first | exact Nat.zero_add _ | exact rfl)) ?_
  refine lstepB rfl rfl rfl (run_indexAddr_arr (i := 1) (.tmp rfl) (.const (v := .int .i64 ((1 : Nat) : Int))) ar127 (by omega) rfl) ?_
  refine lstepB rfl rfl rfl (run_load1 (.tmp rfl) kd3 (by repeat (first | exact List.Mem.head _ | apply List.Mem.tail)) (by exact rfl)) ?_
  refine lstepB rfl rfl rfl (run_move (.tmp rfl)) ?_
  refine lstepB rfl rfl rfl (run_build_at (.cons (.tmp rfl) (.cons (.tmp rfl) .nil)) (fun w => bd127_0_1 w)) ?_
  refine lstepB rfl rfl rfl (run_build_at (.cons (.tmp rfl) (.cons (.tmp rfl) .nil)) (fun w => bd129_0_1 w)) ?_
  refine lstep0 rfl rfl (run_storeN (.tmp rfl) (.tmp rfl) rfl sz129 rfl (by repeat (first | exact Upd.here | apply Upd.there)) (by repeat (first | exact Put.done | apply Put.put | apply Put.skip))) ?_
  refine lnil ?_
  refine xw_then ?_
  refine cw_ret ?_
  refine xw_retC1 rfl rfl kd129 sz129 (by repeat (first | exact List.Mem.head _ | apply List.Mem.tail)) (by repeat (first | exact Sub.done | apply Sub.take | apply Sub.skip)) (fun w hS => ⟨rfl, hS.kept⟩)
set_option maxRecDepth 100000 in
set_option maxHeartbeats 4000000 in
theorem suit101K (x m : Int) (b : Nat) (w : World) (hm : w.cell? ⟨b, 0, none⟩ = some (.int .i64 m)) : Gives Try.prog 101 [.int .i64 x, .pointer (some ⟨b, 0, none⟩)] w (.bool (decide (x ≤ m))) := by
  refine .mk <| enter (n := 7) Try.func101 rfl rfl rfl (by repeat (first | exact Fill.nil | apply Fill.cons)) ?_
  refine cw_seq ?_
  refine cw_region ?_
  refine lstepB rfl rfl rfl (run_assign .const) ?_
  refine lnil ?_
  refine xw_then ?_
  refine cw_seq ?_
  refine cw_region ?_
  refine lstepB rfl rfl rfl (run_move (.tmp rfl)) ?_
  refine lstepB rfl rfl rfl (run_load1_at (.tmp rfl) kd3 (fun w' hS => hS.old_cell (fun h => h) hm)) ?_
  refine lstepB rfl rfl rfl (run_leq (.tmp rfl) (.tmp rfl) rfl) ?_
  refine lstepB rfl rfl rfl (run_assign (.tmp rfl)) ?_
  refine lnil ?_
  refine xw_then ?_
  refine cw_ret ?_
  refine xw_ret1 Try.results101 rfl (fun w hS => ⟨rfl, hS.kept⟩)
set_option maxRecDepth 100000 in
set_option maxHeartbeats 4000000 in
theorem suit112K (x m : Int) (b : Nat) (w : World) (hm : w.cell? ⟨b, 0, none⟩ = some (.int .i64 m)) : Gives Try.prog 112 [.int .i64 x, .pointer (some ⟨b, 0, none⟩)] w (.bool (decide (m ≤ x))) := by
  refine .mk <| enter (n := 7) Try.func112 rfl rfl rfl (by repeat (first | exact Fill.nil | apply Fill.cons)) ?_
  refine cw_seq ?_
  refine cw_region ?_
  refine lstepB rfl rfl rfl (run_assign .const) ?_
  refine lnil ?_
  refine xw_then ?_
  refine cw_seq ?_
  refine cw_region ?_
  refine lstepB rfl rfl rfl (run_move (.tmp rfl)) ?_
  refine lstepB rfl rfl rfl (run_load1_at (.tmp rfl) kd3 (fun w' hS => hS.old_cell (fun h => h) hm)) ?_
  refine lstepB rfl rfl rfl (run_geq (.tmp rfl) (.tmp rfl) rfl) ?_
  refine lstepB rfl rfl rfl (run_assign (.tmp rfl)) ?_
  refine lnil ?_
  refine xw_then ?_
  refine cw_ret ?_
  refine xw_ret1 Try.results112 rfl (fun w hS => ⟨rfl, hS.kept⟩)
end Go.Proofs.Ytjdeplehhmhpcaa
