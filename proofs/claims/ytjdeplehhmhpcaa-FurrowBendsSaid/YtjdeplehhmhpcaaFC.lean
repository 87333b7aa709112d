/- Package furrow: the bend at a station. -/
import Derived.Test.YtjdeplehhmhpcaaFB
namespace Go.Proofs.Ytjdeplehhmhpcaa
open Go.RowKit En

/-- All bends of offsets of three lists. -/
def bendsI (A B C : List Int) : List Int := A.flatMap fun a => B.flatMap fun b => C.map fun c => bendI a b c
def minN (l : List Int) (k : Nat) : Int := (l.take k).foldl min (l.headD 0)
def maxN (l : List Int) (k : Nat) : Int := (l.take k).foldl max (l.headD 0)
def bendAtS (s t u : SpanD) : SpanD :=
  let l := bendsI (upL s.lo s.hi) (upL t.lo t.hi) (upL u.lo u.hi)
  ⟨minN l l.length, maxN l l.length⟩
theorem minN_succ {l : List Int} {k : Nat} {x : Int} (h : l[k]? = some x) : minN l (k + 1) = min (minN l k) x := by simp [minN, List.take_add_one, h]
theorem maxN_succ {l : List Int} {k : Nat} {x : Int} (h : l[k]? = some x) : maxN l (k + 1) = max (maxN l k) x := by simp [maxN, List.take_add_one, h]
theorem minN_one {l : List Int} {x : Int} (h : l[0]? = some x) : minN l 1 = x ∧ maxN l 1 = x := by
  cases l with
  | nil => cases h
  | cons a r => cases h; simp [minN, maxN]
abbrev IntsAt (w : World) (a : Option Addr) (l : List Int) : Prop := RowsAt w a 1 (l.map fun n => [.int .i64 n])
theorem IntsAt.int {w : World} {a : Option Addr} {l : List Int} (h : IntsAt w a l) (hn : 0 < l.length) : ∃ b o, a = some ⟨b, o, none⟩ ∧ b < w.heap.size ∧ ∀ i n, l[i]? = some n → w.cell? ⟨b, o + i, none⟩ = some (.int .i64 n) := by
  obtain ⟨b, o, e, hlt, hc⟩ := RowsAt.at_ h (by simpa using hn)
  exact ⟨b, o, e, hlt, fun i n hi => by simpa using hc i [.int .i64 n] (by simp [hi]) 0 _ rfl⟩
theorem intsAt_row {w : World} {b cap : Nat} {cur : List Value} {te : TypeId} {fr : Nat × Nat} {l : List Int} {n : Nat} (h : w.heap[b]? = some (.cells cur.toArray te fr)) (hr : InRow 1 n cap cur (intsV l)) : IntsAt w (some ⟨b, 0, none⟩) l := rowsAt_cells h fun i r hi j v hj => by
  rw [List.getElem?_map] at hi
  obtain ⟨m, hm, rfl⟩ := Option.map_eq_some_iff.1 hi
  match j, hj with
  | 0, hj =>
    cases hj
    have : (intsV l)[i]? = some (.int .i64 m) := by simp [intsV, hm]
    simpa using hr.get this
theorem inrow_some {sz n : Nat} {xs : List Value} (h : xs.length = n * sz) (hn : n ≤ maxLen) : ∃ q : Nat × Nat × List Value, InRow sz n q.2.1 q.2.2 xs := ⟨(0, n, xs), Nat.le_refl _, hn, h, by rw [← h]; exact List.take_length⟩
theorem Pick.refl : ∀ H : Heap, Pick H H
  | [] => .nil
  | _ :: r => .cons .here (Pick.refl r)
theorem Pick.skip {x : Nat × Obj} {H H' : Heap} (h : Pick H H') : Pick (x :: H) H' := by
  induction h with
  | nil => exact .nil
  | cons hd _ ih => exact .cons (.there hd) ih
/-- A list of numbers that an own row holds, or nothing yet. -/
def Held (l : List Int) (s : Option (Nat × Nat × List Value)) : Prop := match s with | none => l = [] | some q => l ≠ [] ∧ InRow 1 l.length q.2.1 q.2.2 (intsV l)
def heldH (b : Nat) (l : List Int) : Option (Nat × Nat × List Value) → Heap
  | none => [(b, Obj.cells [.slice none 0 0].toArray 33 (0, 0))]
  | some q => [(q.1, Obj.cells q.2.2.toArray 3 (0, 0)), (b, Obj.cells [.slice (some ⟨q.1, 0, none⟩) l.length q.2.1].toArray 33 (0, 0))]
theorem bendsI_succ {A B C : List Int} {k : Nat} {a : Int} (h : A[k]? = some a) : bendsI (A.take (k + 1)) B C = bendsI (A.take k) B C ++ bendsI [a] B C := by simp [bendsI, List.take_add_one, h]
theorem bendsI_succ2 {B C : List Int} {k : Nat} {a b : Int} (h : B[k]? = some b) : bendsI [a] (B.take (k + 1)) C = bendsI [a] (B.take k) C ++ bendsI [a] [b] C := by simp [bendsI, List.take_add_one, h]
theorem bendsI_succ3 {C : List Int} {k : Nat} {a b c : Int} (h : C[k]? = some c) : bendsI [a] [b] (C.take (k + 1)) = bendsI [a] [b] (C.take k) ++ [bendI a b c] := by simp [bendsI, List.take_add_one, h]
theorem bendsI_length (A B C : List Int) : (bendsI A B C).length = A.length * (B.length * C.length) := by
  simp [bendsI, List.length_flatMap, List.map_const', Nat.mul_comm]
theorem bendsI_small {A B C : List Int} {a b : Int} {k1 k2 k3 : Nat} (hA : A.length ≤ 40) (hB : B.length ≤ 40) (hC : C.length ≤ 40) : (bendsI (A.take k1) B C ++ bendsI [a] (B.take k2) C ++ bendsI [a] [b] (C.take k3)).length ≤ 80000 := by
  simp only [List.length_append, bendsI_length, List.length_take, List.length_singleton, Nat.one_mul]
  have h1 : min k1 A.length * (B.length * C.length) ≤ 40 * (40 * 40) := Nat.mul_le_mul (by omega) (Nat.mul_le_mul hB hC)
  have h2 : min k2 B.length * C.length ≤ 40 * 40 := Nat.mul_le_mul (by omega) hC
  have h3 : min k3 C.length ≤ 40 := by omega
  omega
theorem bendI_abs {a b c : Int} (ha : -1000 ≤ a ∧ a ≤ 1000) (hb : -1000 ≤ b ∧ b ≤ 1000) (hc : -1000 ≤ c ∧ c ≤ 1000) : 0 ≤ bendI a b c ∧ bendI a b c ≤ 4000 := by unfold bendI; omega
set_option maxRecDepth 100000 in
set_option maxHeartbeats 4000000 in
theorem minK (l : List Int) (a : Option Addr) (c : Nat) (w : World) (hn : 1 ≤ l.length) (hm : l.length ≤ 1000000) (hq : IntsAt w a l) : Gives Try.prog 86 [.slice a l.length c] w (.int .i64 (minN l l.length)) := by
  refine .mk <| enter (n := 25) Try.func86 rfl rfl rfl (by repeat (first | exact Fill.nil | apply Fill.cons)) ?_
  refine cw_seq ?_
  refine cw_region ?_
  refine lstepB rfl rfl rfl (run_assign .const) ?_
  refine lnil ?_
  refine xw_then ?_
  refine cw_seq ?_
  refine cw_seq ?_
  refine cw_region ?_
  refine lstepB rfl rfl rfl (run_move (.tmp rfl)) ?_
  refine lstepB rfl rfl rfl (run_len (.tmp rfl) sl33) ?_
  refine lstepB rfl rfl rfl (run_lss (.tmp rfl) .const (by first | exact decide_eq_true (by omega) | exact decide_eq_false (by omega) | exact rfl)) ?_
  refine lnil ?_
  refine xw_then ?_
  refine cw_cond_false (.tmp rfl) ?_
  obtain ⟨b, o, rfl, hb, hc⟩ := hq.int hn
  obtain ⟨x0, hx0⟩ : ∃ x, l[0]? = some x := ⟨_, List.getElem?_eq_getElem hn⟩
  refine cw_skip ?_
  refine xw_then ?_
  refine cw_seq ?_
  refine cw_region ?_
  refine lstepB rfl rfl rfl (run_move (.tmp rfl)) ?_
  refine lstepB rfl rfl rfl (run_indexAddr (off' := o + 0) (i := 0) (.tmp rfl) (.const (v := .int .i64 ((0 : Nat) : Int))) el33 (by omega) (by rw [Nat.zero_mul])) ?_
  refine lstepB rfl rfl rfl (run_load1_at (.tmp rfl) kd3 (fun w' hS => hS.old_cell (fun h => h) (hc 0 x0 hx0))) ?_
  refine lstepB rfl rfl rfl (run_assign (.tmp rfl)) ?_
  refine lnil ?_
  refine xw_then ?_
  refine cw_seq ?_
  refine cw_seq ?_
  refine cw_region ?_
  refine lstepB rfl rfl rfl (run_assign .const) ?_
  refine lnil ?_
  refine xw_then ?_
  refine cw_block ?_
  rw [← (minN_one hx0).1]
  refine cw_loop (S := Nat) (fun k => [(3, .int .i64 (minN l k)), (4, .int .i64 (k : Int))]) [(0, _)] (fun k => []) (fun k => k ≤ l.length) (fun k => l.length - k) 1 hn (by repeat (first | exact Less.nil | refine Less.cons rfl ?_)) (by repeat (first | exact Pick.nil | (apply Pick.cons; focus (repeat (first | exact Del.here | apply Del.there))))) ?_
  intro k hk
  refine cw_seq ?_
  refine cw_seq ?_
  refine cw_region ?_
  refine lstepB rfl rfl rfl (run_move (.tmp rfl)) ?_
  refine lstepB rfl rfl rfl (run_move (.tmp rfl)) ?_
  refine lstepB rfl rfl rfl (run_len (.tmp rfl) sl33) ?_
  refine lstepB rfl rfl rfl (run_lss (.tmp rfl) (.tmp rfl) (by first | exact decide_eq_true (by omega) | exact decide_eq_false (by omega) | exact rfl)) ?_
  refine lnil ?_
  refine xw_then ?_
  refine cw_cond_p (.tmp rfl) (fun hl => ?_) (fun hl => ?_)
  ·
    obtain ⟨x, hx⟩ : ∃ x, l[k]? = some x := ⟨_, List.getElem?_eq_getElem (by omega)⟩
    have hsu := minN_succ hx
    refine cw_skip ?_
    refine xw_then ?_
    refine cw_seq ?_
    refine cw_block ?_
    refine cw_region ?_
    refine lstepB rfl rfl rfl (run_move (.tmp rfl)) ?_
    refine lstepB rfl rfl rfl (run_move (.tmp rfl)) ?_
    refine lstepB rfl rfl rfl (run_move (.tmp rfl)) ?_
    refine lstepB rfl rfl rfl (run_indexAddr (off' := o + k) (.tmp rfl) (.tmp rfl) el33 (by omega) (by rw [Nat.mul_one])) ?_
    refine lstepB rfl rfl rfl (run_load1_at (.tmp rfl) kd3 (fun w' hS => hS.old_cell (fun h => h) (hc k x hx))) ?_
    refine lstepB rfl rfl rfl (run_min2 (.tmp rfl) (.tmp rfl)) ?_
    refine lstepB rfl rfl rfl (run_assign (.tmp rfl)) ?_
    refine lnil ?_
    refine xw_in ?_
    refine xw_then ?_
    refine cw_region ?_
    refine lstepB rfl rfl rfl (run_move (.tmp rfl)) ?_
    refine lstepB rfl rfl rfl (run_add (.tmp rfl) .const (by first | exact IntWalk.i64_in _ (by omega) | exact rfl)) ?_
    refine lstepB rfl rfl rfl (run_assign (.tmp rfl)) ?_
    refine lnil ?_
    rw [← hsu]
    exact xw_round (k + 1) (by show k + 1 ≤ _; omega) (by show l.length - (k + 1) < l.length - k; omega) (by repeat (first | exact Less.nil | refine Less.cons rfl ?_)) (by repeat (first | exact Pick.nil | (apply Pick.cons; focus (repeat (first | exact Del.here | apply Del.there)))))
  ·
    obtain rfl : k = l.length := by omega
    refine cw_exit ?_
    refine xw_then_exit ?_
    refine xw_then_exit ?_
    refine xw_in_exit ?_
    refine xw_then ?_
    refine cw_seq ?_
    refine cw_region ?_
    refine lstepB rfl rfl rfl (run_move (.tmp rfl)) ?_
    refine lstepB rfl rfl rfl (run_assign (.tmp rfl)) ?_
    refine lnil ?_
    refine xw_then ?_
    refine cw_ret ?_
    refine xw_ret1 Try.results86 rfl (fun w hS => ⟨rfl, hS.kept⟩)
set_option maxRecDepth 100000 in
set_option maxHeartbeats 4000000 in
theorem maxK (l : List Int) (a : Option Addr) (c : Nat) (w : World) (hn : 1 ≤ l.length) (hm : l.length ≤ 1000000) (hq : IntsAt w a l) : Gives Try.prog 87 [.slice a l.length c] w (.int .i64 (maxN l l.length)) := by
  refine .mk <| enter (n := 25) Try.func87 rfl rfl rfl (by repeat (first | exact Fill.nil | apply Fill.cons)) ?_
  refine cw_seq ?_
  refine cw_region ?_
  refine lstepB rfl rfl rfl (run_assign .const) ?_
  refine lnil ?_
  refine xw_then ?_
  refine cw_seq ?_
  refine cw_seq ?_
  refine cw_region ?_
  refine lstepB rfl rfl rfl (run_move (.tmp rfl)) ?_
  refine lstepB rfl rfl rfl (run_len (.tmp rfl) sl33) ?_
  refine lstepB rfl rfl rfl (run_lss (.tmp rfl) .const (by first | exact decide_eq_true (by omega) | exact decide_eq_false (by omega) | exact rfl)) ?_
  refine lnil ?_
  refine xw_then ?_
  refine cw_cond_false (.tmp rfl) ?_
  obtain ⟨b, o, rfl, hb, hc⟩ := hq.int hn
  obtain ⟨x0, hx0⟩ : ∃ x, l[0]? = some x := ⟨_, List.getElem?_eq_getElem hn⟩
  refine cw_skip ?_
  refine xw_then ?_
  refine cw_seq ?_
  refine cw_region ?_
  refine lstepB rfl rfl rfl (run_move (.tmp rfl)) ?_
  refine lstepB rfl rfl rfl (run_indexAddr (off' := o + 0) (i := 0) (.tmp rfl) (.const (v := .int .i64 ((0 : Nat) : Int))) el33 (by omega) (by rw [Nat.zero_mul])) ?_
  refine lstepB rfl rfl rfl (run_load1_at (.tmp rfl) kd3 (fun w' hS => hS.old_cell (fun h => h) (hc 0 x0 hx0))) ?_
  refine lstepB rfl rfl rfl (run_assign (.tmp rfl)) ?_
  refine lnil ?_
  refine xw_then ?_
  refine cw_seq ?_
  refine cw_seq ?_
  refine cw_region ?_
  refine lstepB rfl rfl rfl (run_assign .const) ?_
  refine lnil ?_
  refine xw_then ?_
  refine cw_block ?_
  rw [← (minN_one hx0).2]
  refine cw_loop (S := Nat) (fun k => [(3, .int .i64 (maxN l k)), (4, .int .i64 (k : Int))]) [(0, _)] (fun k => []) (fun k => k ≤ l.length) (fun k => l.length - k) 1 hn (by repeat (first | exact Less.nil | refine Less.cons rfl ?_)) (by repeat (first | exact Pick.nil | (apply Pick.cons; focus (repeat (first | exact Del.here | apply Del.there))))) ?_
  intro k hk
  refine cw_seq ?_
  refine cw_seq ?_
  refine cw_region ?_
  refine lstepB rfl rfl rfl (run_move (.tmp rfl)) ?_
  refine lstepB rfl rfl rfl (run_move (.tmp rfl)) ?_
  refine lstepB rfl rfl rfl (run_len (.tmp rfl) sl33) ?_
  refine lstepB rfl rfl rfl (run_lss (.tmp rfl) (.tmp rfl) (by first | exact decide_eq_true (by omega) | exact decide_eq_false (by omega) | exact rfl)) ?_
  refine lnil ?_
  refine xw_then ?_
  refine cw_cond_p (.tmp rfl) (fun hl => ?_) (fun hl => ?_)
  ·
    obtain ⟨x, hx⟩ : ∃ x, l[k]? = some x := ⟨_, List.getElem?_eq_getElem (by omega)⟩
    have hsu := maxN_succ hx
    refine cw_skip ?_
    refine xw_then ?_
    refine cw_seq ?_
    refine cw_block ?_
    refine cw_region ?_
    refine lstepB rfl rfl rfl (run_move (.tmp rfl)) ?_
    refine lstepB rfl rfl rfl (run_move (.tmp rfl)) ?_
    refine lstepB rfl rfl rfl (run_move (.tmp rfl)) ?_
    refine lstepB rfl rfl rfl (run_indexAddr (off' := o + k) (.tmp rfl) (.tmp rfl) el33 (by omega) (by rw [Nat.mul_one])) ?_
    refine lstepB rfl rfl rfl (run_load1_at (.tmp rfl) kd3 (fun w' hS => hS.old_cell (fun h => h) (hc k x hx))) ?_
    refine lstepB rfl rfl rfl (run_max2 (.tmp rfl) (.tmp rfl)) ?_
    refine lstepB rfl rfl rfl (run_assign (.tmp rfl)) ?_
    refine lnil ?_
    refine xw_in ?_
    refine xw_then ?_
    refine cw_region ?_
    refine lstepB rfl rfl rfl (run_move (.tmp rfl)) ?_
    refine lstepB rfl rfl rfl (run_add (.tmp rfl) .const (by first | exact IntWalk.i64_in _ (by omega) | exact rfl)) ?_
    refine lstepB rfl rfl rfl (run_assign (.tmp rfl)) ?_
    refine lnil ?_
    rw [← hsu]
    exact xw_round (k + 1) (by show k + 1 ≤ _; omega) (by show l.length - (k + 1) < l.length - k; omega) (by repeat (first | exact Less.nil | refine Less.cons rfl ?_)) (by repeat (first | exact Pick.nil | (apply Pick.cons; focus (repeat (first | exact Del.here | apply Del.there)))))
  ·
    obtain rfl : k = l.length := by omega
    refine cw_exit ?_
    refine xw_then_exit ?_
    refine xw_then_exit ?_
    refine xw_in_exit ?_
    refine xw_then ?_
    refine cw_seq ?_
    refine cw_region ?_
    refine lstepB rfl rfl rfl (run_move (.tmp rfl)) ?_
    refine lstepB rfl rfl rfl (run_assign (.tmp rfl)) ?_
    refine lnil ?_
    refine xw_then ?_
    refine cw_ret ?_
    refine xw_ret1 Try.results87 rfl (fun w hS => ⟨rfl, hS.kept⟩)
end Go.Proofs.Ytjdeplehhmhpcaa
