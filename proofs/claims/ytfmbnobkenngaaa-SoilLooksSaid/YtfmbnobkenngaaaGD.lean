/- Package soil: greatest, least, and spans. -/
import Derived.Test.YtfmbnobkenngaaaGC
namespace Go.Proofs.Ytfmbnobkenngaaa
open Go.RowKit En

def maxL : List Int → Int
  | [] => 0
  | a :: r => r.foldl max a
def minL : List Int → Int
  | [] => 0
  | a :: r => r.foldl min a
theorem maxL_take {l : List Int} {k : Nat} {n : Int} (hk : 0 < k) (hn : l[k]? = some n) : max (maxL (l.take k)) n = maxL (l.take (k + 1)) := by
  obtain ⟨hlt, rfl⟩ := List.getElem?_eq_some_iff.1 hn
  cases l with
  | nil => simp at hlt
  | cons a r =>
    obtain ⟨j, rfl⟩ : ∃ j, k = j + 1 := ⟨k - 1, by omega⟩
    rw [List.take_succ_cons, List.take_succ_cons]
    simp only [maxL]
    rw [List.take_add_one, List.foldl_append]
    simp only [List.length_cons] at hlt
    rw [List.getElem?_eq_getElem (by omega)]
    simp
theorem minL_take {l : List Int} {k : Nat} {n : Int} (hk : 0 < k) (hn : l[k]? = some n) : min (minL (l.take k)) n = minL (l.take (k + 1)) := by
  obtain ⟨hlt, rfl⟩ := List.getElem?_eq_some_iff.1 hn
  cases l with
  | nil => simp at hlt
  | cons a r =>
    obtain ⟨j, rfl⟩ : ∃ j, k = j + 1 := ⟨k - 1, by omega⟩
    rw [List.take_succ_cons, List.take_succ_cons]
    simp only [minL]
    rw [List.take_add_one, List.foldl_append]
    simp only [List.length_cons] at hlt
    rw [List.getElem?_eq_getElem (by omega)]
    simp
theorem maxL_one {l : List Int} {n : Int} (hn : l[0]? = some n) : n = maxL (l.take 1) := by
  cases l with
  | nil => cases hn
  | cons a r => simp at hn; simp [maxL, hn]
theorem minL_one {l : List Int} {n : Int} (hn : l[0]? = some n) : n = minL (l.take 1) := by
  cases l with
  | nil => cases hn
  | cons a r => simp at hn; simp [minL, hn]
set_option maxRecDepth 100000 in
set_option maxHeartbeats 4000000 in
theorem maxK (l : List Int) (qa : Option Addr) (qc : Nat) (w : World) (hm : l.length ≤ 1000000) (hne : 0 < l.length) (hq : IntsAt w qa l) : Gives Try.prog 116 [.slice qa l.length qc] w (.int .i64 (maxL l)) := by
  refine .mk <| enter (n := 25) Try.func116 rfl rfl rfl (by repeat (first | exact Fill.nil | apply Fill.cons)) ?_
  obtain ⟨b, o, rfl, hb, hc⟩ := hq.int hne
  obtain ⟨n0, hn0⟩ : ∃ n, l[0]? = some n := ⟨_, List.getElem?_eq_getElem hne⟩
  refine cw_seq ?_
  refine cw_region ?_
  refine lstepB rfl rfl rfl (run_assign .const) ?_
  refine lnil ?_
  refine xw_then ?_
  refine cw_seq ?_
  refine cw_seq ?_
  refine cw_region ?_
  refine lstepB rfl rfl rfl (run_move (.tmp rfl)) ?_
  refine lstepB rfl rfl rfl (run_len (.tmp rfl) sl102) ?_
  refine lstepB rfl rfl rfl (run_lss (.tmp rfl) .const (by first | exact decide_eq_true (by omega) | exact decide_eq_false (by omega) | exact rfl)) ?_
  refine lnil ?_
  refine xw_then ?_
  refine cw_cond_false (.tmp rfl) ?_
  refine cw_skip ?_
  refine xw_then ?_
  refine cw_seq ?_
  refine cw_region ?_
  refine lstepB rfl rfl rfl (run_move (.tmp rfl)) ?_
  refine lstepB rfl rfl rfl (run_indexAddr (i := 0) (off' := o) (.tmp rfl) .const el102 (by omega) (by omega)) ?_
  refine lstepB rfl rfl rfl (run_load1_at (.tmp rfl) kd3 (fun w' hS => hS.old_cell (fun h => h) (hc 0 n0 hn0))) ?_
  refine lstepB rfl rfl rfl (run_assign (.tmp rfl)) ?_
  refine lnil ?_
  refine xw_then ?_
  refine cw_seq ?_
  refine cw_seq ?_
  refine cw_region ?_
  refine lstepB rfl rfl rfl (run_assign .const) ?_
  refine lnil ?_
  refine xw_then ?_
  refine cw_block ?_
  refine cw_loop (S := Nat × Int) (fun s => [(3, .int .i64 s.2), (4, .int .i64 (s.1 : Int))]) [(0, _)] (fun s => []) (fun s => 1 ≤ s.1 ∧ s.1 ≤ l.length ∧ s.2 = maxL (l.take s.1)) (fun s => l.length - s.1) (1, n0) ⟨Nat.le_refl _, hne, maxL_one hn0⟩ (by repeat (first | exact Less.nil | refine Less.cons rfl ?_)) (by repeat (first | exact Pick.nil | (apply Pick.cons; focus (repeat (first | exact Del.here | apply Del.there))))) ?_
  intro s hs
  obtain ⟨k, m⟩ := s
  obtain ⟨h1, h2, h3⟩ := hs
  dsimp only at h1 h2 h3 ⊢
  subst h3
  refine cw_seq ?_
  refine cw_seq ?_
  refine cw_region ?_
  refine lstepB rfl rfl rfl (run_move (.tmp rfl)) ?_
  refine lstepB rfl rfl rfl (run_move (.tmp rfl)) ?_
  refine lstepB rfl rfl rfl (run_len (.tmp rfl) sl102) ?_
  refine lstepB rfl rfl rfl (run_lss (.tmp rfl) (.tmp rfl) (by first | exact decide_eq_true (by omega) | exact decide_eq_false (by omega) | exact rfl)) ?_
  refine lnil ?_
  refine xw_then ?_
  refine cw_cond_p (.tmp rfl) (fun hl => ?_) (fun hl => ?_)
  ·
    obtain ⟨n, hn⟩ : ∃ n, l[k]? = some n := ⟨_, List.getElem?_eq_getElem (by omega)⟩
    refine cw_skip ?_
    refine xw_then ?_
    refine cw_seq ?_
    refine cw_block ?_
    refine cw_region ?_
    refine lstepB rfl rfl rfl (run_move (.tmp rfl)) ?_
    refine lstepB rfl rfl rfl (run_move (.tmp rfl)) ?_
    refine lstepB rfl rfl rfl (run_move (.tmp rfl)) ?_
    refine lstepB rfl rfl rfl (run_indexAddr (off' := o + k) (.tmp rfl) (.tmp rfl) el102 (by omega) (by rw [Nat.mul_one])) ?_
    refine lstepB rfl rfl rfl (run_load1_at (.tmp rfl) kd3 (fun w' hS => hS.old_cell (fun h => h) (hc k n hn))) ?_
    refine lstepB rfl rfl rfl ((show RunB _ _ _ _ _ _ (.int .i64 (maxL (l.take (k + 1)))) from maxL_take h1 hn ▸ run_max2 (.tmp rfl) (.tmp rfl))) ?_
    refine lstepB rfl rfl rfl (run_assign (.tmp rfl)) ?_
    refine lnil ?_
    refine xw_in ?_
    refine xw_then ?_
    refine cw_region ?_
    refine lstepB rfl rfl rfl (run_move (.tmp rfl)) ?_
    refine lstepB rfl rfl rfl (run_add (.tmp rfl) .const (by first | exact IntWalk.i64_in _ (by omega) | exact rfl)) ?_
    refine lstepB rfl rfl rfl (run_assign (.tmp rfl)) ?_
    refine lnil ?_
    exact xw_round (k + 1, maxL (l.take (k + 1))) ⟨by show 1 ≤ k + 1; omega, by show k + 1 ≤ _; omega, rfl⟩ (by show l.length - (k + 1) < l.length - k; omega) (by repeat (first | exact Less.nil | refine Less.cons rfl ?_)) (by repeat (first | exact Pick.nil | (apply Pick.cons; focus (repeat (first | exact Del.here | apply Del.there)))))
  ·
    obtain rfl : k = l.length := by omega
    refine cw_exit ?_
    refine xw_then_exit ?_
    refine xw_then_exit ?_
    refine xw_in_exit ?_
    refine xw_then ?_
    refine cw_seq ?_
    refine cw_region ?_
    refine lstepB rfl rfl rfl (run_move (.tmp rfl)) ?_
    refine lstepB rfl rfl rfl (run_assign (.tmp rfl)) ?_
    refine lnil ?_
    refine xw_then ?_
    refine cw_ret ?_
    refine xw_ret1 Try.results116 rfl (fun w hS => ⟨by rw [List.take_length], hS.kept⟩)
set_option maxRecDepth 100000 in
set_option maxHeartbeats 4000000 in
theorem minK (l : List Int) (qa : Option Addr) (qc : Nat) (w : World) (hm : l.length ≤ 1000000) (hne : 0 < l.length) (hq : IntsAt w qa l) : Gives Try.prog 117 [.slice qa l.length qc] w (.int .i64 (minL l)) := by
  refine .mk <| enter (n := 25) Try.func117 rfl rfl rfl (by repeat (first | exact Fill.nil | apply Fill.cons)) ?_
  obtain ⟨b, o, rfl, hb, hc⟩ := hq.int hne
  obtain ⟨n0, hn0⟩ : ∃ n, l[0]? = some n := ⟨_, List.getElem?_eq_getElem hne⟩
  refine cw_seq ?_
  refine cw_region ?_
  refine lstepB rfl rfl rfl (run_assign .const) ?_
  refine lnil ?_
  refine xw_then ?_
  refine cw_seq ?_
  refine cw_seq ?_
  refine cw_region ?_
  refine lstepB rfl rfl rfl (run_move (.tmp rfl)) ?_
  refine lstepB rfl rfl rfl (run_len (.tmp rfl) sl102) ?_
  refine lstepB rfl rfl rfl (run_lss (.tmp rfl) .const (by first | exact decide_eq_true (by omega) | exact decide_eq_false (by omega) | exact rfl)) ?_
  refine lnil ?_
  refine xw_then ?_
  refine cw_cond_false (.tmp rfl) ?_
  refine cw_skip ?_
  refine xw_then ?_
  refine cw_seq ?_
  refine cw_region ?_
  refine lstepB rfl rfl rfl (run_move (.tmp rfl)) ?_
  refine lstepB rfl rfl rfl (run_indexAddr (i := 0) (off' := o) (.tmp rfl) .const el102 (by omega) (by omega)) ?_
  refine lstepB rfl rfl rfl (run_load1_at (.tmp rfl) kd3 (fun w' hS => hS.old_cell (fun h => h) (hc 0 n0 hn0))) ?_
  refine lstepB rfl rfl rfl (run_assign (.tmp rfl)) ?_
  refine lnil ?_
  refine xw_then ?_
  refine cw_seq ?_
  refine cw_seq ?_
  refine cw_region ?_
  refine lstepB rfl rfl rfl (run_assign .const) ?_
  refine lnil ?_
  refine xw_then ?_
  refine cw_block ?_
  refine cw_loop (S := Nat × Int) (fun s => [(3, .int .i64 s.2), (4, .int .i64 (s.1 : Int))]) [(0, _)] (fun s => []) (fun s => 1 ≤ s.1 ∧ s.1 ≤ l.length ∧ s.2 = minL (l.take s.1)) (fun s => l.length - s.1) (1, n0) ⟨Nat.le_refl _, hne, minL_one hn0⟩ (by repeat (first | exact Less.nil | refine Less.cons rfl ?_)) (by repeat (first | exact Pick.nil | (apply Pick.cons; focus (repeat (first | exact Del.here | apply Del.there))))) ?_
  intro s hs
  obtain ⟨k, m⟩ := s
  obtain ⟨h1, h2, h3⟩ := hs
  dsimp only at h1 h2 h3 ⊢
  subst h3
  refine cw_seq ?_
  refine cw_seq ?_
  refine cw_region ?_
  refine lstepB rfl rfl rfl (run_move (.tmp rfl)) ?_
  refine lstepB rfl rfl rfl (run_move (.tmp rfl)) ?_
  refine lstepB rfl rfl rfl (run_len (.tmp rfl) sl102) ?_
  refine lstepB rfl rfl rfl (run_lss (.tmp rfl) (.tmp rfl) (by first | exact decide_eq_true (by omega) | exact decide_eq_false (by omega) | exact rfl)) ?_
  refine lnil ?_
  refine xw_then ?_
  refine cw_cond_p (.tmp rfl) (fun hl => ?_) (fun hl => ?_)
  ·
    obtain ⟨n, hn⟩ : ∃ n, l[k]? = some n := ⟨_, List.getElem?_eq_getElem (by omega)⟩
    refine cw_skip ?_
    refine xw_then ?_
    refine cw_seq ?_
    refine cw_block ?_
    refine cw_region ?_
    refine lstepB rfl rfl rfl (run_move (.tmp rfl)) ?_
    refine lstepB rfl rfl rfl (run_move (.tmp rfl)) ?_
    refine lstepB rfl rfl rfl (run_move (.tmp rfl)) ?_
    refine lstepB rfl rfl rfl (run_indexAddr (off' := o + k) (.tmp rfl) (.tmp rfl) el102 (by omega) (by rw [Nat.mul_one])) ?_
    refine lstepB rfl rfl rfl (run_load1_at (.tmp rfl) kd3 (fun w' hS => hS.old_cell (fun h => h) (hc k n hn))) ?_
    refine lstepB rfl rfl rfl ((show RunB _ _ _ _ _ _ (.int .i64 (minL (l.take (k + 1)))) from minL_take h1 hn ▸ run_min2 (.tmp rfl) (.tmp rfl))) ?_
    refine lstepB rfl rfl rfl (run_assign (.tmp rfl)) ?_
    refine lnil ?_
    refine xw_in ?_
    refine xw_then ?_
    refine cw_region ?_
    refine lstepB rfl rfl rfl (run_move (.tmp rfl)) ?_
    refine lstepB rfl rfl rfl (run_add (.tmp rfl) .const (by first | exact IntWalk.i64_in _ (by omega) | exact rfl)) ?_
    refine lstepB rfl rfl rfl (run_assign (.tmp rfl)) ?_
    refine lnil ?_
    exact xw_round (k + 1, minL (l.take (k + 1))) ⟨by show 1 ≤ k + 1; omega, by show k + 1 ≤ _; omega, rfl⟩ (by show l.length - (k + 1) < l.length - k; omega) (by repeat (first | exact Less.nil | refine Less.cons rfl ?_)) (by repeat (first | exact Pick.nil | (apply Pick.cons; focus (repeat (first | exact Del.here | apply Del.there)))))
  ·
    obtain rfl : k = l.length := by omega
    refine cw_exit ?_
    refine xw_then_exit ?_
    refine xw_then_exit ?_
    refine xw_in_exit ?_
    refine xw_then ?_
    refine cw_seq ?_
    refine cw_region ?_
    refine lstepB rfl rfl rfl (run_move (.tmp rfl)) ?_
    refine lstepB rfl rfl rfl (run_assign (.tmp rfl)) ?_
    refine lnil ?_
    refine xw_then ?_
    refine cw_ret ?_
    refine xw_ret1 Try.results117 rfl (fun w hS => ⟨by rw [List.take_length], hS.kept⟩)
set_option maxRecDepth 100000 in
set_option maxHeartbeats 4000000 in
theorem greatestK (l : List Int) (qa : Option Addr) (qc : Nat) (w : World) (hm : l.length ≤ 1000000) (hne : 0 < l.length) (hq : IntsAt w qa l) : Gives Try.prog 108 [.slice qa l.length qc] w (.int .i64 (maxL l)) := by
  refine .mk <| enter (n := 5) Try.func108 rfl rfl rfl (by repeat (first | exact Fill.nil | apply Fill.cons)) ?_
  refine cw_seq ?_
  refine cw_region ?_
  refine lstepB rfl rfl rfl (run_assign .const) ?_
  refine lnil ?_
  refine xw_then ?_
  refine cw_seq ?_
  refine cw_region ?_
  refine lstepB rfl rfl rfl (run_move (.tmp rfl)) ?_
  refine lstepB rfl rfl rfl (run_call1 cb116 (.cons (.tmp rfl) .nil) (fun w2 hS => maxK l qa qc w2 hm hne (hq.kept hS.kept))) ?_
  refine lstepB rfl rfl rfl (run_assign (.tmp rfl)) ?_
  refine lnil ?_
  refine xw_then ?_
  refine cw_ret ?_
  refine xw_ret1 Try.results108 rfl (fun w hS => ⟨rfl, hS.kept⟩)
set_option maxRecDepth 100000 in
set_option maxHeartbeats 4000000 in
theorem leastK (l : List Int) (qa : Option Addr) (qc : Nat) (w : World) (hm : l.length ≤ 1000000) (hne : 0 < l.length) (hq : IntsAt w qa l) : Gives Try.prog 109 [.slice qa l.length qc] w (.int .i64 (minL l)) := by
  refine .mk <| enter (n := 5) Try.func109 rfl rfl rfl (by repeat (first | exact Fill.nil | apply Fill.cons)) ?_
  refine cw_seq ?_
  refine cw_region ?_
  refine lstepB rfl rfl rfl (run_assign .const) ?_
  refine lnil ?_
  refine xw_then ?_
  refine cw_seq ?_
  refine cw_region ?_
  refine lstepB rfl rfl rfl (run_move (.tmp rfl)) ?_
  refine lstepB rfl rfl rfl (run_call1 cb117 (.cons (.tmp rfl) .nil) (fun w2 hS => minK l qa qc w2 hm hne (hq.kept hS.kept))) ?_
  refine lstepB rfl rfl rfl (run_assign (.tmp rfl)) ?_
  refine lnil ?_
  refine xw_then ?_
  refine cw_ret ?_
  refine xw_ret1 Try.results109 rfl (fun w hS => ⟨rfl, hS.kept⟩)
theorem rowsAt_cells {w : World} {b : Nat} {cs : List Value} {te : TypeId} {fr : Nat × Nat} {m : Nat} {L : List (List Value)} (h : w.heap[b]? = some (.cells cs.toArray te fr)) (hL : ∀ i r, L[i]? = some r → ∀ j v, r[j]? = some v → cs[i * m + j]? = some v) : RowsAt w (some ⟨b, 0, none⟩) m L := fun i r hi =>
  ⟨b, 0, rfl, (Array.getElem?_eq_some_iff.1 h).1, fun j v hj => by
    have := hL i r hi j v hj
    simp [World.cell?, h, this]⟩
theorem ints2 {w : World} {b : Nat} {te : TypeId} {fr : Nat × Nat} {x y : Int} (h : w.heap[b]? = some (.cells [.int .i64 x, .int .i64 y].toArray te fr)) : IntsAt w (some ⟨b, 0, none⟩) [x, y] := rowsAt_cells h fun i r hi j v hj => by
  match i, hi with
  | 0, hi => cases hi; match j, hj with | 0, hj => simpa using hj
  | 1, hi => cases hi; match j, hj with | 0, hj => simpa using hj
theorem ints1 {w : World} {b : Nat} {te : TypeId} {fr : Nat × Nat} {x : Int} (h : w.heap[b]? = some (.cells [.int .i64 x].toArray te fr)) : IntsAt w (some ⟨b, 0, none⟩) [x] := rowsAt_cells h fun i r hi j v hj => by
  match i, hi with
  | 0, hi => cases hi; match j, hj with | 0, hj => simpa using hj
theorem greatest2K {w : World} {b : Nat} {te : TypeId} {fr : Nat × Nat} {x y : Int} (h : w.heap[b]? = some (.cells [.int .i64 x, .int .i64 y].toArray te fr)) : Gives Try.prog 108 [.slice (some ⟨b, 0, none⟩) 2 2] w (.int .i64 (max x y)) := greatestK [x, y] _ 2 w (by simp) (by simp) (ints2 h)
theorem least2K {w : World} {b : Nat} {te : TypeId} {fr : Nat × Nat} {x y : Int} (h : w.heap[b]? = some (.cells [.int .i64 x, .int .i64 y].toArray te fr)) : Gives Try.prog 109 [.slice (some ⟨b, 0, none⟩) 2 2] w (.int .i64 (min x y)) := leastK [x, y] _ 2 w (by simp) (by simp) (ints2 h)
end Go.Proofs.Ytfmbnobkenngaaa
