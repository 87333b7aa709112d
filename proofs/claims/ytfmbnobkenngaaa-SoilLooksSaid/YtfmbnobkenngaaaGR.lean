/- Package soil: Work. -/
import Derived.Test.YtfmbnobkenngaaaGP
import Derived.Test.YtfmbnobkenngaaaET
import Derived.Test.YtfmbnobkenngaaaGF
namespace Go.Proofs.Ytfmbnobkenngaaa
open Go.RowKit En

def sumS (l : List SpanD) : SpanD := ⟨(l.map (·.lo)).sum, (l.map (·.hi)).sum⟩
theorem sumS_take {l : List SpanD} {k : Nat} {s : SpanD} (h : l[k]? = some s) : sumS (l.take (k + 1)) = ⟨(sumS (l.take k)).lo + s.lo, (sumS (l.take k)).hi + s.hi⟩ := by
  simp [sumS, List.take_add_one, h]
def in1000 (s : SpanD) : Prop := 0 ≤ s.lo ∧ s.lo ≤ 1000 ∧ 0 ≤ s.hi ∧ s.hi ≤ 1000
theorem sumS_bound {l : List SpanD} (h : ∀ s ∈ l, in1000 s) (k : Nat) : 0 ≤ (sumS (l.take k)).lo ∧ (sumS (l.take k)).lo ≤ 1000 * (k : Int) ∧ 0 ≤ (sumS (l.take k)).hi ∧ (sumS (l.take k)).hi ≤ 1000 * (k : Int) := by
  induction k with
  | zero => simp [sumS]
  | succ k ih =>
    cases e : l[k]? with
    | none =>
      have : l.take (k + 1) = l.take k := by rw [List.take_of_length_le (by have := List.getElem?_eq_none_iff.1 e; omega), List.take_of_length_le (List.getElem?_eq_none_iff.1 e)]
      rw [this]; omega
    | some s =>
      rw [sumS_take e]
      have := h s (List.mem_of_getElem? e)
      simp only [in1000] at this
      simp only; omega
theorem SpansAt.span {w : World} {a : Option Addr} {l : List SpanD} (h : SpansAt w a l) (hn : 0 < l.length) : ∃ b o, a = some ⟨b, o, none⟩ ∧ b < w.heap.size ∧ ∀ i s, l[i]? = some s → ∀ j v, (spanC s)[j]? = some v → w.cell? ⟨b, o + i * 2 + j, none⟩ = some v := by
  obtain ⟨b, o, e, hlt, hc⟩ := RowsAt.at_ h (by simpa using hn)
  exact ⟨b, o, e, hlt, fun i s hi => hc i _ (by simp [hi])⟩
set_option maxRecDepth 100000 in
set_option maxHeartbeats 4000000 in
theorem sumK (l : List SpanD) (a : Option Addr) (c : Nat) (w : World) (hm : l.length ≤ 1000) (hl : ∀ s ∈ l, in1000 s) (hq : SpansAt w a l) : Gives Try.prog 59 [.slice a l.length c] w (.agg [.int .i64 (sumS l).lo, .int .i64 (sumS l).hi].toArray) := by
  refine .mk <| enter (n := 26) Try.func59 rfl rfl rfl (by repeat (first | exact Fill.nil | apply Fill.cons)) ?_
  refine cw_seq ?_
  refine cw_region ?_
  refine lstep rfl rfl rfl (run_alloc zr28) ?_
  intro b2 _
  refine lnil ?_
  refine xw_then ?_
  refine cw_seq ?_
  refine cw_region ?_
  refine lstep rfl rfl rfl (run_alloc zr28) ?_
  intro b3 _
  refine lnil ?_
  refine xw_then ?_
  refine cw_seq ?_
  refine cw_seq ?_
  refine cw_region ?_
  refine lstepB rfl rfl rfl (run_move (.tmp rfl)) ?_
  refine lstepB rfl rfl rfl (run_len (.tmp rfl) sl58) ?_
  refine lstepB rfl rfl rfl (run_move .const) ?_
  refine lnil ?_
  refine xw_then ?_
  refine cw_block ?_
  refine cw_loop (S := Nat) (fun k => [(8, .int .i64 (k : Int))]) [(2, _), (3, _), (6, _), (7, _)] (fun k => [(b3, Obj.cells [.int .i64 (sumS (l.take k)).lo, .int .i64 (sumS (l.take k)).hi].toArray 28 (0, 0)), (b2, Obj.cells [.int .i64 0, .int .i64 0].toArray 28 (0, 0))]) (fun k => k ≤ l.length) (fun k => l.length - k) 0 (Nat.zero_le _) (by repeat (first | exact Less.nil | refine Less.cons rfl ?_)) (by repeat (first | exact Pick.nil | (apply Pick.cons; focus (repeat (first | exact Del.here | apply Del.there))))) ?_
  intro k hk
  refine cw_seq ?_
  refine cw_region ?_
  refine lstepB rfl rfl rfl (run_lss (.tmp rfl) (.tmp rfl) (by first | exact decide_eq_true (by omega) | exact decide_eq_false (by omega) | exact rfl)) ?_
  refine lnil ?_
  refine xw_then ?_
  refine cw_seq ?_
  refine cw_cond_p (.tmp rfl) (fun hl2 => ?_) (fun hl2 => ?_)
  ·
    obtain ⟨s, hs⟩ : ∃ s, l[k]? = some s := ⟨_, List.getElem?_eq_getElem (by omega)⟩
    obtain ⟨b, o, rfl, hb, hc⟩ := hq.span (by omega)
    have hbd := sumS_bound hl k
    have hs1 := hl s (List.mem_of_getElem? hs)
    simp only [in1000] at hs1
    have hsum := sumS_take hs
    refine cw_skip ?_
    refine xw_then ?_
    refine cw_seq ?_
    refine cw_block ?_
    refine cw_seq ?_
    refine cw_region ?_
    refine lstepB rfl rfl rfl (run_indexAddr (off' := o + k * 2) (.tmp rfl) (.tmp rfl) el58 (by omega) rfl) ?_
    refine lstepB rfl rfl rfl (run_loadN_at (l := [.int .i64 s.lo, .int .i64 s.hi]) (.tmp rfl) kd28 sz28 rfl (fun w' hS j v hj => hS.old_cell (fun h => h) (hc k s hs j v hj))) ?_
    refine lstep rfl rfl rfl (run_alloc zr28) ?_
    intro b5 _
    refine lstep0 rfl rfl (run_storeN (.tmp rfl) (.tmp rfl) rfl sz28 rfl (by repeat (first | exact Upd.here | apply Upd.there)) (by repeat (first | exact Put.done | apply Put.put | apply Put.skip))) ?_
    refine lnil ?_
    refine xw_then ?_
    refine cw_seq ?_
    refine cw_region ?_
    refine lstepB rfl rfl rfl (run_fieldAddr (.tmp rfl) fa28_0 (by first | exact Nat.zero_add _ | exact rfl)) ?_
    refine lstepB rfl rfl rfl (run_load1 (.tmp rfl) kd3 (by repeat (first | exact List.Mem.head _ | apply List.Mem.tail)) (by exact rfl)) ?_
    refine lstepB rfl rfl rfl (run_fieldAddr (.tmp rfl) fa28_0 (by first | exact Nat.zero_add _ | exact rfl)) ?_
    refine lstepB rfl rfl rfl (run_load1 (.tmp rfl) kd3 (by repeat (first | exact List.Mem.head _ | apply List.Mem.tail)) (by exact rfl)) ?_
    refine lstepB rfl rfl rfl (run_add (c := (sumS (l.take (k + 1))).lo) (.tmp rfl) (.tmp rfl) (by rw [hsum]; exact IntWalk.i64_in _ (by omega))) ?_
    refine lstepB rfl rfl rfl (run_fieldAddr (.tmp rfl) fa28_0 (by first | exact Nat.zero_add _ | exact rfl)) ?_
    refine lstep0 rfl rfl (run_store1 (.tmp rfl) (.tmp rfl) rfl sz3 (by repeat (first | exact Upd.here | apply Upd.there)) (by repeat (first | exact Put.done | apply Put.put | apply Put.skip))) ?_
    refine lnil ?_
    refine xw_then ?_
    refine cw_region ?_
    refine lstepB rfl rfl rfl (run_fieldAddr (.tmp rfl) fa28_1 (by first | exact Nat.zero_add _ | exact rfl)) ?_
    refine lstepB rfl rfl rfl (run_load1 (.tmp rfl) kd3 (by repeat (first | exact List.Mem.head _ | apply List.Mem.tail)) (by exact rfl)) ?_
    refine lstepB rfl rfl rfl (run_fieldAddr (.tmp rfl) fa28_1 (by first | exact Nat.zero_add _ | exact rfl)) ?_
    refine lstepB rfl rfl rfl (run_load1 (.tmp rfl) kd3 (by repeat (first | exact List.Mem.head _ | apply List.Mem.tail)) (by exact rfl)) ?_
    refine lstepB rfl rfl rfl (run_add (c := (sumS (l.take (k + 1))).hi) (.tmp rfl) (.tmp rfl) (by rw [hsum]; exact IntWalk.i64_in _ (by omega))) ?_
    refine lstepB rfl rfl rfl (run_fieldAddr (.tmp rfl) fa28_1 (by first | exact Nat.zero_add _ | exact rfl)) ?_
    refine lstep0 rfl rfl (run_store1 (.tmp rfl) (.tmp rfl) rfl sz3 (by repeat (first | exact Upd.here | apply Upd.there)) (by repeat (first | exact Put.done | apply Put.put | apply Put.skip))) ?_
    refine lnil ?_
    refine xw_in ?_
    refine xw_then ?_
    refine cw_region ?_
    refine lstepB rfl rfl rfl (run_add (.tmp rfl) .const (by first | exact IntWalk.i64_in _ (by omega) | exact rfl)) ?_
    refine lstepB rfl rfl rfl (run_move (.tmp rfl)) ?_
    refine lnil ?_
    exact xw_round (k + 1) (by show k + 1 ≤ _; omega) (by show l.length - (k + 1) < l.length - k; omega) (by repeat (first | exact Less.nil | refine Less.cons rfl ?_)) (by repeat (first | exact Pick.nil | (apply Pick.cons; focus (repeat (first | exact Del.here | apply Del.there)))))
  ·
    obtain rfl : k = l.length := by omega
    rw [List.take_length]
    refine cw_exit ?_
    refine xw_then_exit ?_
    refine xw_then_exit ?_
    refine xw_in_exit ?_
    refine xw_then ?_
    refine cw_seq ?_
    refine cw_region ?_
    refine lstepB rfl rfl rfl (run_loadN (.tmp rfl) kd28 sz28 (by repeat (first | exact List.Mem.head _ | apply List.Mem.tail)) (by repeat (first | exact Sub.done | apply Sub.take | apply Sub.skip))) ?_
    refine lstep0 rfl rfl (run_storeN (.tmp rfl) (.tmp rfl) rfl sz28 rfl (by repeat (first | exact Upd.here | apply Upd.there)) (by repeat (first | exact Put.done | apply Put.put | apply Put.skip))) ?_
    refine lnil ?_
    refine xw_then ?_
    refine cw_ret ?_
    refine xw_retC1 rfl rfl kd28 sz28 (by repeat (first | exact List.Mem.head _ | apply List.Mem.tail)) (by repeat (first | exact Sub.done | apply Sub.take | apply Sub.skip)) (fun w hS => ⟨rfl, hS.kept⟩)
end Go.Proofs.Ytfmbnobkenngaaa
namespace Go.Proofs.Ytfmbnobkenngaaa
open Go.RowKit En

theorem foldl_max_le {r : List Int} {a m : Int} (ha : a ≤ m) (h : ∀ x ∈ r, x ≤ m) : a ≤ r.foldl max a ∧ r.foldl max a ≤ m := by
  induction r generalizing a with
  | nil => exact ⟨Int.le_refl _, ha⟩
  | cons x r ih =>
    have hx := h x (by simp)
    obtain ⟨h1, h2⟩ := ih (a := max a x) (by omega) (fun y hy => h y (by simp [hy]))
    rw [List.foldl_cons]; exact ⟨by omega, h2⟩
theorem foldl_min_ge {r : List Int} {a m : Int} (ha : m ≤ a) (h : ∀ x ∈ r, m ≤ x) : r.foldl min a ≤ a ∧ m ≤ r.foldl min a := by
  induction r generalizing a with
  | nil => exact ⟨Int.le_refl _, ha⟩
  | cons x r ih =>
    have hx := h x (by simp)
    obtain ⟨h1, h2⟩ := ih (a := min a x) (by omega) (fun y hy => h y (by simp [hy]))
    rw [List.foldl_cons]; exact ⟨by omega, h2⟩
theorem common_in1000 {g : GroundD} (hg : ValidG g) (n : Int) (hn : 0 ≤ n ∧ n ≤ g.long) : in1000 (commonS (voicesL g) n) := by
  have hb : ∀ p ∈ g.pits, (hardAtS (.pit p g.rise) n).lo ≤ 1000 ∧ 0 ≤ (hardAtS (.pit p g.rise) n).hi := fun p hp => by
    obtain ⟨h1, h2⟩ := hg.pits p hp
    simp only [pitB, withinB, Bool.and_eq_true, decide_eq_true_eq] at h2
    have hr := hg.rise
    have hl := hg.long
    have := mulBd (x := g.rise) (y := max (n - p.at_) (p.at_ - n)) (m := 1000) (k := 40) hr.1 hr.2 (by omega) (by omega)
    simp only [hardAtS, widerS]
    omega
  have h1 := foldl_max_le (r := g.pits.map fun p => (hardAtS (.pit p g.rise) n).lo) (a := 0) (m := 1000) (by omega) (fun x hx => by
    obtain ⟨p, hp, rfl⟩ := List.mem_map.1 hx
    exact (hb p hp).1)
  have h2 := foldl_min_ge (r := g.pits.map fun p => (hardAtS (.pit p g.rise) n).hi) (a := 1000) (m := 0) (by omega) (fun x hx => by
    obtain ⟨p, hp, rfl⟩ := List.mem_map.1 hx
    exact (hb p hp).2)
  have e1 : (commonS (voicesL g) n).lo = (g.pits.map fun p => (hardAtS (.pit p g.rise) n).lo).foldl max 0 := by
    simp [commonS, voicesL, maxL, hardAtS, List.map_map, Function.comp_def]
  have e2 : (commonS (voicesL g) n).hi = (g.pits.map fun p => (hardAtS (.pit p g.rise) n).hi).foldl min 1000 := by
    simp [commonS, voicesL, minL, hardAtS, List.map_map, Function.comp_def]
  simp only [in1000, e1, e2]
  omega
theorem hardL_in1000 {g : GroundD} (hg : ValidG g) : ∀ s ∈ hardL g, in1000 s := fun s hs => by
  obtain ⟨i, hi, rfl⟩ := List.mem_map.1 hs
  rw [List.mem_range] at hi
  exact common_in1000 hg _ (by omega)
def midS (l : List SpanD) (lo hi : Nat) : List SpanD := (l.drop lo).take (hi - lo)
theorem midS_length {l : List SpanD} {lo hi : Nat} (h : lo ≤ hi) (h2 : hi ≤ l.length) : (midS l lo hi).length = hi - lo := by simp [midS]; omega
theorem midS_at {l : List SpanD} {lo hi i : Nat} {s : SpanD} (h : (midS l lo hi)[i]? = some s) : l[lo + i]? = some s := by
  unfold midS at h
  rw [List.getElem?_take] at h
  split at h
  · rwa [List.getElem?_drop] at h
  · cases h
theorem sum_mid {w : World} {b cap c n : Nat} {cur : List Value} {te : TypeId} {fr : Nat × Nat} {L : List SpanD} {lo hi : Nat} (h : w.heap[b]? = some (.cells cur.toArray te fr)) (hr : InRow 2 n cap cur (spansC L)) (hL : ∀ s ∈ L, in1000 s) (hm : L.length ≤ 1000) (h1 : lo ≤ hi) (h2 : hi ≤ L.length) : Gives Try.prog 59 [.slice (some ⟨b, lo * 2, none⟩) (hi - lo) c] w (.agg [.int .i64 (sumS (midS L lo hi)).lo, .int .i64 (sumS (midS L lo hi)).hi].toArray) := by
  have := sumK (midS L lo hi) (some ⟨b, lo * 2, none⟩) c w (by rw [midS_length h1 h2]; omega) (fun s hs => by
    obtain ⟨i, hi, rfl⟩ := List.getElem_of_mem hs
    exact hL _ (List.mem_of_getElem? (midS_at (List.getElem?_eq_getElem hi)))) (fun i r hi => by
    rw [List.getElem?_map] at hi
    obtain ⟨s, hs, rfl⟩ := Option.map_eq_some_iff.1 hi
    refine ⟨b, lo * 2, rfl, (Array.getElem?_eq_some_iff.1 h).1, fun j v hj => ?_⟩
    have := row_span h hr (midS_at hs) j v hj
    rw [show lo * 2 + i * 2 + j = (lo + i) * 2 + j by omega]
    exact this)
  rwa [midS_length h1 h2] at this
def workE (g : GroundD) (x y : Int) : Option Int := match checkE g [x, y] with | some n => some n | none => if y < x then some 2 else if lookOk g then none else some 10
def workS (g : GroundD) (x y : Int) : SpanD := if workE g x y = none then sumS (midS (hardL g) x.toNat (y.toNat + 1)) else ⟨0, 0⟩
theorem workE_cases (g : GroundD) (x y : Int) : (∃ n, checkE g [x, y] = some n ∧ workE g x y = some n) ∨ (checkE g [x, y] = none ∧ y < x ∧ workE g x y = some 2) ∨ (checkE g [x, y] = none ∧ ¬ y < x ∧ lookOk g = false ∧ workE g x y = some 10) ∨ (checkE g [x, y] = none ∧ ¬ y < x ∧ lookOk g = true ∧ workE g x y = none) := by
  unfold workE
  cases hc : checkE g [x, y] with
  | some n => exact .inl ⟨n, rfl, rfl⟩
  | none =>
    by_cases hl : y < x
    · exact .inr (.inl ⟨rfl, hl, by simp [hl]⟩)
    · cases ho : lookOk g with
      | false => exact .inr (.inr (.inl ⟨rfl, hl, rfl, by simp [hl]⟩))
      | true => exact .inr (.inr (.inr ⟨rfl, hl, rfl, by simp [hl]⟩))
set_option maxRecDepth 100000 in
set_option maxHeartbeats 4000000 in
theorem find58_check {n : Int} {g : GroundD} {x y : Int} {pa : Option Addr} {pc b1 b2 b3 : Nat} {w : World} (hm : g.pits.length ≤ 1000000) (hp : PitsAt w pa g.pits) (hG : GroundIn w b1 g pa pc) (hX : w.cell? ⟨b2, 0, none⟩ = some (.int .i64 x)) (hY : w.cell? ⟨b3, 0, none⟩ = some (.int .i64 y)) (hc : checkE g [x, y] = some n) : Pans Try.prog 58 [.pointer (some ⟨b1, 0, none⟩), .pointer (some ⟨b2, 0, none⟩), .pointer (some ⟨b3, 0, none⟩)] w [errP n] := by
  refine enter (n := 21) Try.func58 rfl rfl rfl (by repeat (first | exact Fill.nil | apply Fill.cons)) ?_
  refine cw_seq ?_
  refine cw_region ?_
  refine lstep rfl rfl rfl (run_alloc zr28) ?_
  intro b3 _
  refine lnil ?_
  refine xw_then ?_
  refine cw_seq ?_
  refine cw_region ?_
  refine lstepB rfl rfl rfl (run_loadN_at (l := [.int .i64 g.long, .int .i64 g.rise, .int .i64 g.change, .slice pa g.pits.length pc]) (.tmp rfl) kd24 sz24 rfl (fun w' hS j v hj => hS.old_cell (fun h => h) (hG j v hj))) ?_
  refine lstepB rfl rfl rfl (run_load1_at (.tmp rfl) kd3 (fun w' hS => hS.old_cell (fun h => h) hX)) ?_
  refine lstepB rfl rfl rfl (run_load1_at (.tmp rfl) kd3 (fun w' hS => hS.old_cell (fun h => h) hY)) ?_
  refine lstep rfl rfl rfl (LR.runs (lr_buildSlice_at (.cons (.tmp rfl) (.cons (.tmp rfl) .nil)) (fun w => bs102_2_0_1 w)) (by repeat (first | exact Pick.nil | (apply Pick.cons; focus (repeat (first | exact Del.here | apply Del.there))))) (by repeat (first | exact Dels.nil | (apply Dels.cons; focus (repeat (first | exact Del.here | apply Del.there)))))) ?_
  intro b7 _
  refine lpans rfl cb44 (.cons (.tmp rfl) (.cons (.tmp rfl) .nil)) (fun w2 hS => pans_of (checkK g [x, y] pa _ pc 2 w2 hm (by simp) (hp.kept hS.kept) (ints2 (hS.mem (by repeat (first | exact List.Mem.head _ | apply List.Mem.tail))))) hc) ?_
  refine xw_then_panic ?_
  refine xw_panic (fun w hS => ⟨rfl, hS.kept⟩)
set_option maxRecDepth 100000 in
set_option maxHeartbeats 4000000 in
theorem find58_turned {g : GroundD} {x y : Int} {pa : Option Addr} {pc b1 b2 b3 : Nat} {w : World} (hm : g.pits.length ≤ 1000000) (hp : PitsAt w pa g.pits) (hG : GroundIn w b1 g pa pc) (hX : w.cell? ⟨b2, 0, none⟩ = some (.int .i64 x)) (hY : w.cell? ⟨b3, 0, none⟩ = some (.int .i64 y)) (hc : checkE g [x, y] = none) (hl : y < x) : Pans Try.prog 58 [.pointer (some ⟨b1, 0, none⟩), .pointer (some ⟨b2, 0, none⟩), .pointer (some ⟨b3, 0, none⟩)] w [errP 2] := by
  obtain ⟨hg, hat⟩ := check_valid hc
  have hx := hat x (by simp)
  have hy := hat y (by simp)
  have hlong := hg.long
  refine enter (n := 21) Try.func58 rfl rfl rfl (by repeat (first | exact Fill.nil | apply Fill.cons)) ?_
  refine cw_seq ?_
  refine cw_region ?_
  refine lstep rfl rfl rfl (run_alloc zr28) ?_
  intro b3 _
  refine lnil ?_
  refine xw_then ?_
  refine cw_seq ?_
  refine cw_region ?_
  refine lstepB rfl rfl rfl (run_loadN_at (l := [.int .i64 g.long, .int .i64 g.rise, .int .i64 g.change, .slice pa g.pits.length pc]) (.tmp rfl) kd24 sz24 rfl (fun w' hS j v hj => hS.old_cell (fun h => h) (hG j v hj))) ?_
  refine lstepB rfl rfl rfl (run_load1_at (.tmp rfl) kd3 (fun w' hS => hS.old_cell (fun h => h) hX)) ?_
  refine lstepB rfl rfl rfl (run_load1_at (.tmp rfl) kd3 (fun w' hS => hS.old_cell (fun h => h) hY)) ?_
  refine lstep rfl rfl rfl (LR.runs (lr_buildSlice_at (.cons (.tmp rfl) (.cons (.tmp rfl) .nil)) (fun w => bs102_2_0_1 w)) (by repeat (first | exact Pick.nil | (apply Pick.cons; focus (repeat (first | exact Del.here | apply Del.there))))) (by repeat (first | exact Dels.nil | (apply Dels.cons; focus (repeat (first | exact Del.here | apply Del.there)))))) ?_
  intro b7 _
  refine lstepB rfl rfl rfl (run_call1 cb44 (.cons (.tmp rfl) (.cons (.tmp rfl) .nil)) (fun w2 hS => gives_of (checkK g [x, y] pa _ pc 2 w2 hm (by simp) (hp.kept hS.kept) (ints2 (hS.mem (by repeat (first | exact List.Mem.head _ | apply List.Mem.tail))))) hc)) ?_
  refine lnil ?_
  refine xw_then ?_
  refine cw_seq ?_
  refine cw_seq ?_
  refine cw_region ?_
  refine lstepB rfl rfl rfl (run_load1_at (.tmp rfl) kd3 (fun w' hS => hS.old_cell (fun h => h) hX)) ?_
  refine lstepB rfl rfl rfl (run_load1_at (.tmp rfl) kd3 (fun w' hS => hS.old_cell (fun h => h) hY)) ?_
  refine lstepB rfl rfl rfl (run_gtr (.tmp rfl) (.tmp rfl) (by first | exact decide_eq_true (by omega) | exact decide_eq_false (by omega) | exact rfl)) ?_
  refine lnil ?_
  refine xw_then ?_
  refine cw_cond_true (.tmp rfl) ?_
  refine cw_region ?_
  refine lstepB rfl rfl rfl (En.run_makeInterface .const if29) ?_
  refine lpanic (.tmp rfl) (fun w => rfl) ?_
  refine xw_then_panic ?_
  refine xw_panic (fun w hS => ⟨rfl, hS.kept⟩)
set_option maxRecDepth 100000 in
set_option maxHeartbeats 4000000 in
theorem find58_clash {g : GroundD} {x y : Int} {pa : Option Addr} {pc b1 b2 b3 : Nat} {w : World} (hm : g.pits.length ≤ 1000000) (hp : PitsAt w pa g.pits) (hG : GroundIn w b1 g pa pc) (hX : w.cell? ⟨b2, 0, none⟩ = some (.int .i64 x)) (hY : w.cell? ⟨b3, 0, none⟩ = some (.int .i64 y)) (hc : checkE g [x, y] = none) (hl : ¬ y < x) (ho : lookOk g = false) : Pans Try.prog 58 [.pointer (some ⟨b1, 0, none⟩), .pointer (some ⟨b2, 0, none⟩), .pointer (some ⟨b3, 0, none⟩)] w [errP 10] := by
  obtain ⟨hg, hat⟩ := check_valid hc
  have hx := hat x (by simp)
  have hy := hat y (by simp)
  have hlong := hg.long
  refine enter (n := 21) Try.func58 rfl rfl rfl (by repeat (first | exact Fill.nil | apply Fill.cons)) ?_
  refine cw_seq ?_
  refine cw_region ?_
  refine lstep rfl rfl rfl (run_alloc zr28) ?_
  intro b3 _
  refine lnil ?_
  refine xw_then ?_
  refine cw_seq ?_
  refine cw_region ?_
  refine lstepB rfl rfl rfl (run_loadN_at (l := [.int .i64 g.long, .int .i64 g.rise, .int .i64 g.change, .slice pa g.pits.length pc]) (.tmp rfl) kd24 sz24 rfl (fun w' hS j v hj => hS.old_cell (fun h => h) (hG j v hj))) ?_
  refine lstepB rfl rfl rfl (run_load1_at (.tmp rfl) kd3 (fun w' hS => hS.old_cell (fun h => h) hX)) ?_
  refine lstepB rfl rfl rfl (run_load1_at (.tmp rfl) kd3 (fun w' hS => hS.old_cell (fun h => h) hY)) ?_
  refine lstep rfl rfl rfl (LR.runs (lr_buildSlice_at (.cons (.tmp rfl) (.cons (.tmp rfl) .nil)) (fun w => bs102_2_0_1 w)) (by repeat (first | exact Pick.nil | (apply Pick.cons; focus (repeat (first | exact Del.here | apply Del.there))))) (by repeat (first | exact Dels.nil | (apply Dels.cons; focus (repeat (first | exact Del.here | apply Del.there)))))) ?_
  intro b7 _
  refine lstepB rfl rfl rfl (run_call1 cb44 (.cons (.tmp rfl) (.cons (.tmp rfl) .nil)) (fun w2 hS => gives_of (checkK g [x, y] pa _ pc 2 w2 hm (by simp) (hp.kept hS.kept) (ints2 (hS.mem (by repeat (first | exact List.Mem.head _ | apply List.Mem.tail))))) hc)) ?_
  refine lnil ?_
  refine xw_then ?_
  refine cw_seq ?_
  refine cw_seq ?_
  refine cw_region ?_
  refine lstepB rfl rfl rfl (run_load1_at (.tmp rfl) kd3 (fun w' hS => hS.old_cell (fun h => h) hX)) ?_
  refine lstepB rfl rfl rfl (run_load1_at (.tmp rfl) kd3 (fun w' hS => hS.old_cell (fun h => h) hY)) ?_
  refine lstepB rfl rfl rfl (run_gtr (.tmp rfl) (.tmp rfl) (by first | exact decide_eq_true (by omega) | exact decide_eq_false (by omega) | exact rfl)) ?_
  refine lnil ?_
  refine xw_then ?_
  refine cw_cond_false (.tmp rfl) ?_
  refine cw_skip ?_
  refine xw_then ?_
  refine cw_seq ?_
  have hb : ∀ w2, Below w.heap.size w w2 → Pans Try.prog 45 [.agg [.int .i64 g.long, .int .i64 g.rise, .int .i64 g.change, .slice pa g.pits.length pc].toArray] w2 [errP 10] := fun w2 hB => look_bad hg (hp.kept hB) ho
  refine cw_anyP (j := 1) [⟨0, [], [], [], 0⟩, ⟨0, [], [], [], 1⟩, ⟨0, [], [], [], 3⟩, ⟨0, [], [], [], 0⟩, ⟨0, [], [], [], 0⟩, ⟨0, [], [], [], 16⟩, ⟨0, [], [], [], 63⟩, ⟨0, [], [], [], 127⟩, ⟨0, [], [], [], 255⟩] [(0, 13, .agg [.int .i64 g.long, .int .i64 g.rise, .int .i64 g.change, .slice pa g.pits.length pc].toArray), (3, 16, .int .i64 x), (4, 17, .int .i64 y), (5, 18, .int .i64 (y + 1))] (by kernel_rfl) (by kernel_rfl) (.cons ⟨[], _, rfl, rfl, rfl, rfl, run_loadN_at (l := [.int .i64 g.long, .int .i64 g.rise, .int .i64 g.change, .slice pa g.pits.length pc]) (.tmp rfl) kd24 sz24 rfl (fun w' hS j v hj => hS.old_cell (fun h => h) (hG j v hj))⟩ (.cons ⟨[], _, rfl, rfl, rfl, rfl, run_load1_at (.tmp rfl) kd3 (fun w' hS => hS.old_cell (fun h => h) hX)⟩ (.cons ⟨[], _, rfl, rfl, rfl, rfl, run_load1_at (.tmp rfl) kd3 (fun w' hS => hS.old_cell (fun h => h) hY)⟩ (.cons ⟨[2], _, by kernel_rfl, rfl, rfl, rfl, run_add (.tmp rfl) .const (IntWalk.i64_in _ (by omega))⟩ .nil)))) ?_
  refine panJ [0] rfl (by kernel_rfl) cb45 (.cons (.tmp rfl) .nil) (fun w2 hS => hb w2 hS.kept) ?_
  refine xw_then_panic ?_
  refine xw_panic (fun w hS => ⟨rfl, hS.kept⟩)
set_option maxRecDepth 100000 in
set_option maxHeartbeats 4000000 in
theorem find58_ok {g : GroundD} {x y : Int} {pa : Option Addr} {pc b1 b2 b3 : Nat} {w : World} (hm : g.pits.length ≤ 1000000) (hp : PitsAt w pa g.pits) (hG : GroundIn w b1 g pa pc) (hX : w.cell? ⟨b2, 0, none⟩ = some (.int .i64 x)) (hY : w.cell? ⟨b3, 0, none⟩ = some (.int .i64 y)) (hc : checkE g [x, y] = none) (hl : ¬ y < x) (ho : lookOk g = true) : Gives Try.prog 58 [.pointer (some ⟨b1, 0, none⟩), .pointer (some ⟨b2, 0, none⟩), .pointer (some ⟨b3, 0, none⟩)] w (.agg [.int .i64 (sumS (midS (hardL g) x.toNat (y.toNat + 1))).lo, .int .i64 (sumS (midS (hardL g) x.toNat (y.toNat + 1))).hi].toArray) := by
  obtain ⟨hg, hat⟩ := check_valid hc
  have hx := hat x (by simp)
  have hy := hat y (by simp)
  have hlong := hg.long
  have hlen : (hardL g).length = placesN g := hardL_length g
  have hlt : y.toNat + 1 ≤ placesN g := by unfold placesN; omega
  have hlt2 : placesN g ≤ 41 := by unfold placesN; omega
  have hxy : x.toNat ≤ y.toNat + 1 := by omega
  refine .mk <| enter (n := 21) Try.func58 rfl rfl rfl (by repeat (first | exact Fill.nil | apply Fill.cons)) ?_
  refine cw_seq ?_
  refine cw_region ?_
  refine lstep rfl rfl rfl (run_alloc zr28) ?_
  intro b3 _
  refine lnil ?_
  refine xw_then ?_
  refine cw_seq ?_
  refine cw_region ?_
  refine lstepB rfl rfl rfl (run_loadN_at (l := [.int .i64 g.long, .int .i64 g.rise, .int .i64 g.change, .slice pa g.pits.length pc]) (.tmp rfl) kd24 sz24 rfl (fun w' hS j v hj => hS.old_cell (fun h => h) (hG j v hj))) ?_
  refine lstepB rfl rfl rfl (run_load1_at (.tmp rfl) kd3 (fun w' hS => hS.old_cell (fun h => h) hX)) ?_
  refine lstepB rfl rfl rfl (run_load1_at (.tmp rfl) kd3 (fun w' hS => hS.old_cell (fun h => h) hY)) ?_
  refine lstep rfl rfl rfl (LR.runs (lr_buildSlice_at (.cons (.tmp rfl) (.cons (.tmp rfl) .nil)) (fun w => bs102_2_0_1 w)) (by repeat (first | exact Pick.nil | (apply Pick.cons; focus (repeat (first | exact Del.here | apply Del.there))))) (by repeat (first | exact Dels.nil | (apply Dels.cons; focus (repeat (first | exact Del.here | apply Del.there)))))) ?_
  intro b7 _
  refine lstepB rfl rfl rfl (run_call1 cb44 (.cons (.tmp rfl) (.cons (.tmp rfl) .nil)) (fun w2 hS => gives_of (checkK g [x, y] pa _ pc 2 w2 hm (by simp) (hp.kept hS.kept) (ints2 (hS.mem (by repeat (first | exact List.Mem.head _ | apply List.Mem.tail))))) hc)) ?_
  refine lnil ?_
  refine xw_then ?_
  refine cw_seq ?_
  refine cw_seq ?_
  refine cw_region ?_
  refine lstepB rfl rfl rfl (run_load1_at (.tmp rfl) kd3 (fun w' hS => hS.old_cell (fun h => h) hX)) ?_
  refine lstepB rfl rfl rfl (run_load1_at (.tmp rfl) kd3 (fun w' hS => hS.old_cell (fun h => h) hY)) ?_
  refine lstepB rfl rfl rfl (run_gtr (.tmp rfl) (.tmp rfl) (by first | exact decide_eq_true (by omega) | exact decide_eq_false (by omega) | exact rfl)) ?_
  refine lnil ?_
  refine xw_then ?_
  refine cw_cond_false (.tmp rfl) ?_
  refine cw_skip ?_
  refine xw_then ?_
  refine cw_seq ?_
  refine cw_chain2 (σ := [0, 3, 4, 5, 1, 2, 6, 7, 8]) [⟨0, [], [], [], 0⟩, ⟨1, [], [], [2, 3], 1⟩, ⟨0, [], [], [], 3⟩, ⟨0, [], [], [], 0⟩, ⟨0, [], [], [], 0⟩, ⟨0, [], [], [], 16⟩, ⟨0, [], [], [], 63⟩, ⟨0, [2], [], [], 127⟩, ⟨0, [], [1], [1], 255⟩] [(0, _), (1, _)] (by kernel_rfl) (by kernel_rfl) rfl ?_
  refine .det (B := []) rfl rfl (.inl rfl) .nil .nil rfl (RunB.lr (run_loadN_at (l := [.int .i64 g.long, .int .i64 g.rise, .int .i64 g.change, .slice pa g.pits.length pc]) (.tmp rfl) kd24 sz24 rfl (fun w' hS j v hj => hS.old_cell (fun h => h) (hG j v hj)))) ?_
  refine .det (B := []) rfl rfl (.inl rfl) .nil .nil rfl (RunB.lr (run_load1_at (v := .int .i64 ((x.toNat : Nat) : Int)) (.tmp rfl) kd3 (fun w' hS => by rw [Int.toNat_of_nonneg hx.1]; exact hS.old_cell (fun h => h) hX))) ?_
  refine .det (B := []) rfl rfl (.inl rfl) .nil .nil rfl (RunB.lr (run_load1_at (v := .int .i64 ((y.toNat : Nat) : Int)) (.tmp rfl) kd3 (fun w' hS => by rw [Int.toNat_of_nonneg hy.1]; exact hS.old_cell (fun h => h) hY))) ?_
  refine .det (B := []) rfl rfl (.inl rfl) .nil .nil rfl (RunB.lr (run_add (c := ((y.toNat + 1 : Nat) : Int)) (.tmp rfl) .const (by rw [IntWalk.i64_in _ (by omega)]; omega))) ?_
  refine .ext (B := fun q => [(2, (q.1, _)), (3, (q.2.2.2, _))]) rfl rfl (.inl rfl) .nil .nil (fun _ => rfl) (look_ne g hg) (lr_gives cb45 (.cons (.tmp rfl) .nil) (fun w2 hS => look_ok hg (hp.kept hS.kept) ho)) ?_
  rintro ⟨gH, cH, rH, gM⟩ hH
  have hcap : (hardL g).length ≤ cH := hH.1
  refine .det (B := []) rfl rfl (.inl rfl) .nil .nil rfl (RunB.lr (run_field1 (.tmp rfl) ft78_1 kd58 (by exact rfl))) ?_
  refine .det (B := []) rfl rfl (.inl rfl) .nil .nil rfl (RunB.lr (run_slice2 (c := cH) (lo := x.toNat) (hi := y.toNat + 1) (off' := x.toNat * 2) (.tmp rfl) (.tmp rfl) (.tmp rfl) el58 hxy (by omega) (by omega) (Nat.zero_add _))) ?_
  refine .det (B := []) rfl rfl (.inl rfl) (.cons rfl .nil) .nil rfl (RunB.lr (run_call1 cb59 (.cons (.tmp rfl) .nil) (fun w hS => sum_mid (hS.mem (by repeat (first | exact List.Mem.head _ | apply List.Mem.tail))) hH (hardL_in1000 hg) (by omega) hxy (by omega)))) ?_
  refine .det (B := [(1, (_, _))]) rfl rfl (.inl rfl) .nil (.cons rfl .nil) rfl (lr_storeN (.tmp rfl) (.tmp rfl) rfl sz28 rfl (by repeat (first | exact Put.done | apply Put.put | apply Put.skip))) ?_
  refine chain_nil (ts := [3, 2, 0, 1]) (.cons rfl (.cons rfl (.cons rfl (.cons rfl .nil)))) (by decide) ?_
  refine xw_then ?_
  refine cw_ret ?_
  refine xw_retC1 rfl rfl kd28 sz28 (by repeat (first | exact List.Mem.head _ | apply List.Mem.tail)) (by repeat (first | exact Sub.done | apply Sub.take | apply Sub.skip)) (fun w hS => ⟨rfl, hS.kept⟩)
set_option maxRecDepth 100000 in
set_option maxHeartbeats 4000000 in
theorem workK (g : GroundD) (x y : Int) (pa : Option Addr) (pc : Nat) (w : World) (hm : g.pits.length ≤ 1000000) (hp : PitsAt w pa g.pits) : Gives Try.prog 19 [.agg [.int .i64 g.long, .int .i64 g.rise, .int .i64 g.change, .slice pa g.pits.length pc].toArray, .int .i64 x, .int .i64 y] w (.tuple #[.agg [.int .i64 (workS g x y).lo, .int .i64 (workS g x y).hi].toArray, .int .i64 (errN (workE g x y))]) := by
  refine .mk <| enter (n := 12) Try.func19 rfl rfl rfl (by repeat (first | exact Fill.nil | apply Fill.cons)) ?_
  have hG : ∀ {b : Nat} {w2 : World}, w2.heap[b]? = some (Obj.cells [.int .i64 g.long, .int .i64 g.rise, .int .i64 g.change, .slice pa g.pits.length pc].toArray 24 (0, 0)) → GroundIn w2 b g pa pc := fun h j v hj => by
    rw [Nat.zero_add]
    simp only [World.cell?, h]
    simpa using hj
  have hA : ∀ {b : Nat} {w2 : World} {n : Int}, w2.heap[b]? = some (Obj.cells [.int .i64 n].toArray 3 (0, 0)) → w2.cell? ⟨b, 0, none⟩ = some (.int .i64 n) := fun h => by simp [World.cell?, h]
  rcases workE_cases g x y with ⟨n, hc, he⟩ | ⟨hc, hl, he⟩ | ⟨hc, hl, ho, he⟩ | ⟨hc, hl, ho, he⟩
  ·
    refine cw_seq ?_
    refine cw_region ?_
    refine lstep rfl rfl rfl (run_boxN (.tmp rfl)) ?_
    intro b3 _
    refine lstep rfl rfl rfl (run_box1 (.tmp rfl) rfl) ?_
    intro b4 _
    refine lstep rfl rfl rfl (run_box1 (.tmp rfl) rfl) ?_
    intro b5 _
    refine lstep rfl rfl rfl (run_alloc zr28) ?_
    intro b6 _
    refine lstepB rfl rfl rfl (run_assign .const) ?_
    refine lnil ?_
    refine xw_then ?_
    refine cw_seq ?_
    refine cw_region ?_
    refine lstepB rfl rfl rfl (En.run_makeFunc .nil (.cons (.tmp rfl) (.cons (.tmp rfl) (.cons (.tmp rfl) .nil)))) ?_
    refine lstepB rfl rfl rfl (run_call1 cb42 (.cons (.tmp rfl) .nil) (fun w hS => told42_bad cb58 (fun w2 hB => find58_check hm ((hp.kept hS.kept).kept hB) (hG ((hB.block _ (hS.lt (by repeat (first | exact List.Mem.head _ | apply List.Mem.tail)))).trans (hS.mem (by repeat (first | exact List.Mem.head _ | apply List.Mem.tail))))) (hA ((hB.block _ (hS.lt (by repeat (first | exact List.Mem.head _ | apply List.Mem.tail)))).trans (hS.mem (by repeat (first | exact List.Mem.head _ | apply List.Mem.tail))))) (hA ((hB.block _ (hS.lt (by repeat (first | exact List.Mem.head _ | apply List.Mem.tail)))).trans (hS.mem (by repeat (first | exact List.Mem.head _ | apply List.Mem.tail))))) hc))) ?_
    refine lstepB rfl rfl rfl (run_extract (.tmp rfl) rfl) ?_
    refine lstepB rfl rfl rfl (run_extract (.tmp rfl) rfl) ?_
    refine lstep0 rfl rfl (run_storeN (.tmp rfl) (.tmp rfl) rfl sz28 rfl (by repeat (first | exact Upd.here | apply Upd.there)) (by repeat (first | exact Put.done | apply Put.put | apply Put.skip))) ?_
    refine lstepB rfl rfl rfl (run_assign (.tmp rfl)) ?_
    refine lnil ?_
    refine xw_then ?_
    refine cw_ret ?_
    refine xw_retC2 rfl rfl rfl kd28 sz28 (by repeat (first | exact List.Mem.head _ | apply List.Mem.tail)) (by repeat (first | exact Sub.done | apply Sub.take | apply Sub.skip)) (fun w hS => ⟨?_, hS.kept⟩)
    simp [workS, he, errN]
  ·
    refine cw_seq ?_
    refine cw_region ?_
    refine lstep rfl rfl rfl (run_boxN (.tmp rfl)) ?_
    intro b3 _
    refine lstep rfl rfl rfl (run_box1 (.tmp rfl) rfl) ?_
    intro b4 _
    refine lstep rfl rfl rfl (run_box1 (.tmp rfl) rfl) ?_
    intro b5 _
    refine lstep rfl rfl rfl (run_alloc zr28) ?_
    intro b6 _
    refine lstepB rfl rfl rfl (run_assign .const) ?_
    refine lnil ?_
    refine xw_then ?_
    refine cw_seq ?_
    refine cw_region ?_
    refine lstepB rfl rfl rfl (En.run_makeFunc .nil (.cons (.tmp rfl) (.cons (.tmp rfl) (.cons (.tmp rfl) .nil)))) ?_
    refine lstepB rfl rfl rfl (run_call1 cb42 (.cons (.tmp rfl) .nil) (fun w hS => told42_bad cb58 (fun w2 hB => find58_turned hm ((hp.kept hS.kept).kept hB) (hG ((hB.block _ (hS.lt (by repeat (first | exact List.Mem.head _ | apply List.Mem.tail)))).trans (hS.mem (by repeat (first | exact List.Mem.head _ | apply List.Mem.tail))))) (hA ((hB.block _ (hS.lt (by repeat (first | exact List.Mem.head _ | apply List.Mem.tail)))).trans (hS.mem (by repeat (first | exact List.Mem.head _ | apply List.Mem.tail))))) (hA ((hB.block _ (hS.lt (by repeat (first | exact List.Mem.head _ | apply List.Mem.tail)))).trans (hS.mem (by repeat (first | exact List.Mem.head _ | apply List.Mem.tail))))) hc hl))) ?_
    refine lstepB rfl rfl rfl (run_extract (.tmp rfl) rfl) ?_
    refine lstepB rfl rfl rfl (run_extract (.tmp rfl) rfl) ?_
    refine lstep0 rfl rfl (run_storeN (.tmp rfl) (.tmp rfl) rfl sz28 rfl (by repeat (first | exact Upd.here | apply Upd.there)) (by repeat (first | exact Put.done | apply Put.put | apply Put.skip))) ?_
    refine lstepB rfl rfl rfl (run_assign (.tmp rfl)) ?_
    refine lnil ?_
    refine xw_then ?_
    refine cw_ret ?_
    refine xw_retC2 rfl rfl rfl kd28 sz28 (by repeat (first | exact List.Mem.head _ | apply List.Mem.tail)) (by repeat (first | exact Sub.done | apply Sub.take | apply Sub.skip)) (fun w hS => ⟨?_, hS.kept⟩)
    simp [workS, he, errN]
  ·
    refine cw_seq ?_
    refine cw_region ?_
    refine lstep rfl rfl rfl (run_boxN (.tmp rfl)) ?_
    intro b3 _
    refine lstep rfl rfl rfl (run_box1 (.tmp rfl) rfl) ?_
    intro b4 _
    refine lstep rfl rfl rfl (run_box1 (.tmp rfl) rfl) ?_
    intro b5 _
    refine lstep rfl rfl rfl (run_alloc zr28) ?_
    intro b6 _
    refine lstepB rfl rfl rfl (run_assign .const) ?_
    refine lnil ?_
    refine xw_then ?_
    refine cw_seq ?_
    refine cw_region ?_
    refine lstepB rfl rfl rfl (En.run_makeFunc .nil (.cons (.tmp rfl) (.cons (.tmp rfl) (.cons (.tmp rfl) .nil)))) ?_
    refine lstepB rfl rfl rfl (run_call1 cb42 (.cons (.tmp rfl) .nil) (fun w hS => told42_bad cb58 (fun w2 hB => find58_clash hm ((hp.kept hS.kept).kept hB) (hG ((hB.block _ (hS.lt (by repeat (first | exact List.Mem.head _ | apply List.Mem.tail)))).trans (hS.mem (by repeat (first | exact List.Mem.head _ | apply List.Mem.tail))))) (hA ((hB.block _ (hS.lt (by repeat (first | exact List.Mem.head _ | apply List.Mem.tail)))).trans (hS.mem (by repeat (first | exact List.Mem.head _ | apply List.Mem.tail))))) (hA ((hB.block _ (hS.lt (by repeat (first | exact List.Mem.head _ | apply List.Mem.tail)))).trans (hS.mem (by repeat (first | exact List.Mem.head _ | apply List.Mem.tail))))) hc hl ho))) ?_
    refine lstepB rfl rfl rfl (run_extract (.tmp rfl) rfl) ?_
    refine lstepB rfl rfl rfl (run_extract (.tmp rfl) rfl) ?_
    refine lstep0 rfl rfl (run_storeN (.tmp rfl) (.tmp rfl) rfl sz28 rfl (by repeat (first | exact Upd.here | apply Upd.there)) (by repeat (first | exact Put.done | apply Put.put | apply Put.skip))) ?_
    refine lstepB rfl rfl rfl (run_assign (.tmp rfl)) ?_
    refine lnil ?_
    refine xw_then ?_
    refine cw_ret ?_
    refine xw_retC2 rfl rfl rfl kd28 sz28 (by repeat (first | exact List.Mem.head _ | apply List.Mem.tail)) (by repeat (first | exact Sub.done | apply Sub.take | apply Sub.skip)) (fun w hS => ⟨?_, hS.kept⟩)
    simp [workS, he, errN]
  ·
    refine cw_seq ?_
    refine cw_region ?_
    refine lstep rfl rfl rfl (run_boxN (.tmp rfl)) ?_
    intro b3 _
    refine lstep rfl rfl rfl (run_box1 (.tmp rfl) rfl) ?_
    intro b4 _
    refine lstep rfl rfl rfl (run_box1 (.tmp rfl) rfl) ?_
    intro b5 _
    refine lstep rfl rfl rfl (run_alloc zr28) ?_
    intro b6 _
    refine lstepB rfl rfl rfl (run_assign .const) ?_
    refine lnil ?_
    refine xw_then ?_
    refine cw_seq ?_
    refine cw_region ?_
    refine lstepB rfl rfl rfl (En.run_makeFunc .nil (.cons (.tmp rfl) (.cons (.tmp rfl) (.cons (.tmp rfl) .nil)))) ?_
    refine lstepB rfl rfl rfl (run_call1 cb42 (.cons (.tmp rfl) .nil) (fun w hS => told42_ok cb58 (fun w2 hB => find58_ok hm ((hp.kept hS.kept).kept hB) (hG ((hB.block _ (hS.lt (by repeat (first | exact List.Mem.head _ | apply List.Mem.tail)))).trans (hS.mem (by repeat (first | exact List.Mem.head _ | apply List.Mem.tail))))) (hA ((hB.block _ (hS.lt (by repeat (first | exact List.Mem.head _ | apply List.Mem.tail)))).trans (hS.mem (by repeat (first | exact List.Mem.head _ | apply List.Mem.tail))))) (hA ((hB.block _ (hS.lt (by repeat (first | exact List.Mem.head _ | apply List.Mem.tail)))).trans (hS.mem (by repeat (first | exact List.Mem.head _ | apply List.Mem.tail))))) hc hl ho))) ?_
    refine lstepB rfl rfl rfl (run_extract (.tmp rfl) rfl) ?_
    refine lstepB rfl rfl rfl (run_extract (.tmp rfl) rfl) ?_
    refine lstep0 rfl rfl (run_storeN (.tmp rfl) (.tmp rfl) rfl sz28 rfl (by repeat (first | exact Upd.here | apply Upd.there)) (by repeat (first | exact Put.done | apply Put.put | apply Put.skip))) ?_
    refine lstepB rfl rfl rfl (run_assign (.tmp rfl)) ?_
    refine lnil ?_
    refine xw_then ?_
    refine cw_ret ?_
    refine xw_retC2 rfl rfl rfl kd28 sz28 (by repeat (first | exact List.Mem.head _ | apply List.Mem.tail)) (by repeat (first | exact Sub.done | apply Sub.take | apply Sub.skip)) (fun w hS => ⟨?_, hS.kept⟩)
    simp [workS, he, errN]
end Go.Proofs.Ytfmbnobkenngaaa
