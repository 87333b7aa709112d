/- Soil: arguments as data. -/
import Derived.Test.YtfmbnobkenngaaaGB
import Derived.Test.YtfmbnobkenngaaaGM
import Derived.Lib.SmallJoins
import Derived.Deep.Slices
import Derived.ChangeSlices
import Derived.ProofKit
import Derived.OpenShut
import Derived.Carry
namespace Go.Proofs.Ytfmbnobkenngaaa
open Go.RowKit En

set_option maxRecDepth 100000 in
set_option maxHeartbeats 4000000 in
theorem spanLK (a b : Int) (w : World) : Gives Try.prog 31 [.int .i64 a, .int .i64 b] w (.agg [.int .i64 a, .int .i64 b].toArray) := by
  refine .mk <| enter (n := 8) Try.func31 rfl rfl rfl (by repeat (first | exact Fill.nil | apply Fill.cons)) ?_
  refine cw_seq ?_
  refine cw_region ?_
  refine lstep rfl rfl rfl (run_alloc zr28) ?_
  intro b4 _
  refine lnil ?_
  refine xw_then ?_
  refine cw_seq ?_
  refine cw_region ?_
  refine lstepB rfl rfl rfl (run_move (.tmp rfl)) ?_
  refine lstepB rfl rfl rfl (run_move (.tmp rfl)) ?_
  refine lstepB rfl rfl rfl (run_build_at (.cons (.tmp rfl) (.cons (.tmp rfl) .nil)) (fun w => bd28_0_1 w)) ?_
  refine lstep0 rfl rfl (run_storeN (.tmp rfl) (.tmp rfl) rfl sz28 rfl (by repeat (first | exact Upd.here | apply Upd.there)) (by repeat (first | exact Put.done | apply Put.put | apply Put.skip))) ?_
  refine lnil ?_
  refine xw_then ?_
  refine cw_ret ?_
  refine xw_retC1 rfl rfl kd28 sz28 (by repeat (first | exact List.Mem.head _ | apply List.Mem.tail)) (by repeat (first | exact Sub.done | apply Sub.take | apply Sub.skip)) (fun w hS => ⟨rfl, hS.kept⟩)
set_option maxRecDepth 100000 in
set_option maxHeartbeats 4000000 in
theorem pitLK (a0 a1 a2 a3 a4 a5 a6 a7 a8 : Int) (w : World) : Gives Try.prog 36 [.int .i64 a0, .int .i64 a1, .int .i64 a2, .int .i64 a3, .int .i64 a4, .int .i64 a5, .int .i64 a6, .int .i64 a7, .int .i64 a8] w (.agg [.int .i64 a0, .int .i64 a1, .int .i64 a2, .int .i64 a3, .int .i64 a4, .int .i64 a5, .int .i64 a6, .int .i64 a7, .int .i64 a8].toArray) := by
  refine .mk <| enter (n := 33) Try.func36 rfl rfl rfl (by repeat (first | exact Fill.nil | apply Fill.cons)) ?_
  refine cw_seq ?_
  refine cw_region ?_
  refine lstep rfl rfl rfl (run_alloc zr55) ?_
  intro b18 _
  refine lnil ?_
  refine xw_then ?_
  refine cw_seq ?_
  refine cw_region ?_
  refine lstepB rfl rfl rfl (run_move (.tmp rfl)) ?_
  refine lstepB rfl rfl rfl (run_move (.tmp rfl)) ?_
  refine lstepB rfl rfl rfl (run_move (.tmp rfl)) ?_
  refine lstepB rfl rfl rfl (run_call1 cb31 (.cons (.tmp rfl) (.cons (.tmp rfl) .nil)) (fun w _ => spanLK _ _ w)) ?_
  refine lstepB rfl rfl rfl (run_move (.tmp rfl)) ?_
  refine lstepB rfl rfl rfl (run_move (.tmp rfl)) ?_
  refine lstepB rfl rfl rfl (run_call1 cb31 (.cons (.tmp rfl) (.cons (.tmp rfl) .nil)) (fun w _ => spanLK _ _ w)) ?_
  refine lstepB rfl rfl rfl (run_move (.tmp rfl)) ?_
  refine lstepB rfl rfl rfl (run_move (.tmp rfl)) ?_
  refine lstepB rfl rfl rfl (run_call1 cb31 (.cons (.tmp rfl) (.cons (.tmp rfl) .nil)) (fun w _ => spanLK _ _ w)) ?_
  refine lstepB rfl rfl rfl (run_move (.tmp rfl)) ?_
  refine lstepB rfl rfl rfl (run_move (.tmp rfl)) ?_
  refine lstepB rfl rfl rfl (run_call1 cb31 (.cons (.tmp rfl) (.cons (.tmp rfl) .nil)) (fun w _ => spanLK _ _ w)) ?_
  refine lstepB rfl rfl rfl (run_build_at (.cons (.tmp rfl) (.cons (.tmp rfl) (.cons (.tmp rfl) (.cons (.tmp rfl) (.cons (.tmp rfl) .nil))))) (fun w => bd55_0_1_2_3_4 w)) ?_
  refine lstep0 rfl rfl (run_storeN (.tmp rfl) (.tmp rfl) rfl sz55 rfl (by repeat (first | exact Upd.here | apply Upd.there)) (by repeat (first | exact Put.done | apply Put.put | apply Put.skip))) ?_
  refine lnil ?_
  refine xw_then ?_
  refine cw_ret ?_
  refine xw_retC1 rfl rfl kd55 sz55 (by repeat (first | exact List.Mem.head _ | apply List.Mem.tail)) (by repeat (first | exact Sub.done | apply Sub.take | apply Sub.skip)) (fun w hS => ⟨rfl, hS.kept⟩)
def sampleP1 : PitD := ⟨2, ⟨300, 320⟩, ⟨10, 12⟩, ⟨4, 6⟩, ⟨4, 5⟩⟩
def sampleP2 : PitD := ⟨8, ⟨500, 520⟩, ⟨5, 6⟩, ⟨3, 5⟩, ⟨9, 11⟩⟩
def sampleG : GroundD := ⟨10, 50, 2, [sampleP1, sampleP2]⟩
abbrev pitsC (l : List PitD) : List Value := l.flatMap pitC
theorem pitsC_at : ∀ (l : List PitD) (i : Nat) (p : PitD), l[i]? = some p → ∀ j v, (pitC p)[j]? = some v → (pitsC l)[i * 9 + j]? = some v
  | [], i, p, h, _, _, _ => by cases h
  | a :: r, 0, p, h, j, v, hj => by
    cases h
    have hlt := (List.getElem?_eq_some_iff.1 hj).1
    rw [Nat.zero_mul, Nat.zero_add, pitsC, List.flatMap_cons, List.getElem?_append_left hlt]; exact hj
  | a :: r, i + 1, p, h, j, v, hj => by
    have := pitsC_at r i p (by simpa using h) j v hj
    rw [show (i + 1) * 9 + j = 9 + (i * 9 + j) by omega, pitsC, List.flatMap_cons, List.getElem?_append_right (by simp), show 9 + (i * 9 + j) - (pitC a).length = i * 9 + j by simp]
    exact this
theorem pitsAt_cells {w : World} {b : Nat} {te : TypeId} {fr : Nat × Nat} {l : List PitD} (h : w.heap[b]? = some (.cells (pitsC l).toArray te fr)) : PitsAt w (some ⟨b, 0, none⟩) l := rowsAt_cells h fun i r hi j v hj => by
  rw [List.getElem?_map] at hi
  obtain ⟨p, hp, rfl⟩ := Option.map_eq_some_iff.1 hi
  exact pitsC_at l i p hp j v hj
set_option maxRecDepth 100000 in
set_option maxHeartbeats 4000000 in
theorem sampleK (w : World) : CallsF Try.prog 41 ([] : List Value).toArray w fun e w' => ∃ b : Nat, e = .returned (.agg [.int .i64 10, .int .i64 50, .int .i64 2, .slice (some ⟨b, 0, none⟩) 2 2].toArray) ∧ St w NoT [(b, Obj.cells (pitsC sampleG.pits).toArray 55 (0, 0))] w' := by
  refine enter (n := 5) Try.func41 rfl rfl rfl (by repeat (first | exact Fill.nil | apply Fill.cons)) ?_
  refine cw_seq ?_
  refine cw_region ?_
  refine lstep rfl rfl rfl (run_alloc zr24) ?_
  intro b0 _
  refine lnil ?_
  refine xw_then ?_
  refine cw_seq ?_
  refine cw_region ?_
  refine lstepB rfl rfl rfl (run_call1 cb36 (.cons .const (.cons .const (.cons .const (.cons .const (.cons .const (.cons .const (.cons .const (.cons .const (.cons .const .nil))))))))) (fun w _ => pitLK _ _ _ _ _ _ _ _ _ w)) ?_
  refine lstepB rfl rfl rfl (run_call1 cb36 (.cons .const (.cons .const (.cons .const (.cons .const (.cons .const (.cons .const (.cons .const (.cons .const (.cons .const .nil))))))))) (fun w _ => pitLK _ _ _ _ _ _ _ _ _ w)) ?_
  refine lstep rfl rfl rfl (LR.runs (lr_buildSlice_at (.cons (.tmp rfl) (.cons (.tmp rfl) .nil)) (fun w => bs22_2_0_1 w)) (by repeat (first | exact Pick.nil | (apply Pick.cons; focus (repeat (first | exact Del.here | apply Del.there))))) (by repeat (first | exact Dels.nil | (apply Dels.cons; focus (repeat (first | exact Del.here | apply Del.there)))))) ?_
  intro b3 _
  refine lstepB rfl rfl rfl (run_build_at (.cons .const (.cons .const (.cons .const (.cons (.tmp rfl) .nil)))) (fun w => bd24_0_1_2_3 w)) ?_
  refine lstep0 rfl rfl (run_storeN (.tmp rfl) (.tmp rfl) rfl sz24 rfl (by repeat (first | exact Upd.here | apply Upd.there)) (by repeat (first | exact Put.done | apply Put.put | apply Put.skip))) ?_
  refine lnil ?_
  refine xw_then ?_
  refine cw_ret ?_
  refine xw_retC1 rfl rfl kd24 sz24 (by repeat (first | exact List.Mem.head _ | apply List.Mem.tail)) (by repeat (first | exact Sub.done | apply Sub.take | apply Sub.skip)) (fun w hS => ⟨b3, rfl, hS.pick (by repeat (first | exact Pick.nil | (apply Pick.cons; focus (repeat (first | exact Del.here | apply Del.there)))))⟩)
def inB (n a b : Int) : Bool := decide (a ≤ n) && decide (n ≤ b)
set_option maxRecDepth 100000 in
set_option maxHeartbeats 4000000 in
theorem rinK (n a b : Int) (w : World) : Gives Try.prog 63 [.int .i64 n, .int .i64 a, .int .i64 b] w (.bool (inB n a b)) := by
  by_cases h1 : a ≤ n <;> by_cases h2 : n ≤ b
  all_goals
    refine .mk <| enter (n := 15) Try.func63 rfl rfl rfl (by repeat (first | exact Fill.nil | apply Fill.cons)) ?_
    refine cw_seq ?_
    refine cw_region ?_
    refine lstepB rfl rfl rfl (run_assign .const) ?_
    refine lnil ?_
    refine xw_then ?_
    refine cw_seq ?_
    refine cw_region ?_
    refine lstepB rfl rfl rfl (run_move (.tmp rfl)) ?_
    refine lstepB rfl rfl rfl (run_move (.tmp rfl)) ?_
    refine lstepB rfl rfl rfl (run_leq (.tmp rfl) (.tmp rfl) (by first | exact decide_eq_true (by omega) | exact decide_eq_false (by omega) | exact rfl)) ?_
    refine lstepB rfl rfl rfl (run_move (.tmp rfl)) ?_
    first | (refine lyes rfl rfl rfl rfl ?_; refine gstepB rfl rfl (run_move (.tmp rfl)) ?_) | refine lskip rfl rfl rfl rfl rfl rfl rfl ?_
    first | (refine lyes rfl rfl rfl rfl ?_; refine gstepB rfl rfl (run_move (.tmp rfl)) ?_) | refine lskip rfl rfl rfl rfl rfl rfl rfl ?_
    first | (refine lyes rfl rfl rfl rfl ?_; refine gstepB rfl rfl (run_leq (.tmp rfl) (.tmp rfl) (by first | exact decide_eq_true (by omega) | exact decide_eq_false (by omega) | exact rfl)) ?_) | refine lskip rfl rfl rfl rfl rfl rfl rfl ?_
    refine lstepB rfl rfl rfl (by first | exact run_pick_true (.tmp rfl) (.tmp rfl) | exact run_pick_false (.tmp rfl) .const) ?_
    refine lstepB rfl rfl rfl (run_assign (.tmp rfl)) ?_
    refine lnil ?_
    refine xw_then ?_
    refine cw_ret ?_
    refine xw_ret1 Try.results63 rfl (fun w hS => ⟨by simp [inB, *], hS.kept⟩)
set_option maxRecDepth 100000 in
set_option maxHeartbeats 4000000 in
theorem rspanK (s : SpanD) (a b : Int) (w : World) : Gives Try.prog 76 [.agg [.int .i64 s.lo, .int .i64 s.hi].toArray, .int .i64 a, .int .i64 b] w (.bool (decide (a ≤ s.lo) && decide (s.lo ≤ s.hi) && decide (s.hi ≤ b))) := by
  by_cases h1 : a ≤ s.lo <;> by_cases h2 : s.lo ≤ s.hi <;> by_cases h3 : s.hi ≤ b
  all_goals
    refine .mk <| enter (n := 24) Try.func76 rfl rfl rfl (by repeat (first | exact Fill.nil | apply Fill.cons)) ?_
    refine cw_seq ?_
    refine cw_region ?_
    refine lstep rfl rfl rfl (run_boxN (.tmp rfl)) ?_
    intro b3 _
    refine lstepB rfl rfl rfl (run_assign .const) ?_
    refine lnil ?_
    refine xw_then ?_
    refine cw_seq ?_
    refine cw_region ?_
    refine lstepB rfl rfl rfl (run_move (.tmp rfl)) ?_
    refine lstepB rfl rfl rfl (run_fieldAddr (.tmp rfl) fa28_0 (by first | exact Nat.zero_add _ | exact rfl)) ?_
    refine lstepB rfl rfl rfl (run_load1 (.tmp rfl) kd3 (by repeat (first | exact List.Mem.head _ | apply List.Mem.tail)) (by exact rfl)) ?_
    refine lstepB rfl rfl rfl (run_leq (.tmp rfl) (.tmp rfl) (by first | exact decide_eq_true (by omega) | exact decide_eq_false (by omega) | exact rfl)) ?_
    refine lstepB rfl rfl rfl (run_move (.tmp rfl)) ?_
    first | (refine lyes rfl rfl rfl rfl ?_; refine gstepB rfl rfl (run_fieldAddr (.tmp rfl) fa28_0 (by first | exact Nat.zero_add _ | exact rfl)) ?_) | refine lskip rfl rfl rfl rfl rfl rfl rfl ?_
    first | (refine lyes rfl rfl rfl rfl ?_; refine gstepB rfl rfl (run_load1 (.tmp rfl) kd3 (by repeat (first | exact List.Mem.head _ | apply List.Mem.tail)) (by exact rfl)) ?_) | refine lskip rfl rfl rfl rfl rfl rfl rfl ?_
    first | (refine lyes rfl rfl rfl rfl ?_; refine gstepB rfl rfl (run_fieldAddr (.tmp rfl) fa28_1 (by first | exact Nat.zero_add _ | exact rfl)) ?_) | refine lskip rfl rfl rfl rfl rfl rfl rfl ?_
    first | (refine lyes rfl rfl rfl rfl ?_; refine gstepB rfl rfl (run_load1 (.tmp rfl) kd3 (by repeat (first | exact List.Mem.head _ | apply List.Mem.tail)) (by exact rfl)) ?_) | refine lskip rfl rfl rfl rfl rfl rfl rfl ?_
    first | (refine lyes rfl rfl rfl rfl ?_; refine gstepB rfl rfl (run_leq (.tmp rfl) (.tmp rfl) (by first | exact decide_eq_true (by omega) | exact decide_eq_false (by omega) | exact rfl)) ?_) | refine lskip rfl rfl rfl rfl rfl rfl rfl ?_
    refine lstepB rfl rfl rfl (by first | exact run_pick_true (.tmp rfl) (.tmp rfl) | exact run_pick_false (.tmp rfl) .const) ?_
    refine lstepB rfl rfl rfl (run_move (.tmp rfl)) ?_
    first | (refine lyes rfl rfl rfl rfl ?_; refine gstepB rfl rfl (run_fieldAddr (.tmp rfl) fa28_1 (by first | exact Nat.zero_add _ | exact rfl)) ?_) | refine lskip rfl rfl rfl rfl rfl rfl rfl ?_
    first | (refine lyes rfl rfl rfl rfl ?_; refine gstepB rfl rfl (run_load1 (.tmp rfl) kd3 (by repeat (first | exact List.Mem.head _ | apply List.Mem.tail)) (by exact rfl)) ?_) | refine lskip rfl rfl rfl rfl rfl rfl rfl ?_
    first | (refine lyes rfl rfl rfl rfl ?_; refine gstepB rfl rfl (run_move (.tmp rfl)) ?_) | refine lskip rfl rfl rfl rfl rfl rfl rfl ?_
    first | (refine lyes rfl rfl rfl rfl ?_; refine gstepB rfl rfl (run_leq (.tmp rfl) (.tmp rfl) (by first | exact decide_eq_true (by omega) | exact decide_eq_false (by omega) | exact rfl)) ?_) | refine lskip rfl rfl rfl rfl rfl rfl rfl ?_
    refine lstepB rfl rfl rfl (by first | exact run_pick_true (.tmp rfl) (.tmp rfl) | exact run_pick_false (.tmp rfl) .const) ?_
    refine lstepB rfl rfl rfl (run_assign (.tmp rfl)) ?_
    refine lnil ?_
    refine xw_then ?_
    refine cw_ret ?_
    refine xw_ret1 Try.results76 rfl (fun w hS => ⟨by simp [*], hS.kept⟩)
end Go.Proofs.Ytfmbnobkenngaaa
namespace Go.Proofs.Ytfmbnobkenngaaa
open Go.RowKit En

/-- What the check asks of pit j. -/
def fineAt (g : GroundD) (j : Nat) : Prop := ∀ p, g.pits[j]? = some p → (0 ≤ p.at_ ∧ p.at_ ≤ g.long) ∧ (∀ q, 0 < j → g.pits[j - 1]? = some q → q.at_ < p.at_) ∧ pitB p = true
theorem pitsB_of {long : Int} : ∀ (l : List PitD) (bef : Int), (∀ j p, l[j]? = some p → (p.at_ ≤ long ∧ pitB p = true) ∧ (j = 0 → bef < p.at_) ∧ ∀ q, 0 < j → l[j - 1]? = some q → q.at_ < p.at_) → pitsB long bef l = true
  | [], _, _ => rfl
  | a :: r, bef, h => by
    obtain ⟨⟨h1, h2⟩, h3, _⟩ := h 0 a rfl
    have h3 := h3 rfl
    simp only [pitsB, Bool.and_eq_true, Bool.not_eq_true', decide_eq_false_iff_not]
    refine ⟨⟨⟨by omega, by omega⟩, h2⟩, pitsB_of r _ fun j p hj => ?_⟩
    obtain ⟨q1, q2, q3⟩ := h (j + 1) p (by simpa using hj)
    refine ⟨q1, fun e => ?_, fun q hq hq2 => q3 q (by omega) ?_⟩
    · subst e; exact q3 a (by omega) rfl
    · obtain ⟨i, rfl⟩ : ∃ i, j = i + 1 := ⟨j - 1, by omega⟩
      simpa using hq2
theorem pitsB_no {long : Int} : ∀ (l : List PitD) (bef : Int) (j : Nat) (p : PitD), -1 ≤ bef → pitsB long bef l = true → l[j]? = some p → ((0 ≤ p.at_ ∧ p.at_ ≤ long) ∧ pitB p = true) ∧ ∀ q, 0 < j → l[j - 1]? = some q → q.at_ < p.at_
  | [], _, _, _, _, _, h => by cases h
  | a :: r, bef, 0, p, hb, h, hp => by
    cases hp
    simp only [pitsB, Bool.and_eq_true, Bool.not_eq_true', decide_eq_false_iff_not] at h
    exact ⟨⟨⟨by omega, by omega⟩, h.1.2⟩, fun q h0 => absurd h0 (by omega)⟩
  | a :: r, bef, j + 1, p, hb, h, hp => by
    simp only [pitsB, Bool.and_eq_true, Bool.not_eq_true', decide_eq_false_iff_not] at h
    obtain ⟨⟨⟨h1, h2⟩, h3⟩, h4⟩ := h
    have ih := pitsB_no r a.at_ j p (by omega) h4 (by simpa using hp)
    refine ⟨ih.1, fun q _ hq => ?_⟩
    cases j with
    | zero =>
      simp at hq hp
      subst hq
      cases r with
      | nil => simp at hp
      | cons c r' =>
        simp at hp; subst hp
        simp only [pitsB, Bool.and_eq_true, Bool.not_eq_true', decide_eq_false_iff_not] at h4
        omega
    | succ i => exact ih.2 q (by omega) (by simpa using hq)
theorem valid_fine {g : GroundD} (h1 : upToB g.long 40 = true) (h2 : upToB g.rise 1000 = true) (h3 : upToB g.change 20 = true) (h8 : ¬ 8 < (g.pits.length : Int)) (h : ∀ j, j < g.pits.length → fineAt g j) : validB g = true := by
  have : pitsB g.long (-1) g.pits = true := pitsB_of _ _ fun j p hj => by
    obtain ⟨a, b, c⟩ := h j (List.getElem?_eq_some_iff.1 hj).1 p hj
    exact ⟨⟨a.2, c⟩, fun _ => by omega, b⟩
  simp [validB, h1, h2, h3, this]; omega
theorem valid_not {g : GroundD} {j : Nat} {p : PitD} (hp : g.pits[j]? = some p) (h : ¬ (((0 ≤ p.at_ ∧ p.at_ ≤ g.long) ∧ pitB p = true) ∧ ∀ q, 0 < j → g.pits[j - 1]? = some q → q.at_ < p.at_)) : validB g = false := by
  rw [Bool.eq_false_iff]
  intro hv
  simp only [validB, Bool.and_eq_true] at hv
  exact h (pitsB_no _ _ _ _ (by omega) hv.2 hp)
set_option maxRecDepth 100000 in
set_option maxHeartbeats 4000000 in
theorem rGroundK (g : GroundD) (pa : Option Addr) (pc : Nat) (w : World) (hm : g.pits.length ≤ 1000000) (hp : PitsAt w pa g.pits) : Gives Try.prog 32 [.agg [.int .i64 g.long, .int .i64 g.rise, .int .i64 g.change, .slice pa g.pits.length pc].toArray] w (.bool (validB g)) := by
  refine .mk <| enter (n := 83) Try.func32 rfl rfl rfl (by repeat (first | exact Fill.nil | apply Fill.cons)) ?_
  cases h1 : upToB g.long 40
  ·
    cases h2 : upToB g.rise 1000 <;> cases h3 : upToB g.change 20
    all_goals
      refine cw_seq ?_
      refine cw_region ?_
      refine lstep rfl rfl rfl (run_boxN (.tmp rfl)) ?_
      intro b1 _
      refine lstepB rfl rfl rfl (run_assign .const) ?_
      refine lnil ?_
      refine xw_then ?_
      refine cw_seq ?_
      refine cw_seq ?_
      refine cw_region ?_
      refine lstepB rfl rfl rfl (run_fieldAddr (.tmp rfl) fa24_0 (by first | exact Nat.zero_add _ | exact rfl)) ?_
      refine lstepB rfl rfl rfl (run_load1 (.tmp rfl) kd3 (by repeat (first | exact List.Mem.head _ | apply List.Mem.tail)) (by exact rfl)) ?_
      refine lstepB rfl rfl rfl (run_call1 cb63 (.cons (.tmp rfl) (.cons .const (.cons .const .nil))) (fun w _ => (rinK _ _ _ w).as (congrArg Value.bool h1))) ?_
      refine lstepB rfl rfl rfl (run_not (.tmp rfl) (by first | exact Bool.not_true | exact Bool.not_false | exact rfl)) ?_
      refine lstepB rfl rfl rfl (run_move (.tmp rfl)) ?_
      first | (refine lyes rfl rfl rfl rfl ?_; refine gstepB rfl rfl (run_fieldAddr (.tmp rfl) fa24_1 (by first | exact Nat.zero_add _ | exact rfl)) ?_) | refine lskip rfl rfl rfl rfl rfl rfl rfl ?_
      first | (refine lyes rfl rfl rfl rfl ?_; refine gstepB rfl rfl (run_load1 (.tmp rfl) kd3 (by repeat (first | exact List.Mem.head _ | apply List.Mem.tail)) (by exact rfl)) ?_) | refine lskip rfl rfl rfl rfl rfl rfl rfl ?_
      first | (refine lyes rfl rfl rfl rfl ?_; refine gstepB rfl rfl (run_call1 cb63 (.cons (.tmp rfl) (.cons .const (.cons .const .nil))) (fun w _ => (rinK _ _ _ w).as (congrArg Value.bool h2))) ?_) | refine lskip rfl rfl rfl rfl rfl rfl rfl ?_
      first | (refine lyes rfl rfl rfl rfl ?_; refine gstepB rfl rfl (run_not (.tmp rfl) (by first | exact Bool.not_true | exact Bool.not_false | exact rfl)) ?_) | refine lskip rfl rfl rfl rfl rfl rfl rfl ?_
      refine lstepB rfl rfl rfl (by first | exact run_pick_true (.tmp rfl) .const | exact run_pick_false (.tmp rfl) (.tmp rfl)) ?_
      refine lstepB rfl rfl rfl (run_move (.tmp rfl)) ?_
      first | (refine lyes rfl rfl rfl rfl ?_; refine gstepB rfl rfl (run_fieldAddr (.tmp rfl) fa24_2 (by first | exact Nat.zero_add _ | exact rfl)) ?_) | refine lskip rfl rfl rfl rfl rfl rfl rfl ?_
      first | (refine lyes rfl rfl rfl rfl ?_; refine gstepB rfl rfl (run_load1 (.tmp rfl) kd3 (by repeat (first | exact List.Mem.head _ | apply List.Mem.tail)) (by exact rfl)) ?_) | refine lskip rfl rfl rfl rfl rfl rfl rfl ?_
      first | (refine lyes rfl rfl rfl rfl ?_; refine gstepB rfl rfl (run_call1 cb63 (.cons (.tmp rfl) (.cons .const (.cons .const .nil))) (fun w _ => (rinK _ _ _ w).as (congrArg Value.bool h3))) ?_) | refine lskip rfl rfl rfl rfl rfl rfl rfl ?_
      first | (refine lyes rfl rfl rfl rfl ?_; refine gstepB rfl rfl (run_not (.tmp rfl) (by first | exact Bool.not_true | exact Bool.not_false | exact rfl)) ?_) | refine lskip rfl rfl rfl rfl rfl rfl rfl ?_
      refine lstepB rfl rfl rfl (by first | exact run_pick_true (.tmp rfl) .const | exact run_pick_false (.tmp rfl) (.tmp rfl)) ?_
      refine lstepB rfl rfl rfl (run_move (.tmp rfl)) ?_
      refine lskip rfl rfl rfl rfl rfl rfl rfl ?_
      refine lskip rfl rfl rfl rfl rfl rfl rfl ?_
      refine lskip rfl rfl rfl rfl rfl rfl rfl ?_
      refine lskip rfl rfl rfl rfl rfl rfl rfl ?_
      refine lstepB rfl rfl rfl (by first | exact run_pick_true (.tmp rfl) .const | exact run_pick_false (.tmp rfl) (.tmp rfl)) ?_
      refine lnil ?_
      refine xw_then ?_
      refine cw_cond_true (.tmp rfl) ?_
      refine cw_seq ?_
      refine cw_region ?_
      refine lstepB rfl rfl rfl (run_assign .const) ?_
      refine lnil ?_
      refine xw_then ?_
      refine cw_ret ?_
      refine xw_then_ret ?_
      refine xw_ret1 Try.results32 rfl (fun w hS => ⟨by rw [show validB g = false from by simp [validB, h1]], hS.kept⟩)
  ·
    cases h2 : upToB g.rise 1000
    ·
      cases h3 : upToB g.change 20
      all_goals
        refine cw_seq ?_
        refine cw_region ?_
        refine lstep rfl rfl rfl (run_boxN (.tmp rfl)) ?_
        intro b1 _
        refine lstepB rfl rfl rfl (run_assign .const) ?_
        refine lnil ?_
        refine xw_then ?_
        refine cw_seq ?_
        refine cw_seq ?_
        refine cw_region ?_
        refine lstepB rfl rfl rfl (run_fieldAddr (.tmp rfl) fa24_0 (by first | exact Nat.zero_add _ | exact rfl)) ?_
        refine lstepB rfl rfl rfl (run_load1 (.tmp rfl) kd3 (by repeat (first | exact List.Mem.head _ | apply List.Mem.tail)) (by exact rfl)) ?_
        refine lstepB rfl rfl rfl (run_call1 cb63 (.cons (.tmp rfl) (.cons .const (.cons .const .nil))) (fun w _ => (rinK _ _ _ w).as (congrArg Value.bool h1))) ?_
        refine lstepB rfl rfl rfl (run_not (.tmp rfl) (by first | exact Bool.not_true | exact Bool.not_false | exact rfl)) ?_
        refine lstepB rfl rfl rfl (run_move (.tmp rfl)) ?_
        first | (refine lyes rfl rfl rfl rfl ?_; refine gstepB rfl rfl (run_fieldAddr (.tmp rfl) fa24_1 (by first | exact Nat.zero_add _ | exact rfl)) ?_) | refine lskip rfl rfl rfl rfl rfl rfl rfl ?_
        first | (refine lyes rfl rfl rfl rfl ?_; refine gstepB rfl rfl (run_load1 (.tmp rfl) kd3 (by repeat (first | exact List.Mem.head _ | apply List.Mem.tail)) (by exact rfl)) ?_) | refine lskip rfl rfl rfl rfl rfl rfl rfl ?_
        first | (refine lyes rfl rfl rfl rfl ?_; refine gstepB rfl rfl (run_call1 cb63 (.cons (.tmp rfl) (.cons .const (.cons .const .nil))) (fun w _ => (rinK _ _ _ w).as (congrArg Value.bool h2))) ?_) | refine lskip rfl rfl rfl rfl rfl rfl rfl ?_
        first | (refine lyes rfl rfl rfl rfl ?_; refine gstepB rfl rfl (run_not (.tmp rfl) (by first | exact Bool.not_true | exact Bool.not_false | exact rfl)) ?_) | refine lskip rfl rfl rfl rfl rfl rfl rfl ?_
        refine lstepB rfl rfl rfl (by first | exact run_pick_true (.tmp rfl) .const | exact run_pick_false (.tmp rfl) (.tmp rfl)) ?_
        refine lstepB rfl rfl rfl (run_move (.tmp rfl)) ?_
        first | (refine lyes rfl rfl rfl rfl ?_; refine gstepB rfl rfl (run_fieldAddr (.tmp rfl) fa24_2 (by first | exact Nat.zero_add _ | exact rfl)) ?_) | refine lskip rfl rfl rfl rfl rfl rfl rfl ?_
        first | (refine lyes rfl rfl rfl rfl ?_; refine gstepB rfl rfl (run_load1 (.tmp rfl) kd3 (by repeat (first | exact List.Mem.head _ | apply List.Mem.tail)) (by exact rfl)) ?_) | refine lskip rfl rfl rfl rfl rfl rfl rfl ?_
        first | (refine lyes rfl rfl rfl rfl ?_; refine gstepB rfl rfl (run_call1 cb63 (.cons (.tmp rfl) (.cons .const (.cons .const .nil))) (fun w _ => (rinK _ _ _ w).as (congrArg Value.bool h3))) ?_) | refine lskip rfl rfl rfl rfl rfl rfl rfl ?_
        first | (refine lyes rfl rfl rfl rfl ?_; refine gstepB rfl rfl (run_not (.tmp rfl) (by first | exact Bool.not_true | exact Bool.not_false | exact rfl)) ?_) | refine lskip rfl rfl rfl rfl rfl rfl rfl ?_
        refine lstepB rfl rfl rfl (by first | exact run_pick_true (.tmp rfl) .const | exact run_pick_false (.tmp rfl) (.tmp rfl)) ?_
        refine lstepB rfl rfl rfl (run_move (.tmp rfl)) ?_
        refine lskip rfl rfl rfl rfl rfl rfl rfl ?_
        refine lskip rfl rfl rfl rfl rfl rfl rfl ?_
        refine lskip rfl rfl rfl rfl rfl rfl rfl ?_
        refine lskip rfl rfl rfl rfl rfl rfl rfl ?_
        refine lstepB rfl rfl rfl (by first | exact run_pick_true (.tmp rfl) .const | exact run_pick_false (.tmp rfl) (.tmp rfl)) ?_
        refine lnil ?_
        refine xw_then ?_
        refine cw_cond_true (.tmp rfl) ?_
        refine cw_seq ?_
        refine cw_region ?_
        refine lstepB rfl rfl rfl (run_assign .const) ?_
        refine lnil ?_
        refine xw_then ?_
        refine cw_ret ?_
        refine xw_then_ret ?_
        refine xw_ret1 Try.results32 rfl (fun w hS => ⟨by rw [show validB g = false from by simp [validB, h2]], hS.kept⟩)
    ·
      cases h3 : upToB g.change 20
      ·
        refine cw_seq ?_
        refine cw_region ?_
        refine lstep rfl rfl rfl (run_boxN (.tmp rfl)) ?_
        intro b1 _
        refine lstepB rfl rfl rfl (run_assign .const) ?_
        refine lnil ?_
        refine xw_then ?_
        refine cw_seq ?_
        refine cw_seq ?_
        refine cw_region ?_
        refine lstepB rfl rfl rfl (run_fieldAddr (.tmp rfl) fa24_0 (by first | exact Nat.zero_add _ | exact rfl)) ?_
        refine lstepB rfl rfl rfl (run_load1 (.tmp rfl) kd3 (by repeat (first | exact List.Mem.head _ | apply List.Mem.tail)) (by exact rfl)) ?_
        refine lstepB rfl rfl rfl (run_call1 cb63 (.cons (.tmp rfl) (.cons .const (.cons .const .nil))) (fun w _ => (rinK _ _ _ w).as (congrArg Value.bool h1))) ?_
        refine lstepB rfl rfl rfl (run_not (.tmp rfl) (by first | exact Bool.not_true | exact Bool.not_false | exact rfl)) ?_
        refine lstepB rfl rfl rfl (run_move (.tmp rfl)) ?_
        first | (refine lyes rfl rfl rfl rfl ?_; refine gstepB rfl rfl (run_fieldAddr (.tmp rfl) fa24_1 (by first | exact Nat.zero_add _ | exact rfl)) ?_) | refine lskip rfl rfl rfl rfl rfl rfl rfl ?_
        first | (refine lyes rfl rfl rfl rfl ?_; refine gstepB rfl rfl (run_load1 (.tmp rfl) kd3 (by repeat (first | exact List.Mem.head _ | apply List.Mem.tail)) (by exact rfl)) ?_) | refine lskip rfl rfl rfl rfl rfl rfl rfl ?_
        first | (refine lyes rfl rfl rfl rfl ?_; refine gstepB rfl rfl (run_call1 cb63 (.cons (.tmp rfl) (.cons .const (.cons .const .nil))) (fun w _ => (rinK _ _ _ w).as (congrArg Value.bool h2))) ?_) | refine lskip rfl rfl rfl rfl rfl rfl rfl ?_
        first | (refine lyes rfl rfl rfl rfl ?_; refine gstepB rfl rfl (run_not (.tmp rfl) (by first | exact Bool.not_true | exact Bool.not_false | exact rfl)) ?_) | refine lskip rfl rfl rfl rfl rfl rfl rfl ?_
        refine lstepB rfl rfl rfl (by first | exact run_pick_true (.tmp rfl) .const | exact run_pick_false (.tmp rfl) (.tmp rfl)) ?_
        refine lstepB rfl rfl rfl (run_move (.tmp rfl)) ?_
        first | (refine lyes rfl rfl rfl rfl ?_; refine gstepB rfl rfl (run_fieldAddr (.tmp rfl) fa24_2 (by first | exact Nat.zero_add _ | exact rfl)) ?_) | refine lskip rfl rfl rfl rfl rfl rfl rfl ?_
        first | (refine lyes rfl rfl rfl rfl ?_; refine gstepB rfl rfl (run_load1 (.tmp rfl) kd3 (by repeat (first | exact List.Mem.head _ | apply List.Mem.tail)) (by exact rfl)) ?_) | refine lskip rfl rfl rfl rfl rfl rfl rfl ?_
        first | (refine lyes rfl rfl rfl rfl ?_; refine gstepB rfl rfl (run_call1 cb63 (.cons (.tmp rfl) (.cons .const (.cons .const .nil))) (fun w _ => (rinK _ _ _ w).as (congrArg Value.bool h3))) ?_) | refine lskip rfl rfl rfl rfl rfl rfl rfl ?_
        first | (refine lyes rfl rfl rfl rfl ?_; refine gstepB rfl rfl (run_not (.tmp rfl) (by first | exact Bool.not_true | exact Bool.not_false | exact rfl)) ?_) | refine lskip rfl rfl rfl rfl rfl rfl rfl ?_
        refine lstepB rfl rfl rfl (by first | exact run_pick_true (.tmp rfl) .const | exact run_pick_false (.tmp rfl) (.tmp rfl)) ?_
        refine lstepB rfl rfl rfl (run_move (.tmp rfl)) ?_
        refine lskip rfl rfl rfl rfl rfl rfl rfl ?_
        refine lskip rfl rfl rfl rfl rfl rfl rfl ?_
        refine lskip rfl rfl rfl rfl rfl rfl rfl ?_
        refine lskip rfl rfl rfl rfl rfl rfl rfl ?_
        refine lstepB rfl rfl rfl (by first | exact run_pick_true (.tmp rfl) .const | exact run_pick_false (.tmp rfl) (.tmp rfl)) ?_
        refine lnil ?_
        refine xw_then ?_
        refine cw_cond_true (.tmp rfl) ?_
        refine cw_seq ?_
        refine cw_region ?_
        refine lstepB rfl rfl rfl (run_assign .const) ?_
        refine lnil ?_
        refine xw_then ?_
        refine cw_ret ?_
        refine xw_then_ret ?_
        refine xw_ret1 Try.results32 rfl (fun w hS => ⟨by rw [show validB g = false from by simp [validB, h3]], hS.kept⟩)
      ·
        by_cases hb8 : 8 < (g.pits.length : Int)
        ·
          refine cw_seq ?_
          refine cw_region ?_
          refine lstep rfl rfl rfl (run_boxN (.tmp rfl)) ?_
          intro b1 _
          refine lstepB rfl rfl rfl (run_assign .const) ?_
          refine lnil ?_
          refine xw_then ?_
          refine cw_seq ?_
          refine cw_seq ?_
          refine cw_region ?_
          refine lstepB rfl rfl rfl (run_fieldAddr (.tmp rfl) fa24_0 (by first | exact Nat.zero_add _ | exact rfl)) ?_
          refine lstepB rfl rfl rfl (run_load1 (.tmp rfl) kd3 (by repeat (first | exact List.Mem.head _ | apply List.Mem.tail)) (by exact rfl)) ?_
          refine lstepB rfl rfl rfl (run_call1 cb63 (.cons (.tmp rfl) (.cons .const (.cons .const .nil))) (fun w _ => (rinK _ _ _ w).as (congrArg Value.bool h1))) ?_
          refine lstepB rfl rfl rfl (run_not (.tmp rfl) (by first | exact Bool.not_true | exact Bool.not_false | exact rfl)) ?_
          refine lstepB rfl rfl rfl (run_move (.tmp rfl)) ?_
          first | (refine lyes rfl rfl rfl rfl ?_; refine gstepB rfl rfl (run_fieldAddr (.tmp rfl) fa24_1 (by first | exact Nat.zero_add _ | exact rfl)) ?_) | refine lskip rfl rfl rfl rfl rfl rfl rfl ?_
          first | (refine lyes rfl rfl rfl rfl ?_; refine gstepB rfl rfl (run_load1 (.tmp rfl) kd3 (by repeat (first | exact List.Mem.head _ | apply List.Mem.tail)) (by exact rfl)) ?_) | refine lskip rfl rfl rfl rfl rfl rfl rfl ?_
          first | (refine lyes rfl rfl rfl rfl ?_; refine gstepB rfl rfl (run_call1 cb63 (.cons (.tmp rfl) (.cons .const (.cons .const .nil))) (fun w _ => (rinK _ _ _ w).as (congrArg Value.bool h2))) ?_) | refine lskip rfl rfl rfl rfl rfl rfl rfl ?_
          first | (refine lyes rfl rfl rfl rfl ?_; refine gstepB rfl rfl (run_not (.tmp rfl) (by first | exact Bool.not_true | exact Bool.not_false | exact rfl)) ?_) | refine lskip rfl rfl rfl rfl rfl rfl rfl ?_
          refine lstepB rfl rfl rfl (by first | exact run_pick_true (.tmp rfl) .const | exact run_pick_false (.tmp rfl) (.tmp rfl)) ?_
          refine lstepB rfl rfl rfl (run_move (.tmp rfl)) ?_
          first | (refine lyes rfl rfl rfl rfl ?_; refine gstepB rfl rfl (run_fieldAddr (.tmp rfl) fa24_2 (by first | exact Nat.zero_add _ | exact rfl)) ?_) | refine lskip rfl rfl rfl rfl rfl rfl rfl ?_
          first | (refine lyes rfl rfl rfl rfl ?_; refine gstepB rfl rfl (run_load1 (.tmp rfl) kd3 (by repeat (first | exact List.Mem.head _ | apply List.Mem.tail)) (by exact rfl)) ?_) | refine lskip rfl rfl rfl rfl rfl rfl rfl ?_
          first | (refine lyes rfl rfl rfl rfl ?_; refine gstepB rfl rfl (run_call1 cb63 (.cons (.tmp rfl) (.cons .const (.cons .const .nil))) (fun w _ => (rinK _ _ _ w).as (congrArg Value.bool h3))) ?_) | refine lskip rfl rfl rfl rfl rfl rfl rfl ?_
          first | (refine lyes rfl rfl rfl rfl ?_; refine gstepB rfl rfl (run_not (.tmp rfl) (by first | exact Bool.not_true | exact Bool.not_false | exact rfl)) ?_) | refine lskip rfl rfl rfl rfl rfl rfl rfl ?_
          refine lstepB rfl rfl rfl (by first | exact run_pick_true (.tmp rfl) .const | exact run_pick_false (.tmp rfl) (.tmp rfl)) ?_
          refine lstepB rfl rfl rfl (run_move (.tmp rfl)) ?_
          first | (refine lyes rfl rfl rfl rfl ?_; refine gstepB rfl rfl (run_fieldAddr (.tmp rfl) fa24_3 (by first | exact Nat.zero_add _ | exact rfl)) ?_) | refine lskip rfl rfl rfl rfl rfl rfl rfl ?_
          first | (refine lyes rfl rfl rfl rfl ?_; refine gstepB rfl rfl (run_load1 (.tmp rfl) kd22 (by repeat (first | exact List.Mem.head _ | apply List.Mem.tail)) (by exact rfl)) ?_) | refine lskip rfl rfl rfl rfl rfl rfl rfl ?_
          first | (refine lyes rfl rfl rfl rfl ?_; refine gstepB rfl rfl (run_len (.tmp rfl) sl22) ?_) | refine lskip rfl rfl rfl rfl rfl rfl rfl ?_
          first | (refine lyes rfl rfl rfl rfl ?_; refine gstepB rfl rfl (run_gtr (.tmp rfl) .const (by first | exact decide_eq_true (by omega) | exact decide_eq_false (by omega) | exact rfl)) ?_) | refine lskip rfl rfl rfl rfl rfl rfl rfl ?_
          refine lstepB rfl rfl rfl (by first | exact run_pick_true (.tmp rfl) .const | exact run_pick_false (.tmp rfl) (.tmp rfl)) ?_
          refine lnil ?_
          refine xw_then ?_
          refine cw_cond_true (.tmp rfl) ?_
          refine cw_seq ?_
          refine cw_region ?_
          refine lstepB rfl rfl rfl (run_assign .const) ?_
          refine lnil ?_
          refine xw_then ?_
          refine cw_ret ?_
          refine xw_then_ret ?_
          refine xw_ret1 Try.results32 rfl (fun w hS => ⟨by rw [validB_big (by omega)], hS.kept⟩)
        ·
          refine cw_seq ?_
          refine cw_region ?_
          refine lstep rfl rfl rfl (run_boxN (.tmp rfl)) ?_
          intro b1 _
          refine lstepB rfl rfl rfl (run_assign .const) ?_
          refine lnil ?_
          refine xw_then ?_
          refine cw_seq ?_
          refine cw_seq ?_
          refine cw_region ?_
          refine lstepB rfl rfl rfl (run_fieldAddr (.tmp rfl) fa24_0 (by first | exact Nat.zero_add _ | exact rfl)) ?_
          refine lstepB rfl rfl rfl (run_load1 (.tmp rfl) kd3 (by repeat (first | exact List.Mem.head _ | apply List.Mem.tail)) (by exact rfl)) ?_
          refine lstepB rfl rfl rfl (run_call1 cb63 (.cons (.tmp rfl) (.cons .const (.cons .const .nil))) (fun w _ => (rinK _ _ _ w).as (congrArg Value.bool h1))) ?_
          refine lstepB rfl rfl rfl (run_not (.tmp rfl) (by first | exact Bool.not_true | exact Bool.not_false | exact rfl)) ?_
          refine lstepB rfl rfl rfl (run_move (.tmp rfl)) ?_
          first | (refine lyes rfl rfl rfl rfl ?_; refine gstepB rfl rfl (run_fieldAddr (.tmp rfl) fa24_1 (by first | exact Nat.zero_add _ | exact rfl)) ?_) | refine lskip rfl rfl rfl rfl rfl rfl rfl ?_
          first | (refine lyes rfl rfl rfl rfl ?_; refine gstepB rfl rfl (run_load1 (.tmp rfl) kd3 (by repeat (first | exact List.Mem.head _ | apply List.Mem.tail)) (by exact rfl)) ?_) | refine lskip rfl rfl rfl rfl rfl rfl rfl ?_
          first | (refine lyes rfl rfl rfl rfl ?_; refine gstepB rfl rfl (run_call1 cb63 (.cons (.tmp rfl) (.cons .const (.cons .const .nil))) (fun w _ => (rinK _ _ _ w).as (congrArg Value.bool h2))) ?_) | refine lskip rfl rfl rfl rfl rfl rfl rfl ?_
          first | (refine lyes rfl rfl rfl rfl ?_; refine gstepB rfl rfl (run_not (.tmp rfl) (by first | exact Bool.not_true | exact Bool.not_false | exact rfl)) ?_) | refine lskip rfl rfl rfl rfl rfl rfl rfl ?_
          refine lstepB rfl rfl rfl (by first | exact run_pick_true (.tmp rfl) .const | exact run_pick_false (.tmp rfl) (.tmp rfl)) ?_
          refine lstepB rfl rfl rfl (run_move (.tmp rfl)) ?_
          first | (refine lyes rfl rfl rfl rfl ?_; refine gstepB rfl rfl (run_fieldAddr (.tmp rfl) fa24_2 (by first | exact Nat.zero_add _ | exact rfl)) ?_) | refine lskip rfl rfl rfl rfl rfl rfl rfl ?_
          first | (refine lyes rfl rfl rfl rfl ?_; refine gstepB rfl rfl (run_load1 (.tmp rfl) kd3 (by repeat (first | exact List.Mem.head _ | apply List.Mem.tail)) (by exact rfl)) ?_) | refine lskip rfl rfl rfl rfl rfl rfl rfl ?_
          first | (refine lyes rfl rfl rfl rfl ?_; refine gstepB rfl rfl (run_call1 cb63 (.cons (.tmp rfl) (.cons .const (.cons .const .nil))) (fun w _ => (rinK _ _ _ w).as (congrArg Value.bool h3))) ?_) | refine lskip rfl rfl rfl rfl rfl rfl rfl ?_
          first | (refine lyes rfl rfl rfl rfl ?_; refine gstepB rfl rfl (run_not (.tmp rfl) (by first | exact Bool.not_true | exact Bool.not_false | exact rfl)) ?_) | refine lskip rfl rfl rfl rfl rfl rfl rfl ?_
          refine lstepB rfl rfl rfl (by first | exact run_pick_true (.tmp rfl) .const | exact run_pick_false (.tmp rfl) (.tmp rfl)) ?_
          refine lstepB rfl rfl rfl (run_move (.tmp rfl)) ?_
          first | (refine lyes rfl rfl rfl rfl ?_; refine gstepB rfl rfl (run_fieldAddr (.tmp rfl) fa24_3 (by first | exact Nat.zero_add _ | exact rfl)) ?_) | refine lskip rfl rfl rfl rfl rfl rfl rfl ?_
          first | (refine lyes rfl rfl rfl rfl ?_; refine gstepB rfl rfl (run_load1 (.tmp rfl) kd22 (by repeat (first | exact List.Mem.head _ | apply List.Mem.tail)) (by exact rfl)) ?_) | refine lskip rfl rfl rfl rfl rfl rfl rfl ?_
          first | (refine lyes rfl rfl rfl rfl ?_; refine gstepB rfl rfl (run_len (.tmp rfl) sl22) ?_) | refine lskip rfl rfl rfl rfl rfl rfl rfl ?_
          first | (refine lyes rfl rfl rfl rfl ?_; refine gstepB rfl rfl (run_gtr (.tmp rfl) .const (by first | exact decide_eq_true (by omega) | exact decide_eq_false (by omega) | exact rfl)) ?_) | refine lskip rfl rfl rfl rfl rfl rfl rfl ?_
          refine lstepB rfl rfl rfl (by first | exact run_pick_true (.tmp rfl) .const | exact run_pick_false (.tmp rfl) (.tmp rfl)) ?_
          refine lnil ?_
          refine xw_then ?_
          refine cw_cond_false (.tmp rfl) ?_
          refine cw_skip ?_
          refine xw_then ?_
          refine cw_seq ?_
          refine cw_seq ?_
          refine cw_region ?_
          refine lstepB rfl rfl rfl (run_assign .const) ?_
          refine lnil ?_
          refine xw_then ?_
          refine cw_block ?_
          refine cw_loop (S := Nat) (fun k => [(3, .int .i64 (k : Int))]) [(1, _)] (fun k => [(b1, Obj.cells [.int .i64 g.long, .int .i64 g.rise, .int .i64 g.change, .slice pa g.pits.length pc].toArray 24 (0, 0))]) (fun k => k ≤ g.pits.length ∧ ∀ j, j < k → fineAt g j) (fun k => g.pits.length - k) 0 ⟨Nat.zero_le _, fun j h => absurd h (Nat.not_lt_zero j)⟩ (by repeat (first | exact Less.nil | refine Less.cons rfl ?_)) (by repeat (first | exact Pick.nil | (apply Pick.cons; focus (repeat (first | exact Del.here | apply Del.there))))) ?_
          intro k hk
          refine cw_seq ?_
          refine cw_seq ?_
          refine cw_region ?_
          refine lstepB rfl rfl rfl (run_move (.tmp rfl)) ?_
          refine lstepB rfl rfl rfl (run_fieldAddr (.tmp rfl) fa24_3 (by first | exact Nat.zero_add _ | exact rfl)) ?_
          refine lstepB rfl rfl rfl (run_load1 (.tmp rfl) kd22 (by repeat (first | exact List.Mem.head _ | apply List.Mem.tail)) (by exact rfl)) ?_
          refine lstepB rfl rfl rfl (run_len (.tmp rfl) sl22) ?_
          refine lstepB rfl rfl rfl (run_lss (.tmp rfl) (.tmp rfl) (by first | exact decide_eq_true (by omega) | exact decide_eq_false (by omega) | exact rfl)) ?_
          refine lnil ?_
          refine xw_then ?_
          refine cw_cond_p (.tmp rfl) (fun hl => ?_) (fun hl => ?_)
          ·
            obtain ⟨p, hpk⟩ : ∃ p, g.pits[k]? = some p := ⟨_, List.getElem?_eq_getElem (by omega)⟩
            obtain ⟨b, o, rfl, hb, hc⟩ := hp.pit (by omega)
            have hlt' := (List.getElem?_eq_some_iff.1 hpk).1
            refine cw_skip ?_
            refine xw_then ?_
            refine cw_seq ?_
            refine cw_block ?_
            refine cw_seq ?_
            refine cw_region ?_
            refine lstepB rfl rfl rfl (run_fieldAddr (.tmp rfl) fa24_3 (by first | exact Nat.zero_add _ | exact rfl)) ?_
            refine lstepB rfl rfl rfl (run_load1 (.tmp rfl) kd22 (by repeat (first | exact List.Mem.head _ | apply List.Mem.tail)) (by exact rfl)) ?_
            refine lstepB rfl rfl rfl (run_move (.tmp rfl)) ?_
            refine lstepB rfl rfl rfl (run_indexAddr (off' := o + k * 9) (.tmp rfl) (.tmp rfl) el22 (by omega) rfl) ?_
            refine lstepB rfl rfl rfl (run_loadN_at (l := [.int .i64 p.at_, .int .i64 p.hard.lo, .int .i64 p.hard.hi, .int .i64 p.sand.lo, .int .i64 p.sand.hi, .int .i64 p.silt.lo, .int .i64 p.silt.hi, .int .i64 p.clay.lo, .int .i64 p.clay.hi]) (.tmp rfl) kd55 sz55 rfl (fun w' hS j v hj => hS.old_cell (fun h => h) (hc k p hpk j v hj))) ?_
            refine lstep rfl rfl rfl (run_alloc zr55) ?_
            intro b4 _
            refine lstep0 rfl rfl (run_storeN (.tmp rfl) (.tmp rfl) rfl sz55 rfl (by repeat (first | exact Upd.here | apply Upd.there)) (by repeat (first | exact Put.done | apply Put.put | apply Put.skip))) ?_
            refine lnil ?_
            refine xw_then ?_
            refine cw_seq ?_
            refine cw_seq ?_
            cases h0 : inB p.at_ 0 g.long
            ·
              by_cases hk0 : 0 < k
              all_goals
                refine cw_chain2 (σ := [0, 1, 2, 3, 4, 5, 6, 7, 8, 9, 10, 11, 12, 13, 14, 15, 16, 17, 18, 19, 20, 21]) [⟨0, [], [], [], 0⟩, ⟨0, [0], [], [], 1⟩, ⟨0, [], [], [], 0⟩, ⟨0, [1], [], [], 4⟩, ⟨0, [], [], [], 15⟩, ⟨0, [], [], [], 31⟩, ⟨0, [], [], [], 63⟩, ⟨0, [], [], [], 127⟩, ⟨0, [], [], [], 255⟩, ⟨0, [], [], [], 511⟩, ⟨0, [], [], [], 1023⟩, ⟨0, [0], [], [], 2047⟩, ⟨0, [], [], [], 1023⟩, ⟨0, [1], [], [], 5119⟩, ⟨0, [], [], [], 1023⟩, ⟨0, [], [], [], 17407⟩, ⟨0, [], [], [], 62463⟩, ⟨0, [], [], [], 127999⟩, ⟨0, [], [], [], 259071⟩, ⟨0, [], [], [], 524287⟩, ⟨0, [], [], [], 1048575⟩, ⟨0, [], [], [], 2097151⟩] [(0, _), (1, _)] (by kernel_rfl) (by kernel_rfl) rfl ?_
                refine .det (B := []) rfl rfl (.inl rfl) .nil .nil rfl (RunB.lr (run_fieldAddr (.tmp rfl) fa55_0 (by first | exact Nat.zero_add _ | exact rfl))) ?_
                refine .det (B := []) rfl rfl (.inl rfl) (.cons rfl .nil) .nil rfl (RunB.lr (run_load1 (.tmp rfl) kd3 (by repeat (first | exact List.Mem.head _ | apply List.Mem.tail)) (by exact rfl))) ?_
                refine .det (B := []) rfl rfl (.inl rfl) .nil .nil rfl (RunB.lr (run_fieldAddr (.tmp rfl) fa24_0 (by first | exact Nat.zero_add _ | exact rfl))) ?_
                refine .det (B := []) rfl rfl (.inl rfl) (.cons rfl .nil) .nil rfl (RunB.lr (run_load1 (.tmp rfl) kd3 (by repeat (first | exact List.Mem.head _ | apply List.Mem.tail)) (by exact rfl))) ?_
                refine .det (B := []) rfl rfl (.inl rfl) .nil .nil rfl (RunB.lr (run_call1 cb63 (.cons (.tmp rfl) (.cons .const (.cons (.tmp rfl) .nil))) (fun w _ => (rinK _ _ _ w).as (congrArg Value.bool h0)))) ?_
                refine .det (B := []) rfl rfl (.inl rfl) .nil .nil rfl (RunB.lr (run_not (.tmp rfl) (by first | exact Bool.not_true | exact Bool.not_false | exact rfl))) ?_
                refine .det (B := []) rfl rfl (.inl rfl) .nil .nil rfl (RunB.lr (run_move (.tmp rfl))) ?_
                refine .skip rfl rfl ⟨_, _, _, _, rfl, rfl, rfl, rfl⟩ rfl (by first | rfl | kernel_rfl) ?_
                refine .skip rfl rfl ⟨_, _, _, _, rfl, rfl, rfl, rfl⟩ rfl (by first | rfl | kernel_rfl) ?_
                refine .skip rfl rfl ⟨_, _, _, _, rfl, rfl, rfl, rfl⟩ rfl (by first | rfl | kernel_rfl) ?_
                refine .skip rfl rfl ⟨_, _, _, _, rfl, rfl, rfl, rfl⟩ rfl (by first | rfl | kernel_rfl) ?_
                refine .skip rfl rfl ⟨_, _, _, _, rfl, rfl, rfl, rfl⟩ rfl (by first | rfl | kernel_rfl) ?_
                refine .skip rfl rfl ⟨_, _, _, _, rfl, rfl, rfl, rfl⟩ rfl (by first | rfl | kernel_rfl) ?_
                refine .skip rfl rfl ⟨_, _, _, _, rfl, rfl, rfl, rfl⟩ rfl (by first | rfl | kernel_rfl) ?_
                refine .skip rfl rfl ⟨_, _, _, _, rfl, rfl, rfl, rfl⟩ rfl (by first | rfl | kernel_rfl) ?_
                refine .skip rfl rfl ⟨_, _, _, _, rfl, rfl, rfl, rfl⟩ rfl (by first | rfl | kernel_rfl) ?_
                refine .skip rfl rfl ⟨_, _, _, _, rfl, rfl, rfl, rfl⟩ rfl (by first | rfl | kernel_rfl) ?_
                refine .skip rfl rfl ⟨_, _, _, _, rfl, rfl, rfl, rfl⟩ rfl (by first | rfl | kernel_rfl) ?_
                refine .skip rfl rfl ⟨_, _, _, _, rfl, rfl, rfl, rfl⟩ rfl (by first | rfl | kernel_rfl) ?_
                refine .skip rfl rfl ⟨_, _, _, _, rfl, rfl, rfl, rfl⟩ rfl (by first | rfl | kernel_rfl) ?_
                refine .skip rfl rfl ⟨_, _, _, _, rfl, rfl, rfl, rfl⟩ rfl (by first | rfl | kernel_rfl) ?_
                refine .det (B := []) rfl rfl (.inl rfl) .nil .nil rfl (RunB.lr (by first | exact run_pick_true (.tmp rfl) .const | exact run_pick_false (.tmp rfl) (.tmp rfl))) ?_
                refine chain_nil (ts := [0, 1]) (.cons rfl (.cons rfl .nil)) (by decide) ?_
                refine xw_then ?_
                refine cw_cond_true (.tmp rfl) ?_
                refine cw_seq ?_
                refine cw_region ?_
                refine lstepB rfl rfl rfl (run_assign .const) ?_
                refine lnil ?_
                refine xw_then ?_
                refine cw_ret ?_
                refine xw_then_ret ?_
                refine xw_in_ret ?_
                refine xw_then_ret ?_
                refine xw_then_ret ?_
                refine xw_in_ret ?_
                refine xw_then_ret ?_
                refine xw_ret1 Try.results32 rfl (fun w hS => ⟨by rw [valid_not hpk (fun h => by have := h.1.1; simp [inB] at h0; omega)], hS.kept⟩)
            ·
              have hin : 0 ≤ p.at_ ∧ p.at_ ≤ g.long := by simpa [inB] using h0
              by_cases hk0 : 0 < k
              ·
                obtain ⟨q, hqk⟩ : ∃ q, g.pits[k - 1]? = some q := ⟨_, List.getElem?_eq_getElem (by omega)⟩
                by_cases hle : p.at_ ≤ q.at_
                ·
                  refine cw_chain2 (σ := [0, 1, 2, 3, 4, 5, 6, 7, 8, 9, 10, 11, 12, 13, 14, 15, 16, 17, 18, 19, 20, 21]) [⟨0, [], [], [], 0⟩, ⟨0, [0], [], [], 1⟩, ⟨0, [], [], [], 0⟩, ⟨0, [1], [], [], 4⟩, ⟨0, [], [], [], 15⟩, ⟨0, [], [], [], 31⟩, ⟨0, [], [], [], 63⟩, ⟨0, [], [], [], 127⟩, ⟨0, [], [], [], 255⟩, ⟨0, [], [], [], 511⟩, ⟨0, [], [], [], 1023⟩, ⟨0, [0], [], [], 2047⟩, ⟨0, [], [], [], 1023⟩, ⟨0, [1], [], [], 5119⟩, ⟨0, [], [], [], 1023⟩, ⟨0, [], [], [], 17407⟩, ⟨0, [], [], [], 62463⟩, ⟨0, [], [], [], 127999⟩, ⟨0, [], [], [], 259071⟩, ⟨0, [], [], [], 524287⟩, ⟨0, [], [], [], 1048575⟩, ⟨0, [], [], [], 2097151⟩] [(0, _), (1, _)] (by kernel_rfl) (by kernel_rfl) rfl ?_
                  refine .det (B := []) rfl rfl (.inl rfl) .nil .nil rfl (RunB.lr (run_fieldAddr (.tmp rfl) fa55_0 (by first | exact Nat.zero_add _ | exact rfl))) ?_
                  refine .det (B := []) rfl rfl (.inl rfl) (.cons rfl .nil) .nil rfl (RunB.lr (run_load1 (.tmp rfl) kd3 (by repeat (first | exact List.Mem.head _ | apply List.Mem.tail)) (by exact rfl))) ?_
                  refine .det (B := []) rfl rfl (.inl rfl) .nil .nil rfl (RunB.lr (run_fieldAddr (.tmp rfl) fa24_0 (by first | exact Nat.zero_add _ | exact rfl))) ?_
                  refine .det (B := []) rfl rfl (.inl rfl) (.cons rfl .nil) .nil rfl (RunB.lr (run_load1 (.tmp rfl) kd3 (by repeat (first | exact List.Mem.head _ | apply List.Mem.tail)) (by exact rfl))) ?_
                  refine .det (B := []) rfl rfl (.inl rfl) .nil .nil rfl (RunB.lr (run_call1 cb63 (.cons (.tmp rfl) (.cons .const (.cons (.tmp rfl) .nil))) (fun w _ => (rinK _ _ _ w).as (congrArg Value.bool h0)))) ?_
                  refine .det (B := []) rfl rfl (.inl rfl) .nil .nil rfl (RunB.lr (run_not (.tmp rfl) (by first | exact Bool.not_true | exact Bool.not_false | exact rfl))) ?_
                  refine .det (B := []) rfl rfl (.inl rfl) .nil .nil rfl (RunB.lr (run_move (.tmp rfl))) ?_
                  refine .det (B := []) rfl rfl (.inr ⟨_, _, _, rfl, rfl, rfl⟩) .nil .nil rfl (RunB.lr (run_move (.tmp rfl))) ?_
                  refine .det (B := []) rfl rfl (.inr ⟨_, _, _, rfl, rfl, rfl⟩) .nil .nil rfl (RunB.lr (run_gtr (.tmp rfl) .const (by first | exact decide_eq_true (by omega) | exact decide_eq_false (by omega) | exact rfl))) ?_
                  refine .det (B := []) rfl rfl (.inr ⟨_, _, _, rfl, rfl, rfl⟩) .nil .nil rfl (RunB.lr (run_move (.tmp rfl))) ?_
                  refine .det (B := []) rfl rfl (.inr ⟨_, _, _, rfl, rfl, rfl⟩) .nil .nil rfl (RunB.lr (run_fieldAddr (.tmp rfl) fa55_0 (by first | exact Nat.zero_add _ | exact rfl))) ?_
                  refine .det (B := []) rfl rfl (.inr ⟨_, _, _, rfl, rfl, rfl⟩) (.cons rfl .nil) .nil rfl (RunB.lr (run_load1 (.tmp rfl) kd3 (by repeat (first | exact List.Mem.head _ | apply List.Mem.tail)) (by exact rfl))) ?_
                  refine .det (B := []) rfl rfl (.inr ⟨_, _, _, rfl, rfl, rfl⟩) .nil .nil rfl (RunB.lr (run_fieldAddr (.tmp rfl) fa24_3 (by first | exact Nat.zero_add _ | exact rfl))) ?_
                  refine .det (B := []) rfl rfl (.inr ⟨_, _, _, rfl, rfl, rfl⟩) (.cons rfl .nil) .nil rfl (RunB.lr (run_load1 (.tmp rfl) kd22 (by repeat (first | exact List.Mem.head _ | apply List.Mem.tail)) (by exact rfl))) ?_
                  refine .det (B := []) rfl rfl (.inr ⟨_, _, _, rfl, rfl, rfl⟩) .nil .nil rfl (RunB.lr (run_move (.tmp rfl))) ?_
                  refine .det (B := []) rfl rfl (.inr ⟨_, _, _, rfl, rfl, rfl⟩) .nil .nil rfl (RunB.lr (run_sub (c := ((k - 1 : Nat) : Int)) (.tmp rfl) .const (by rw [IntWalk.i64_in _ (by omega)]; omega))) ?_
                  refine .det (B := []) rfl rfl (.inr ⟨_, _, _, rfl, rfl, rfl⟩) .nil .nil rfl (RunB.lr (run_indexAddr (off' := o + (k - 1) * 9) (.tmp rfl) (.tmp rfl) el22 (by omega) rfl)) ?_
                  refine .det (B := []) rfl rfl (.inr ⟨_, _, _, rfl, rfl, rfl⟩) .nil .nil rfl (RunB.lr (run_fieldAddr (.tmp rfl) fa55_0 (by first | exact Nat.zero_add _ | exact rfl))) ?_
                  refine .det (B := []) rfl rfl (.inr ⟨_, _, _, rfl, rfl, rfl⟩) .nil .nil rfl (RunB.lr (run_load1_at (v := .int .i64 q.at_) (.tmp rfl) kd3 (fun w' hS => hS.old_cell (fun h => h) (hc (k - 1) q hqk 0 _ rfl)))) ?_
                  refine .det (B := []) rfl rfl (.inr ⟨_, _, _, rfl, rfl, rfl⟩) .nil .nil rfl (RunB.lr (run_leq (.tmp rfl) (.tmp rfl) (by first | exact decide_eq_true (by omega) | exact decide_eq_false (by omega) | exact rfl))) ?_
                  refine .det (B := []) rfl rfl (.inr ⟨_, _, _, rfl, rfl, rfl⟩) .nil .nil rfl (RunB.lr (by first | exact run_pick_true (.tmp rfl) (.tmp rfl) | exact run_pick_false (.tmp rfl) .const)) ?_
                  refine .det (B := []) rfl rfl (.inl rfl) .nil .nil rfl (RunB.lr (by first | exact run_pick_true (.tmp rfl) .const | exact run_pick_false (.tmp rfl) (.tmp rfl))) ?_
                  refine chain_nil (ts := [0, 1]) (.cons rfl (.cons rfl .nil)) (by decide) ?_
                  refine xw_then ?_
                  refine cw_cond_true (.tmp rfl) ?_
                  refine cw_seq ?_
                  refine cw_region ?_
                  refine lstepB rfl rfl rfl (run_assign .const) ?_
                  refine lnil ?_
                  refine xw_then ?_
                  refine cw_ret ?_
                  refine xw_then_ret ?_
                  refine xw_in_ret ?_
                  refine xw_then_ret ?_
                  refine xw_then_ret ?_
                  refine xw_in_ret ?_
                  refine xw_then_ret ?_
                  refine xw_ret1 Try.results32 rfl (fun w hS => ⟨by rw [valid_not hpk (fun h => by have := h.2 q hk0 hqk; omega)], hS.kept⟩)
                ·
                  refine cw_chain2 (σ := [0, 1, 2, 3, 4, 5, 6, 7, 8, 9, 10, 11, 12, 13, 14, 15, 16, 17, 18, 19, 20, 21]) [⟨0, [], [], [], 0⟩, ⟨0, [0], [], [], 1⟩, ⟨0, [], [], [], 0⟩, ⟨0, [1], [], [], 4⟩, ⟨0, [], [], [], 15⟩, ⟨0, [], [], [], 31⟩, ⟨0, [], [], [], 63⟩, ⟨0, [], [], [], 127⟩, ⟨0, [], [], [], 255⟩, ⟨0, [], [], [], 511⟩, ⟨0, [], [], [], 1023⟩, ⟨0, [0], [], [], 2047⟩, ⟨0, [], [], [], 1023⟩, ⟨0, [1], [], [], 5119⟩, ⟨0, [], [], [], 1023⟩, ⟨0, [], [], [], 17407⟩, ⟨0, [], [], [], 62463⟩, ⟨0, [], [], [], 127999⟩, ⟨0, [], [], [], 259071⟩, ⟨0, [], [], [], 524287⟩, ⟨0, [], [], [], 1048575⟩, ⟨0, [], [], [], 2097151⟩] [(0, _), (1, _)] (by kernel_rfl) (by kernel_rfl) rfl ?_
                  refine .det (B := []) rfl rfl (.inl rfl) .nil .nil rfl (RunB.lr (run_fieldAddr (.tmp rfl) fa55_0 (by first | exact Nat.zero_add _ | exact rfl))) ?_
                  refine .det (B := []) rfl rfl (.inl rfl) (.cons rfl .nil) .nil rfl (RunB.lr (run_load1 (.tmp rfl) kd3 (by repeat (first | exact List.Mem.head _ | apply List.Mem.tail)) (by exact rfl))) ?_
                  refine .det (B := []) rfl rfl (.inl rfl) .nil .nil rfl (RunB.lr (run_fieldAddr (.tmp rfl) fa24_0 (by first | exact Nat.zero_add _ | exact rfl))) ?_
                  refine .det (B := []) rfl rfl (.inl rfl) (.cons rfl .nil) .nil rfl (RunB.lr (run_load1 (.tmp rfl) kd3 (by repeat (first | exact List.Mem.head _ | apply List.Mem.tail)) (by exact rfl))) ?_
                  refine .det (B := []) rfl rfl (.inl rfl) .nil .nil rfl (RunB.lr (run_call1 cb63 (.cons (.tmp rfl) (.cons .const (.cons (.tmp rfl) .nil))) (fun w _ => (rinK _ _ _ w).as (congrArg Value.bool h0)))) ?_
                  refine .det (B := []) rfl rfl (.inl rfl) .nil .nil rfl (RunB.lr (run_not (.tmp rfl) (by first | exact Bool.not_true | exact Bool.not_false | exact rfl))) ?_
                  refine .det (B := []) rfl rfl (.inl rfl) .nil .nil rfl (RunB.lr (run_move (.tmp rfl))) ?_
                  refine .det (B := []) rfl rfl (.inr ⟨_, _, _, rfl, rfl, rfl⟩) .nil .nil rfl (RunB.lr (run_move (.tmp rfl))) ?_
                  refine .det (B := []) rfl rfl (.inr ⟨_, _, _, rfl, rfl, rfl⟩) .nil .nil rfl (RunB.lr (run_gtr (.tmp rfl) .const (by first | exact decide_eq_true (by omega) | exact decide_eq_false (by omega) | exact rfl))) ?_
                  refine .det (B := []) rfl rfl (.inr ⟨_, _, _, rfl, rfl, rfl⟩) .nil .nil rfl (RunB.lr (run_move (.tmp rfl))) ?_
                  refine .det (B := []) rfl rfl (.inr ⟨_, _, _, rfl, rfl, rfl⟩) .nil .nil rfl (RunB.lr (run_fieldAddr (.tmp rfl) fa55_0 (by first | exact Nat.zero_add _ | exact rfl))) ?_
                  refine .det (B := []) rfl rfl (.inr ⟨_, _, _, rfl, rfl, rfl⟩) (.cons rfl .nil) .nil rfl (RunB.lr (run_load1 (.tmp rfl) kd3 (by repeat (first | exact List.Mem.head _ | apply List.Mem.tail)) (by exact rfl))) ?_
                  refine .det (B := []) rfl rfl (.inr ⟨_, _, _, rfl, rfl, rfl⟩) .nil .nil rfl (RunB.lr (run_fieldAddr (.tmp rfl) fa24_3 (by first | exact Nat.zero_add _ | exact rfl))) ?_
                  refine .det (B := []) rfl rfl (.inr ⟨_, _, _, rfl, rfl, rfl⟩) (.cons rfl .nil) .nil rfl (RunB.lr (run_load1 (.tmp rfl) kd22 (by repeat (first | exact List.Mem.head _ | apply List.Mem.tail)) (by exact rfl))) ?_
                  refine .det (B := []) rfl rfl (.inr ⟨_, _, _, rfl, rfl, rfl⟩) .nil .nil rfl (RunB.lr (run_move (.tmp rfl))) ?_
                  refine .det (B := []) rfl rfl (.inr ⟨_, _, _, rfl, rfl, rfl⟩) .nil .nil rfl (RunB.lr (run_sub (c := ((k - 1 : Nat) : Int)) (.tmp rfl) .const (by rw [IntWalk.i64_in _ (by omega)]; omega))) ?_
                  refine .det (B := []) rfl rfl (.inr ⟨_, _, _, rfl, rfl, rfl⟩) .nil .nil rfl (RunB.lr (run_indexAddr (off' := o + (k - 1) * 9) (.tmp rfl) (.tmp rfl) el22 (by omega) rfl)) ?_
                  refine .det (B := []) rfl rfl (.inr ⟨_, _, _, rfl, rfl, rfl⟩) .nil .nil rfl (RunB.lr (run_fieldAddr (.tmp rfl) fa55_0 (by first | exact Nat.zero_add _ | exact rfl))) ?_
                  refine .det (B := []) rfl rfl (.inr ⟨_, _, _, rfl, rfl, rfl⟩) .nil .nil rfl (RunB.lr (run_load1_at (v := .int .i64 q.at_) (.tmp rfl) kd3 (fun w' hS => hS.old_cell (fun h => h) (hc (k - 1) q hqk 0 _ rfl)))) ?_
                  refine .det (B := []) rfl rfl (.inr ⟨_, _, _, rfl, rfl, rfl⟩) .nil .nil rfl (RunB.lr (run_leq (.tmp rfl) (.tmp rfl) (by first | exact decide_eq_true (by omega) | exact decide_eq_false (by omega) | exact rfl))) ?_
                  refine .det (B := []) rfl rfl (.inr ⟨_, _, _, rfl, rfl, rfl⟩) .nil .nil rfl (RunB.lr (by first | exact run_pick_true (.tmp rfl) (.tmp rfl) | exact run_pick_false (.tmp rfl) .const)) ?_
                  refine .det (B := []) rfl rfl (.inl rfl) .nil .nil rfl (RunB.lr (by first | exact run_pick_true (.tmp rfl) .const | exact run_pick_false (.tmp rfl) (.tmp rfl))) ?_
                  refine chain_nil (ts := [0, 1]) (.cons rfl (.cons rfl .nil)) (by decide) ?_
                  refine xw_then ?_
                  refine cw_cond_false (.tmp rfl) ?_
                  have hf : pitB p = true → fineAt g k := fun hb p2 h2 => by rw [hpk] at h2; cases h2; exact ⟨hin, fun q2 _ h3 => by rw [hqk] at h3; cases h3; omega, hb⟩
                  cases s1 : withinB p.hard 1000 <;> cases s2 : withinB p.sand 20 <;> cases s3 : withinB p.silt 20 <;> cases s4 : withinB p.clay 20
                  case true.true.true.true =>
                    refine cw_skip ?_
                    refine xw_then ?_
                    refine cw_seq ?_
                    refine cw_region ?_
                    refine lstepB rfl rfl rfl (run_fieldAddr (.tmp rfl) fa55_1 (by first | exact Nat.zero_add _ | exact rfl)) ?_
                    refine lstepB rfl rfl rfl (run_loadN (.tmp rfl) kd28 sz28 (by repeat (first | exact List.Mem.head _ | apply List.Mem.tail)) (by repeat (first | exact Sub.done | apply Sub.take | apply Sub.skip))) ?_
                    refine lstepB rfl rfl rfl (run_call1 cb76 (.cons (.tmp rfl) (.cons .const (.cons .const .nil))) (fun w _ => (rspanK ⟨_, _⟩ _ _ w).as (congrArg Value.bool s1))) ?_
                    refine lstepB rfl rfl rfl (run_not (.tmp rfl) (by first | exact Bool.not_true | exact Bool.not_false | exact rfl)) ?_
                    refine lstepB rfl rfl rfl (run_move (.tmp rfl)) ?_
                    first | (refine lyes rfl rfl rfl rfl ?_; refine gstepB rfl rfl (run_fieldAddr (.tmp rfl) fa55_2 (by first | exact Nat.zero_add _ | exact rfl)) ?_) | refine lskip rfl rfl rfl rfl rfl rfl rfl ?_
                    first | (refine lyes rfl rfl rfl rfl ?_; refine gstepB rfl rfl (run_loadN (.tmp rfl) kd28 sz28 (by repeat (first | exact List.Mem.head _ | apply List.Mem.tail)) (by repeat (first | exact Sub.done | apply Sub.take | apply Sub.skip))) ?_) | refine lskip rfl rfl rfl rfl rfl rfl rfl ?_
                    first | (refine lyes rfl rfl rfl rfl ?_; refine gstepB rfl rfl (run_call1 cb76 (.cons (.tmp rfl) (.cons .const (.cons .const .nil))) (fun w _ => (rspanK ⟨_, _⟩ _ _ w).as (congrArg Value.bool s2))) ?_) | refine lskip rfl rfl rfl rfl rfl rfl rfl ?_
                    first | (refine lyes rfl rfl rfl rfl ?_; refine gstepB rfl rfl (run_not (.tmp rfl) (by first | exact Bool.not_true | exact Bool.not_false | exact rfl)) ?_) | refine lskip rfl rfl rfl rfl rfl rfl rfl ?_
                    refine lstepB rfl rfl rfl (by first | exact run_pick_true (.tmp rfl) .const | exact run_pick_false (.tmp rfl) (.tmp rfl)) ?_
                    refine lstepB rfl rfl rfl (run_move (.tmp rfl)) ?_
                    first | (refine lyes rfl rfl rfl rfl ?_; refine gstepB rfl rfl (run_fieldAddr (.tmp rfl) fa55_3 (by first | exact Nat.zero_add _ | exact rfl)) ?_) | refine lskip rfl rfl rfl rfl rfl rfl rfl ?_
                    first | (refine lyes rfl rfl rfl rfl ?_; refine gstepB rfl rfl (run_loadN (.tmp rfl) kd28 sz28 (by repeat (first | exact List.Mem.head _ | apply List.Mem.tail)) (by repeat (first | exact Sub.done | apply Sub.take | apply Sub.skip))) ?_) | refine lskip rfl rfl rfl rfl rfl rfl rfl ?_
                    first | (refine lyes rfl rfl rfl rfl ?_; refine gstepB rfl rfl (run_call1 cb76 (.cons (.tmp rfl) (.cons .const (.cons .const .nil))) (fun w _ => (rspanK ⟨_, _⟩ _ _ w).as (congrArg Value.bool s3))) ?_) | refine lskip rfl rfl rfl rfl rfl rfl rfl ?_
                    first | (refine lyes rfl rfl rfl rfl ?_; refine gstepB rfl rfl (run_not (.tmp rfl) (by first | exact Bool.not_true | exact Bool.not_false | exact rfl)) ?_) | refine lskip rfl rfl rfl rfl rfl rfl rfl ?_
                    refine lstepB rfl rfl rfl (by first | exact run_pick_true (.tmp rfl) .const | exact run_pick_false (.tmp rfl) (.tmp rfl)) ?_
                    refine lstepB rfl rfl rfl (run_move (.tmp rfl)) ?_
                    first | (refine lyes rfl rfl rfl rfl ?_; refine gstepB rfl rfl (run_fieldAddr (.tmp rfl) fa55_4 (by first | exact Nat.zero_add _ | exact rfl)) ?_) | refine lskip rfl rfl rfl rfl rfl rfl rfl ?_
                    first | (refine lyes rfl rfl rfl rfl ?_; refine gstepB rfl rfl (run_loadN (.tmp rfl) kd28 sz28 (by repeat (first | exact List.Mem.head _ | apply List.Mem.tail)) (by repeat (first | exact Sub.done | apply Sub.take | apply Sub.skip))) ?_) | refine lskip rfl rfl rfl rfl rfl rfl rfl ?_
                    first | (refine lyes rfl rfl rfl rfl ?_; refine gstepB rfl rfl (run_call1 cb76 (.cons (.tmp rfl) (.cons .const (.cons .const .nil))) (fun w _ => (rspanK ⟨_, _⟩ _ _ w).as (congrArg Value.bool s4))) ?_) | refine lskip rfl rfl rfl rfl rfl rfl rfl ?_
                    first | (refine lyes rfl rfl rfl rfl ?_; refine gstepB rfl rfl (run_not (.tmp rfl) (by first | exact Bool.not_true | exact Bool.not_false | exact rfl)) ?_) | refine lskip rfl rfl rfl rfl rfl rfl rfl ?_
                    refine lstepB rfl rfl rfl (by first | exact run_pick_true (.tmp rfl) .const | exact run_pick_false (.tmp rfl) (.tmp rfl)) ?_
                    refine lnil ?_
                    refine xw_then ?_
                    refine cw_cond_false (.tmp rfl) ?_
                    refine cw_skip ?_
                    refine xw_in ?_
                    refine xw_then ?_
                    refine cw_region ?_
                    refine lstepB rfl rfl rfl (run_move (.tmp rfl)) ?_
                    refine lstepB rfl rfl rfl (run_add (.tmp rfl) .const (by first | exact IntWalk.i64_in _ (by omega) | exact rfl)) ?_
                    refine lstepB rfl rfl rfl (run_assign (.tmp rfl)) ?_
                    refine lnil ?_
                    exact xw_round (k + 1) ⟨by omega, fun j hj => by rcases Nat.lt_succ_iff_lt_or_eq.1 hj with h | rfl; exact hk.2 j h; exact hf (by simp [pitB, s1, s2, s3, s4])⟩ (by omega) (by repeat (first | exact Less.nil | refine Less.cons rfl ?_)) (by repeat (first | exact Pick.nil | (apply Pick.cons; focus (repeat (first | exact Del.here | apply Del.there)))))
                  all_goals
                    refine cw_skip ?_
                    refine xw_then ?_
                    refine cw_seq ?_
                    refine cw_region ?_
                    refine lstepB rfl rfl rfl (run_fieldAddr (.tmp rfl) fa55_1 (by first | exact Nat.zero_add _ | exact rfl)) ?_
                    refine lstepB rfl rfl rfl (run_loadN (.tmp rfl) kd28 sz28 (by repeat (first | exact List.Mem.head _ | apply List.Mem.tail)) (by repeat (first | exact Sub.done | apply Sub.take | apply Sub.skip))) ?_
                    refine lstepB rfl rfl rfl (run_call1 cb76 (.cons (.tmp rfl) (.cons .const (.cons .const .nil))) (fun w _ => (rspanK ⟨_, _⟩ _ _ w).as (congrArg Value.bool s1))) ?_
                    refine lstepB rfl rfl rfl (run_not (.tmp rfl) (by first | exact Bool.not_true | exact Bool.not_false | exact rfl)) ?_
                    refine lstepB rfl rfl rfl (run_move (.tmp rfl)) ?_
                    first | (refine lyes rfl rfl rfl rfl ?_; refine gstepB rfl rfl (run_fieldAddr (.tmp rfl) fa55_2 (by first | exact Nat.zero_add _ | exact rfl)) ?_) | refine lskip rfl rfl rfl rfl rfl rfl rfl ?_
                    first | (refine lyes rfl rfl rfl rfl ?_; refine gstepB rfl rfl (run_loadN (.tmp rfl) kd28 sz28 (by repeat (first | exact List.Mem.head _ | apply List.Mem.tail)) (by repeat (first | exact Sub.done | apply Sub.take | apply Sub.skip))) ?_) | refine lskip rfl rfl rfl rfl rfl rfl rfl ?_
                    first | (refine lyes rfl rfl rfl rfl ?_; refine gstepB rfl rfl (run_call1 cb76 (.cons (.tmp rfl) (.cons .const (.cons .const .nil))) (fun w _ => (rspanK ⟨_, _⟩ _ _ w).as (congrArg Value.bool s2))) ?_) | refine lskip rfl rfl rfl rfl rfl rfl rfl ?_
                    first | (refine lyes rfl rfl rfl rfl ?_; refine gstepB rfl rfl (run_not (.tmp rfl) (by first | exact Bool.not_true | exact Bool.not_false | exact rfl)) ?_) | refine lskip rfl rfl rfl rfl rfl rfl rfl ?_
                    refine lstepB rfl rfl rfl (by first | exact run_pick_true (.tmp rfl) .const | exact run_pick_false (.tmp rfl) (.tmp rfl)) ?_
                    refine lstepB rfl rfl rfl (run_move (.tmp rfl)) ?_
                    first | (refine lyes rfl rfl rfl rfl ?_; refine gstepB rfl rfl (run_fieldAddr (.tmp rfl) fa55_3 (by first | exact Nat.zero_add _ | exact rfl)) ?_) | refine lskip rfl rfl rfl rfl rfl rfl rfl ?_
                    first | (refine lyes rfl rfl rfl rfl ?_; refine gstepB rfl rfl (run_loadN (.tmp rfl) kd28 sz28 (by repeat (first | exact List.Mem.head _ | apply List.Mem.tail)) (by repeat (first | exact Sub.done | apply Sub.take | apply Sub.skip))) ?_) | refine lskip rfl rfl rfl rfl rfl rfl rfl ?_
                    first | (refine lyes rfl rfl rfl rfl ?_; refine gstepB rfl rfl (run_call1 cb76 (.cons (.tmp rfl) (.cons .const (.cons .const .nil))) (fun w _ => (rspanK ⟨_, _⟩ _ _ w).as (congrArg Value.bool s3))) ?_) | refine lskip rfl rfl rfl rfl rfl rfl rfl ?_
                    first | (refine lyes rfl rfl rfl rfl ?_; refine gstepB rfl rfl (run_not (.tmp rfl) (by first | exact Bool.not_true | exact Bool.not_false | exact rfl)) ?_) | refine lskip rfl rfl rfl rfl rfl rfl rfl ?_
                    refine lstepB rfl rfl rfl (by first | exact run_pick_true (.tmp rfl) .const | exact run_pick_false (.tmp rfl) (.tmp rfl)) ?_
                    refine lstepB rfl rfl rfl (run_move (.tmp rfl)) ?_
                    first | (refine lyes rfl rfl rfl rfl ?_; refine gstepB rfl rfl (run_fieldAddr (.tmp rfl) fa55_4 (by first | exact Nat.zero_add _ | exact rfl)) ?_) | refine lskip rfl rfl rfl rfl rfl rfl rfl ?_
                    first | (refine lyes rfl rfl rfl rfl ?_; refine gstepB rfl rfl (run_loadN (.tmp rfl) kd28 sz28 (by repeat (first | exact List.Mem.head _ | apply List.Mem.tail)) (by repeat (first | exact Sub.done | apply Sub.take | apply Sub.skip))) ?_) | refine lskip rfl rfl rfl rfl rfl rfl rfl ?_
                    first | (refine lyes rfl rfl rfl rfl ?_; refine gstepB rfl rfl (run_call1 cb76 (.cons (.tmp rfl) (.cons .const (.cons .const .nil))) (fun w _ => (rspanK ⟨_, _⟩ _ _ w).as (congrArg Value.bool s4))) ?_) | refine lskip rfl rfl rfl rfl rfl rfl rfl ?_
                    first | (refine lyes rfl rfl rfl rfl ?_; refine gstepB rfl rfl (run_not (.tmp rfl) (by first | exact Bool.not_true | exact Bool.not_false | exact rfl)) ?_) | refine lskip rfl rfl rfl rfl rfl rfl rfl ?_
                    refine lstepB rfl rfl rfl (by first | exact run_pick_true (.tmp rfl) .const | exact run_pick_false (.tmp rfl) (.tmp rfl)) ?_
                    refine lnil ?_
                    refine xw_then ?_
                    refine cw_cond_true (.tmp rfl) ?_
                    refine cw_seq ?_
                    refine cw_region ?_
                    refine lstepB rfl rfl rfl (run_assign .const) ?_
                    refine lnil ?_
                    refine xw_then ?_
                    refine cw_ret ?_
                    refine xw_in_ret ?_
                    refine xw_then_ret ?_
                    refine xw_then_ret ?_
                    refine xw_in_ret ?_
                    refine xw_then_ret ?_
                    refine xw_ret1 Try.results32 rfl (fun w hS => ⟨by rw [valid_not hpk (fun h => by have := h.1.2; simp [pitB, s1, s2, s3, s4] at this)], hS.kept⟩)
              ·
                refine cw_chain2 (σ := [0, 1, 2, 3, 4, 5, 6, 7, 8, 9, 10, 11, 12, 13, 14, 15, 16, 17, 18, 19, 20, 21]) [⟨0, [], [], [], 0⟩, ⟨0, [0], [], [], 1⟩, ⟨0, [], [], [], 0⟩, ⟨0, [1], [], [], 4⟩, ⟨0, [], [], [], 15⟩, ⟨0, [], [], [], 31⟩, ⟨0, [], [], [], 63⟩, ⟨0, [], [], [], 127⟩, ⟨0, [], [], [], 255⟩, ⟨0, [], [], [], 511⟩, ⟨0, [], [], [], 1023⟩, ⟨0, [0], [], [], 2047⟩, ⟨0, [], [], [], 1023⟩, ⟨0, [1], [], [], 5119⟩, ⟨0, [], [], [], 1023⟩, ⟨0, [], [], [], 17407⟩, ⟨0, [], [], [], 62463⟩, ⟨0, [], [], [], 127999⟩, ⟨0, [], [], [], 259071⟩, ⟨0, [], [], [], 524287⟩, ⟨0, [], [], [], 1048575⟩, ⟨0, [], [], [], 2097151⟩] [(0, _), (1, _)] (by kernel_rfl) (by kernel_rfl) rfl ?_
                refine .det (B := []) rfl rfl (.inl rfl) .nil .nil rfl (RunB.lr (run_fieldAddr (.tmp rfl) fa55_0 (by first | exact Nat.zero_add _ | exact rfl))) ?_
                refine .det (B := []) rfl rfl (.inl rfl) (.cons rfl .nil) .nil rfl (RunB.lr (run_load1 (.tmp rfl) kd3 (by repeat (first | exact List.Mem.head _ | apply List.Mem.tail)) (by exact rfl))) ?_
                refine .det (B := []) rfl rfl (.inl rfl) .nil .nil rfl (RunB.lr (run_fieldAddr (.tmp rfl) fa24_0 (by first | exact Nat.zero_add _ | exact rfl))) ?_
                refine .det (B := []) rfl rfl (.inl rfl) (.cons rfl .nil) .nil rfl (RunB.lr (run_load1 (.tmp rfl) kd3 (by repeat (first | exact List.Mem.head _ | apply List.Mem.tail)) (by exact rfl))) ?_
                refine .det (B := []) rfl rfl (.inl rfl) .nil .nil rfl (RunB.lr (run_call1 cb63 (.cons (.tmp rfl) (.cons .const (.cons (.tmp rfl) .nil))) (fun w _ => (rinK _ _ _ w).as (congrArg Value.bool h0)))) ?_
                refine .det (B := []) rfl rfl (.inl rfl) .nil .nil rfl (RunB.lr (run_not (.tmp rfl) (by first | exact Bool.not_true | exact Bool.not_false | exact rfl))) ?_
                refine .det (B := []) rfl rfl (.inl rfl) .nil .nil rfl (RunB.lr (run_move (.tmp rfl))) ?_
                refine .det (B := []) rfl rfl (.inr ⟨_, _, _, rfl, rfl, rfl⟩) .nil .nil rfl (RunB.lr (run_move (.tmp rfl))) ?_
                refine .det (B := []) rfl rfl (.inr ⟨_, _, _, rfl, rfl, rfl⟩) .nil .nil rfl (RunB.lr (run_gtr (.tmp rfl) .const (by first | exact decide_eq_true (by omega) | exact decide_eq_false (by omega) | exact rfl))) ?_
                refine .det (B := []) rfl rfl (.inr ⟨_, _, _, rfl, rfl, rfl⟩) .nil .nil rfl (RunB.lr (run_move (.tmp rfl))) ?_
                refine .skip rfl rfl ⟨_, _, _, _, rfl, rfl, rfl, rfl⟩ rfl (by first | rfl | kernel_rfl) ?_
                refine .skip rfl rfl ⟨_, _, _, _, rfl, rfl, rfl, rfl⟩ rfl (by first | rfl | kernel_rfl) ?_
                refine .skip rfl rfl ⟨_, _, _, _, rfl, rfl, rfl, rfl⟩ rfl (by first | rfl | kernel_rfl) ?_
                refine .skip rfl rfl ⟨_, _, _, _, rfl, rfl, rfl, rfl⟩ rfl (by first | rfl | kernel_rfl) ?_
                refine .skip rfl rfl ⟨_, _, _, _, rfl, rfl, rfl, rfl⟩ rfl (by first | rfl | kernel_rfl) ?_
                refine .skip rfl rfl ⟨_, _, _, _, rfl, rfl, rfl, rfl⟩ rfl (by first | rfl | kernel_rfl) ?_
                refine .skip rfl rfl ⟨_, _, _, _, rfl, rfl, rfl, rfl⟩ rfl (by first | rfl | kernel_rfl) ?_
                refine .skip rfl rfl ⟨_, _, _, _, rfl, rfl, rfl, rfl⟩ rfl (by first | rfl | kernel_rfl) ?_
                refine .skip rfl rfl ⟨_, _, _, _, rfl, rfl, rfl, rfl⟩ rfl (by first | rfl | kernel_rfl) ?_
                refine .skip rfl rfl ⟨_, _, _, _, rfl, rfl, rfl, rfl⟩ rfl (by first | rfl | kernel_rfl) ?_
                refine .det (B := []) rfl rfl (.inr ⟨_, _, _, rfl, rfl, rfl⟩) .nil .nil rfl (RunB.lr (by first | exact run_pick_true (.tmp rfl) (.tmp rfl) | exact run_pick_false (.tmp rfl) .const)) ?_
                refine .det (B := []) rfl rfl (.inl rfl) .nil .nil rfl (RunB.lr (by first | exact run_pick_true (.tmp rfl) .const | exact run_pick_false (.tmp rfl) (.tmp rfl))) ?_
                refine chain_nil (ts := [0, 1]) (.cons rfl (.cons rfl .nil)) (by decide) ?_
                refine xw_then ?_
                refine cw_cond_false (.tmp rfl) ?_
                have hf : pitB p = true → fineAt g k := fun hb p2 h2 => by rw [hpk] at h2; cases h2; exact ⟨hin, fun q2 h3 _ => absurd h3 hk0, hb⟩
                cases s1 : withinB p.hard 1000 <;> cases s2 : withinB p.sand 20 <;> cases s3 : withinB p.silt 20 <;> cases s4 : withinB p.clay 20
                case true.true.true.true =>
                  refine cw_skip ?_
                  refine xw_then ?_
                  refine cw_seq ?_
                  refine cw_region ?_
                  refine lstepB rfl rfl rfl (run_fieldAddr (.tmp rfl) fa55_1 (by first | exact Nat.zero_add _ | exact rfl)) ?_
                  refine lstepB rfl rfl rfl (run_loadN (.tmp rfl) kd28 sz28 (by repeat (first | exact List.Mem.head _ | apply List.Mem.tail)) (by repeat (first | exact Sub.done | apply Sub.take | apply Sub.skip))) ?_
                  refine lstepB rfl rfl rfl (run_call1 cb76 (.cons (.tmp rfl) (.cons .const (.cons .const .nil))) (fun w _ => (rspanK ⟨_, _⟩ _ _ w).as (congrArg Value.bool s1))) ?_
                  refine lstepB rfl rfl rfl (run_not (.tmp rfl) (by first | exact Bool.not_true | exact Bool.not_false | exact rfl)) ?_
                  refine lstepB rfl rfl rfl (run_move (.tmp rfl)) ?_
                  first | (refine lyes rfl rfl rfl rfl ?_; refine gstepB rfl rfl (run_fieldAddr (.tmp rfl) fa55_2 (by first | exact Nat.zero_add _ | exact rfl)) ?_) | refine lskip rfl rfl rfl rfl rfl rfl rfl ?_
                  first | (refine lyes rfl rfl rfl rfl ?_; refine gstepB rfl rfl (run_loadN (.tmp rfl) kd28 sz28 (by repeat (first | exact List.Mem.head _ | apply List.Mem.tail)) (by repeat (first | exact Sub.done | apply Sub.take | apply Sub.skip))) ?_) | refine lskip rfl rfl rfl rfl rfl rfl rfl ?_
                  first | (refine lyes rfl rfl rfl rfl ?_; refine gstepB rfl rfl (run_call1 cb76 (.cons (.tmp rfl) (.cons .const (.cons .const .nil))) (fun w _ => (rspanK ⟨_, _⟩ _ _ w).as (congrArg Value.bool s2))) ?_) | refine lskip rfl rfl rfl rfl rfl rfl rfl ?_
                  first | (refine lyes rfl rfl rfl rfl ?_; refine gstepB rfl rfl (run_not (.tmp rfl) (by first | exact Bool.not_true | exact Bool.not_false | exact rfl)) ?_) | refine lskip rfl rfl rfl rfl rfl rfl rfl ?_
                  refine lstepB rfl rfl rfl (by first | exact run_pick_true (.tmp rfl) .const | exact run_pick_false (.tmp rfl) (.tmp rfl)) ?_
                  refine lstepB rfl rfl rfl (run_move (.tmp rfl)) ?_
                  first | (refine lyes rfl rfl rfl rfl ?_; refine gstepB rfl rfl (run_fieldAddr (.tmp rfl) fa55_3 (by first | exact Nat.zero_add _ | exact rfl)) ?_) | refine lskip rfl rfl rfl rfl rfl rfl rfl ?_
                  first | (refine lyes rfl rfl rfl rfl ?_; refine gstepB rfl rfl (run_loadN (.tmp rfl) kd28 sz28 (by repeat (first | exact List.Mem.head _ | apply List.Mem.tail)) (by repeat (first | exact Sub.done | apply Sub.take | apply Sub.skip))) ?_) | refine lskip rfl rfl rfl rfl rfl rfl rfl ?_
                  first | (refine lyes rfl rfl rfl rfl ?_; refine gstepB rfl rfl (run_call1 cb76 (.cons (.tmp rfl) (.cons .const (.cons .const .nil))) (fun w _ => (rspanK ⟨_, _⟩ _ _ w).as (congrArg Value.bool s3))) ?_) | refine lskip rfl rfl rfl rfl rfl rfl rfl ?_
                  first | (refine lyes rfl rfl rfl rfl ?_; refine gstepB rfl rfl (run_not (.tmp rfl) (by first | exact Bool.not_true | exact Bool.not_false | exact rfl)) ?_) | refine lskip rfl rfl rfl rfl rfl rfl rfl ?_
                  refine lstepB rfl rfl rfl (by first | exact run_pick_true (.tmp rfl) .const | exact run_pick_false (.tmp rfl) (.tmp rfl)) ?_
                  refine lstepB rfl rfl rfl (run_move (.tmp rfl)) ?_
                  first | (refine lyes rfl rfl rfl rfl ?_; refine gstepB rfl rfl (run_fieldAddr (.tmp rfl) fa55_4 (by first | exact Nat.zero_add _ | exact rfl)) ?_) | refine lskip rfl rfl rfl rfl rfl rfl rfl ?_
                  first | (refine lyes rfl rfl rfl rfl ?_; refine gstepB rfl rfl (run_loadN (.tmp rfl) kd28 sz28 (by repeat (first | exact List.Mem.head _ | apply List.Mem.tail)) (by repeat (first | exact Sub.done | apply Sub.take | apply Sub.skip))) ?_) | refine lskip rfl rfl rfl rfl rfl rfl rfl ?_
                  first | (refine lyes rfl rfl rfl rfl ?_; refine gstepB rfl rfl (run_call1 cb76 (.cons (.tmp rfl) (.cons .const (.cons .const .nil))) (fun w _ => (rspanK ⟨_, _⟩ _ _ w).as (congrArg Value.bool s4))) ?_) | refine lskip rfl rfl rfl rfl rfl rfl rfl ?_
                  first | (refine lyes rfl rfl rfl rfl ?_; refine gstepB rfl rfl (run_not (.tmp rfl) (by first | exact Bool.not_true | exact Bool.not_false | exact rfl)) ?_) | refine lskip rfl rfl rfl rfl rfl rfl rfl ?_
                  refine lstepB rfl rfl rfl (by first | exact run_pick_true (.tmp rfl) .const | exact run_pick_false (.tmp rfl) (.tmp rfl)) ?_
                  refine lnil ?_
                  refine xw_then ?_
                  refine cw_cond_false (.tmp rfl) ?_
                  refine cw_skip ?_
                  refine xw_in ?_
                  refine xw_then ?_
                  refine cw_region ?_
                  refine lstepB rfl rfl rfl (run_move (.tmp rfl)) ?_
                  refine lstepB rfl rfl rfl (run_add (.tmp rfl) .const (by first | exact IntWalk.i64_in _ (by omega) | exact rfl)) ?_
                  refine lstepB rfl rfl rfl (run_assign (.tmp rfl)) ?_
                  refine lnil ?_
                  exact xw_round (k + 1) ⟨by omega, fun j hj => by rcases Nat.lt_succ_iff_lt_or_eq.1 hj with h | rfl; exact hk.2 j h; exact hf (by simp [pitB, s1, s2, s3, s4])⟩ (by omega) (by repeat (first | exact Less.nil | refine Less.cons rfl ?_)) (by repeat (first | exact Pick.nil | (apply Pick.cons; focus (repeat (first | exact Del.here | apply Del.there)))))
                all_goals
                  refine cw_skip ?_
                  refine xw_then ?_
                  refine cw_seq ?_
                  refine cw_region ?_
                  refine lstepB rfl rfl rfl (run_fieldAddr (.tmp rfl) fa55_1 (by first | exact Nat.zero_add _ | exact rfl)) ?_
                  refine lstepB rfl rfl rfl (run_loadN (.tmp rfl) kd28 sz28 (by repeat (first | exact List.Mem.head _ | apply List.Mem.tail)) (by repeat (first | exact Sub.done | apply Sub.take | apply Sub.skip))) ?_
                  refine lstepB rfl rfl rfl (run_call1 cb76 (.cons (.tmp rfl) (.cons .const (.cons .const .nil))) (fun w _ => (rspanK ⟨_, _⟩ _ _ w).as (congrArg Value.bool s1))) ?_
                  refine lstepB rfl rfl rfl (run_not (.tmp rfl) (by first | exact Bool.not_true | exact Bool.not_false | exact rfl)) ?_
                  refine lstepB rfl rfl rfl (run_move (.tmp rfl)) ?_
                  first | (refine lyes rfl rfl rfl rfl ?_; refine gstepB rfl rfl (run_fieldAddr (.tmp rfl) fa55_2 (by first | exact Nat.zero_add _ | exact rfl)) ?_) | refine lskip rfl rfl rfl rfl rfl rfl rfl ?_
                  first | (refine lyes rfl rfl rfl rfl ?_; refine gstepB rfl rfl (run_loadN (.tmp rfl) kd28 sz28 (by repeat (first | exact List.Mem.head _ | apply List.Mem.tail)) (by repeat (first | exact Sub.done | apply Sub.take | apply Sub.skip))) ?_) | refine lskip rfl rfl rfl rfl rfl rfl rfl ?_
                  first | (refine lyes rfl rfl rfl rfl ?_; refine gstepB rfl rfl (run_call1 cb76 (.cons (.tmp rfl) (.cons .const (.cons .const .nil))) (fun w _ => (rspanK ⟨_, _⟩ _ _ w).as (congrArg Value.bool s2))) ?_) | refine lskip rfl rfl rfl rfl rfl rfl rfl ?_
                  first | (refine lyes rfl rfl rfl rfl ?_; refine gstepB rfl rfl (run_not (.tmp rfl) (by first | exact Bool.not_true | exact Bool.not_false | exact rfl)) ?_) | refine lskip rfl rfl rfl rfl rfl rfl rfl ?_
                  refine lstepB rfl rfl rfl (by first | exact run_pick_true (.tmp rfl) .const | exact run_pick_false (.tmp rfl) (.tmp rfl)) ?_
                  refine lstepB rfl rfl rfl (run_move (.tmp rfl)) ?_
                  first | (refine lyes rfl rfl rfl rfl ?_; refine gstepB rfl rfl (run_fieldAddr (.tmp rfl) fa55_3 (by first | exact Nat.zero_add _ | exact rfl)) ?_) | refine lskip rfl rfl rfl rfl rfl rfl rfl ?_
                  first | (refine lyes rfl rfl rfl rfl ?_; refine gstepB rfl rfl (run_loadN (.tmp rfl) kd28 sz28 (by repeat (first | exact List.Mem.head _ | apply List.Mem.tail)) (by repeat (first | exact Sub.done | apply Sub.take | apply Sub.skip))) ?_) | refine lskip rfl rfl rfl rfl rfl rfl rfl ?_
                  first | (refine lyes rfl rfl rfl rfl ?_; refine gstepB rfl rfl (run_call1 cb76 (.cons (.tmp rfl) (.cons .const (.cons .const .nil))) (fun w _ => (rspanK ⟨_, _⟩ _ _ w).as (congrArg Value.bool s3))) ?_) | refine lskip rfl rfl rfl rfl rfl rfl rfl ?_
                  first | (refine lyes rfl rfl rfl rfl ?_; refine gstepB rfl rfl (run_not (.tmp rfl) (by first | exact Bool.not_true | exact Bool.not_false | exact rfl)) ?_) | refine lskip rfl rfl rfl rfl rfl rfl rfl ?_
                  refine lstepB rfl rfl rfl (by first | exact run_pick_true (.tmp rfl) .const | exact run_pick_false (.tmp rfl) (.tmp rfl)) ?_
                  refine lstepB rfl rfl rfl (run_move (.tmp rfl)) ?_
                  first | (refine lyes rfl rfl rfl rfl ?_; refine gstepB rfl rfl (run_fieldAddr (.tmp rfl) fa55_4 (by first | exact Nat.zero_add _ | exact rfl)) ?_) | refine lskip rfl rfl rfl rfl rfl rfl rfl ?_
                  first | (refine lyes rfl rfl rfl rfl ?_; refine gstepB rfl rfl (run_loadN (.tmp rfl) kd28 sz28 (by repeat (first | exact List.Mem.head _ | apply List.Mem.tail)) (by repeat (first | exact Sub.done | apply Sub.take | apply Sub.skip))) ?_) | refine lskip rfl rfl rfl rfl rfl rfl rfl ?_
                  first | (refine lyes rfl rfl rfl rfl ?_; refine gstepB rfl rfl (run_call1 cb76 (.cons (.tmp rfl) (.cons .const (.cons .const .nil))) (fun w _ => (rspanK ⟨_, _⟩ _ _ w).as (congrArg Value.bool s4))) ?_) | refine lskip rfl rfl rfl rfl rfl rfl rfl ?_
                  first | (refine lyes rfl rfl rfl rfl ?_; refine gstepB rfl rfl (run_not (.tmp rfl) (by first | exact Bool.not_true | exact Bool.not_false | exact rfl)) ?_) | refine lskip rfl rfl rfl rfl rfl rfl rfl ?_
                  refine lstepB rfl rfl rfl (by first | exact run_pick_true (.tmp rfl) .const | exact run_pick_false (.tmp rfl) (.tmp rfl)) ?_
                  refine lnil ?_
                  refine xw_then ?_
                  refine cw_cond_true (.tmp rfl) ?_
                  refine cw_seq ?_
                  refine cw_region ?_
                  refine lstepB rfl rfl rfl (run_assign .const) ?_
                  refine lnil ?_
                  refine xw_then ?_
                  refine cw_ret ?_
                  refine xw_in_ret ?_
                  refine xw_then_ret ?_
                  refine xw_then_ret ?_
                  refine xw_in_ret ?_
                  refine xw_then_ret ?_
                  refine xw_ret1 Try.results32 rfl (fun w hS => ⟨by rw [valid_not hpk (fun h => by have := h.1.2; simp [pitB, s1, s2, s3, s4] at this)], hS.kept⟩)
          ·
            obtain rfl : k = g.pits.length := by omega
            refine cw_exit ?_
            refine xw_then_exit ?_
            refine xw_then_exit ?_
            refine xw_in_exit ?_
            refine xw_then ?_
            refine cw_seq ?_
            refine cw_region ?_
            refine lstepB rfl rfl rfl (run_assign .const) ?_
            refine lnil ?_
            refine xw_then ?_
            refine cw_ret ?_
            refine xw_ret1 Try.results32 rfl (fun w hS => ⟨by rw [valid_fine h1 h2 h3 hb8 hk.2], hS.kept⟩)
end Go.Proofs.Ytfmbnobkenngaaa
namespace Go.Proofs.Ytfmbnobkenngaaa
open Go.RowKit En

def farB (g : GroundD) (n : Int) : Bool := decide ((30 : Int) < (g.pits.length : Int)) || (decide (n ≤ g.long) && validB g)
set_option maxRecDepth 100000 in
set_option maxHeartbeats 4000000 in
theorem farK (g : GroundD) (n : Int) (pa : Option Addr) (pc : Nat) (w : World) (hp : PitsAt w pa g.pits) : Gives Try.prog 11 [.agg [.int .i64 g.long, .int .i64 g.rise, .int .i64 g.change, .slice pa g.pits.length pc].toArray, .int .i64 n] w (.bool (farB g n)) := by
  refine .mk <| enter (n := 19) Try.func11 rfl rfl rfl (by repeat (first | exact Fill.nil | apply Fill.cons)) ?_
  by_cases h1 : (30 : Int) < (g.pits.length : Int)
  ·
    refine cw_seq ?_
    refine cw_region ?_
    refine lstep rfl rfl rfl (run_boxN (.tmp rfl)) ?_
    intro b2 _
    refine lstepB rfl rfl rfl (run_assign .const) ?_
    refine lnil ?_
    refine xw_then ?_
    refine cw_seq ?_
    refine cw_region ?_
    refine lstepB rfl rfl rfl (run_fieldAddr (.tmp rfl) fa24_3 (by first | exact Nat.zero_add _ | exact rfl)) ?_
    refine lstepB rfl rfl rfl (run_load1 (.tmp rfl) kd22 (by repeat (first | exact List.Mem.head _ | apply List.Mem.tail)) (by exact rfl)) ?_
    refine lstepB rfl rfl rfl (run_len (.tmp rfl) sl22) ?_
    refine lstepB rfl rfl rfl (run_gtr (.tmp rfl) .const (decide_eq_true h1)) ?_
    refine lstepB rfl rfl rfl (run_move (.tmp rfl)) ?_
    refine lskip rfl rfl rfl rfl rfl rfl rfl ?_
    refine lskip rfl rfl rfl rfl rfl rfl rfl ?_
    refine lskip rfl rfl rfl rfl rfl rfl rfl ?_
    refine lskip rfl rfl rfl rfl rfl rfl rfl ?_
    refine lskip rfl rfl rfl rfl rfl rfl rfl ?_
    refine lskip rfl rfl rfl rfl rfl rfl rfl ?_
    refine lskip rfl rfl rfl rfl rfl rfl rfl ?_
    refine lskip rfl rfl rfl rfl rfl rfl rfl ?_
    refine lstepB rfl rfl rfl (by first | exact run_pick_true (.tmp rfl) .const | exact run_pick_false (.tmp rfl) (.tmp rfl)) ?_
    refine lstepB rfl rfl rfl (run_assign (.tmp rfl)) ?_
    refine lnil ?_
    refine xw_then ?_
    refine cw_ret ?_
    refine xw_ret1 Try.results11 rfl (fun w hS => ⟨by simp [farB, h1], hS.kept⟩)
  ·
    by_cases h2 : n ≤ g.long
    ·
      refine cw_seq ?_
      refine cw_region ?_
      refine lstep rfl rfl rfl (run_boxN (.tmp rfl)) ?_
      intro b2 _
      refine lstepB rfl rfl rfl (run_assign .const) ?_
      refine lnil ?_
      refine xw_then ?_
      refine cw_seq ?_
      refine cw_region ?_
      refine lstepB rfl rfl rfl (run_fieldAddr (.tmp rfl) fa24_3 (by first | exact Nat.zero_add _ | exact rfl)) ?_
      refine lstepB rfl rfl rfl (run_load1 (.tmp rfl) kd22 (by repeat (first | exact List.Mem.head _ | apply List.Mem.tail)) (by exact rfl)) ?_
      refine lstepB rfl rfl rfl (run_len (.tmp rfl) sl22) ?_
      refine lstepB rfl rfl rfl (run_gtr (.tmp rfl) .const (decide_eq_false h1)) ?_
      refine lstepB rfl rfl rfl (run_move (.tmp rfl)) ?_
      refine lyes rfl rfl rfl rfl ?_
      refine gstepB rfl rfl (run_fieldAddr (.tmp rfl) fa24_0 (by first | exact Nat.zero_add _ | exact rfl)) ?_
      refine lyes rfl rfl rfl rfl ?_
      refine gstepB rfl rfl (run_load1 (.tmp rfl) kd3 (by repeat (first | exact List.Mem.head _ | apply List.Mem.tail)) (by exact rfl)) ?_
      refine lyes rfl rfl rfl rfl ?_
      refine gstepB rfl rfl (run_move (.tmp rfl)) ?_
      refine lyes rfl rfl rfl rfl ?_
      refine gstepB rfl rfl (run_geq (.tmp rfl) (.tmp rfl) (decide_eq_true h2)) ?_
      refine lyes rfl rfl rfl rfl ?_
      refine gstepB rfl rfl (run_move (.tmp rfl)) ?_
      refine lyes rfl rfl rfl rfl ?_
      refine gstepB rfl rfl (run_loadN (.tmp rfl) kd24 sz24 (by repeat (first | exact List.Mem.head _ | apply List.Mem.tail)) (by repeat (first | exact Sub.done | apply Sub.take | apply Sub.skip))) ?_
      refine lyes rfl rfl rfl rfl ?_
      refine gstepB rfl rfl (run_call1 cb32 (.cons (.tmp rfl) .nil) (fun w2 hS => rGroundK g pa pc w2 (by omega) (hp.kept hS.kept))) ?_
      refine lyes rfl rfl rfl rfl ?_
      refine gstepB rfl rfl (by first | exact run_pick_true (.tmp rfl) (.tmp rfl) | exact run_pick_false (.tmp rfl) .const) ?_
      refine lstepB rfl rfl rfl (by first | exact run_pick_true (.tmp rfl) .const | exact run_pick_false (.tmp rfl) (.tmp rfl)) ?_
      refine lstepB rfl rfl rfl (run_assign (.tmp rfl)) ?_
      refine lnil ?_
      refine xw_then ?_
      refine cw_ret ?_
      refine xw_ret1 Try.results11 rfl (fun w hS => ⟨by simp [farB, h1, h2], hS.kept⟩)
    ·
      refine cw_seq ?_
      refine cw_region ?_
      refine lstep rfl rfl rfl (run_boxN (.tmp rfl)) ?_
      intro b2 _
      refine lstepB rfl rfl rfl (run_assign .const) ?_
      refine lnil ?_
      refine xw_then ?_
      refine cw_seq ?_
      refine cw_region ?_
      refine lstepB rfl rfl rfl (run_fieldAddr (.tmp rfl) fa24_3 (by first | exact Nat.zero_add _ | exact rfl)) ?_
      refine lstepB rfl rfl rfl (run_load1 (.tmp rfl) kd22 (by repeat (first | exact List.Mem.head _ | apply List.Mem.tail)) (by exact rfl)) ?_
      refine lstepB rfl rfl rfl (run_len (.tmp rfl) sl22) ?_
      refine lstepB rfl rfl rfl (run_gtr (.tmp rfl) .const (decide_eq_false h1)) ?_
      refine lstepB rfl rfl rfl (run_move (.tmp rfl)) ?_
      refine lyes rfl rfl rfl rfl ?_
      refine gstepB rfl rfl (run_fieldAddr (.tmp rfl) fa24_0 (by first | exact Nat.zero_add _ | exact rfl)) ?_
      refine lyes rfl rfl rfl rfl ?_
      refine gstepB rfl rfl (run_load1 (.tmp rfl) kd3 (by repeat (first | exact List.Mem.head _ | apply List.Mem.tail)) (by exact rfl)) ?_
      refine lyes rfl rfl rfl rfl ?_
      refine gstepB rfl rfl (run_move (.tmp rfl)) ?_
      refine lyes rfl rfl rfl rfl ?_
      refine gstepB rfl rfl (run_geq (.tmp rfl) (.tmp rfl) (decide_eq_false h2)) ?_
      refine lyes rfl rfl rfl rfl ?_
      refine gstepB rfl rfl (run_move (.tmp rfl)) ?_
      refine lskip rfl rfl rfl rfl rfl rfl rfl ?_
      refine lskip rfl rfl rfl rfl rfl rfl rfl ?_
      refine lyes rfl rfl rfl rfl ?_
      refine gstepB rfl rfl (by first | exact run_pick_true (.tmp rfl) (.tmp rfl) | exact run_pick_false (.tmp rfl) .const) ?_
      refine lstepB rfl rfl rfl (by first | exact run_pick_true (.tmp rfl) .const | exact run_pick_false (.tmp rfl) (.tmp rfl)) ?_
      refine lstepB rfl rfl rfl (run_assign (.tmp rfl)) ?_
      refine lnil ?_
      refine xw_then ?_
      refine cw_ret ?_
      refine xw_ret1 Try.results11 rfl (fun w hS => ⟨by simp [farB, h1, h2], hS.kept⟩)
end Go.Proofs.Ytfmbnobkenngaaa
namespace Go.Proofs.Ytfmbnobkenngaaa
open Go.ChangeShapes Go.WideShapes Go.ChangeAt Go.RowKit Go.Joins Go.Deep

theorem cellsOf3 : Try.prog.cellsOf 3 = 1 := by kernel_rfl
theorem cellsOf24 : Try.prog.cellsOf 24 = 4 := by kernel_rfl
theorem cellsOf28 : Try.prog.cellsOf 28 = 2 := by kernel_rfl
theorem cellsOf55 : Try.prog.cellsOf 55 = 9 := by kernel_rfl
theorem add_none (b o k : Nat) : (⟨b, o, none⟩ : Addr).add k = ⟨b, o + k, none⟩ := by
  unfold Addr.add
  split
  · rename_i h; rw [h]; rfl
  · rfl
theorem add_zero' (a : Addr) : a.add 0 = a := by simp [Addr.add]
theorem list2 {α : Type} {l : List α} (h : l.length = 2) : ∃ a b, l = [a, b] := by
  match l, h with
  | [a, b], _ => exact ⟨a, b, rfl⟩
theorem list9 {α : Type} {l : List α} (h : l.length = 9) : ∃ a b c d e f g i j, l = [a, b, c, d, e, f, g, i, j] := by
  match l, h with
  | [a, b, c, d, e, f, g, i, j], _ => exact ⟨a, b, c, d, e, f, g, i, j, rfl⟩
section
variable {H : Type} {enc : TypeId × Value → H} {w : World} {base : Nat} {spare : Nat → Bool} {held : Bool} {fuel : Nat} {x : DataW H × List MemPlace}
set_option maxRecDepth 100000 in
theorem trod_span {cs : List Value} (h : DataW.trod enc Try.prog w base spare held fuel 28 cs = some x) : ∃ a b : Int, cs = [.int .i64 a, .int .i64 b] := by
  obtain ⟨xs, n, _, _, hl, hx, hf⟩ := DataW.trod_struct Try.underlying28 h
  rw [cellsOf28] at hl
  obtain ⟨u, v, rfl⟩ := list2 hl
  · have h0 : DataW.trod enc Try.prog w base spare held n 3 ([u, v].take (Try.prog.cellsOf 3)) = xs[0]? := hf 0 _ rfl
    have h1 : DataW.trod enc Try.prog w base spare held n 3 ([v].take (Try.prog.cellsOf 3)) = xs[1]? := hf 1 _ rfl
    rw [cellsOf3] at h0 h1
    replace h0 : DataW.trod enc Try.prog w base spare held n 3 [u] = xs[0]? := h0
    replace h1 : DataW.trod enc Try.prog w base spare held n 3 [v] = xs[1]? := h1
    obtain ⟨y0, e0⟩ : ∃ y, xs[0]? = some y := ⟨xs[0]'(by rw [hx]; decide), List.getElem?_eq_getElem _⟩
    obtain ⟨y1, e1⟩ : ∃ y, xs[1]? = some y := ⟨xs[1]'(by rw [hx]; decide), List.getElem?_eq_getElem _⟩
    rw [e0] at h0
    rw [e1] at h1
    obtain ⟨a, ea, _⟩ := DataW.trod_int Try.underlying3 h0
    obtain ⟨b, eb, _⟩ := DataW.trod_int Try.underlying3 h1
    simp at ea eb
    exact ⟨a, b, by rw [ea, eb]⟩
set_option maxRecDepth 100000 in
set_option maxHeartbeats 1000000 in
theorem trod_pit {cs : List Value} (h : DataW.trod enc Try.prog w base spare held fuel 55 cs = some x) : ∃ p : PitD, cs = pitC p := by
  obtain ⟨xs, n, _, _, hl, hx, hf⟩ := DataW.trod_struct Try.underlying55 h
  rw [cellsOf55] at hl
  obtain ⟨u0, u1, u2, u3, u4, u5, u6, u7, u8, rfl⟩ := list9 hl
  have h0 : DataW.trod enc Try.prog w base spare held n 3 ([u0, u1, u2, u3, u4, u5, u6, u7, u8].take (Try.prog.cellsOf 3)) = xs[0]? := hf 0 _ rfl
  have h1 : DataW.trod enc Try.prog w base spare held n 28 ([u1, u2, u3, u4, u5, u6, u7, u8].take (Try.prog.cellsOf 28)) = xs[1]? := hf 1 _ rfl
  have h2 : DataW.trod enc Try.prog w base spare held n 28 ([u3, u4, u5, u6, u7, u8].take (Try.prog.cellsOf 28)) = xs[2]? := hf 2 _ rfl
  have h3 : DataW.trod enc Try.prog w base spare held n 28 ([u5, u6, u7, u8].take (Try.prog.cellsOf 28)) = xs[3]? := hf 3 _ rfl
  have h4 : DataW.trod enc Try.prog w base spare held n 28 ([u7, u8].take (Try.prog.cellsOf 28)) = xs[4]? := hf 4 _ rfl
  rw [cellsOf3] at h0
  rw [cellsOf28] at h1
  rw [cellsOf28] at h2
  rw [cellsOf28] at h3
  rw [cellsOf28] at h4
  replace h0 : DataW.trod enc Try.prog w base spare held n 3 [u0] = xs[0]? := h0
  replace h1 : DataW.trod enc Try.prog w base spare held n 28 [u1, u2] = xs[1]? := h1
  replace h2 : DataW.trod enc Try.prog w base spare held n 28 [u3, u4] = xs[2]? := h2
  replace h3 : DataW.trod enc Try.prog w base spare held n 28 [u5, u6] = xs[3]? := h3
  replace h4 : DataW.trod enc Try.prog w base spare held n 28 [u7, u8] = xs[4]? := h4
  obtain ⟨y0, e0⟩ : ∃ y, xs[0]? = some y := ⟨xs[0]'(by rw [hx]; decide), List.getElem?_eq_getElem _⟩
  rw [e0] at h0
  obtain ⟨y1, e1⟩ : ∃ y, xs[1]? = some y := ⟨xs[1]'(by rw [hx]; decide), List.getElem?_eq_getElem _⟩
  rw [e1] at h1
  obtain ⟨y2, e2⟩ : ∃ y, xs[2]? = some y := ⟨xs[2]'(by rw [hx]; decide), List.getElem?_eq_getElem _⟩
  rw [e2] at h2
  obtain ⟨y3, e3⟩ : ∃ y, xs[3]? = some y := ⟨xs[3]'(by rw [hx]; decide), List.getElem?_eq_getElem _⟩
  rw [e3] at h3
  obtain ⟨y4, e4⟩ : ∃ y, xs[4]? = some y := ⟨xs[4]'(by rw [hx]; decide), List.getElem?_eq_getElem _⟩
  rw [e4] at h4
  obtain ⟨a, ea, _⟩ := DataW.trod_int Try.underlying3 h0
  obtain ⟨l1, g1, q1⟩ := trod_span h1
  obtain ⟨l2, g2, q2⟩ := trod_span h2
  obtain ⟨l3, g3, q3⟩ := trod_span h3
  obtain ⟨l4, g4, q4⟩ := trod_span h4
  simp at ea q1 q2 q3 q4
  exact ⟨⟨a, ⟨l1, g1⟩, ⟨l2, g2⟩, ⟨l3, g3⟩, ⟨l4, g4⟩⟩, by rw [ea, q1.1, q1.2, q2.1, q2.2, q3.1, q3.2, q4.1, q4.2]⟩
/-- A list out of what each number has. -/
theorem listOf {α : Type} (n : Nat) (R : Nat → α → Prop) (h : ∀ i, i < n → ∃ a, R i a) : ∃ l : List α, l.length = n ∧ ∀ i a, l[i]? = some a → R i a := by
  induction n with
  | zero => exact ⟨[], rfl, fun i a h => by simp at h⟩
  | succ n ih =>
    obtain ⟨l, hl, hR⟩ := ih (fun i hi => h i (by omega))
    obtain ⟨a, ha⟩ := h n (by omega)
    refine ⟨l ++ [a], by simp [hl], fun i b hb => ?_⟩
    by_cases hi : i < l.length
    · rw [List.getElem?_append_left hi] at hb; exact hR i b hb
    · rw [List.getElem?_append_right (by omega)] at hb
      have : i - l.length = 0 := by
        have := (List.getElem?_eq_some_iff.1 hb).1
        simp at this; omega
      rw [this] at hb
      simp at hb
      subst hb
      rw [show i = n by omega]; exact ha

theorem cells_spot {a : Addr} {n : Nat} {cs : List Value} (h : w.cells? base (a.add 0) n = some cs) (hn : 0 < n) : a.spot = none := by
  obtain ⟨_, hl, hc⟩ := World.cells?_some h
  have h1 := hc 0 hn
  rw [add_zero', add_zero', List.getElem?_eq_getElem (by omega)] at h1
  obtain ⟨b, o, s⟩ := a
  cases s with
  | none => rfl
  | some q =>
    exfalso
    simp only [World.cell?] at h1
    split at h1 <;> simp at h1
theorem cells_at {b o k n : Nat} {cs : List Value} (h : w.cells? base ((⟨b, o, none⟩ : Addr).add k) n = some cs) (i : Nat) (hi : i < n) (v : Value) (hv : cs[i]? = some v) : b < w.heap.size ∧ w.cell? ⟨b, o + k + i, none⟩ = some v := by
  obtain ⟨_, hl, hc⟩ := World.cells?_some h
  have h1 := hc i hi
  rw [hv, add_none, add_none] at h1
  exact ⟨World.block_lt_of_cell? w _ h1, h1⟩

set_option maxRecDepth 100000 in
theorem trod_pits {cs : List Value} (h : DataW.trod enc Try.prog w base (fun _ => true) held fuel 22 cs = some x) : ∃ (pa : Option Addr) (ps : List PitD) (c : Nat), cs = [.slice pa ps.length c] ∧ PitsAt w pa ps ∧ ps.length ≤ maxLen := by
  rcases open_slice Try.underlying22 h with ⟨rfl, _⟩ | ⟨a, len, cap, m, n, D, Pl, rfl, _, hle, hcap, hm, _, hel⟩
  · exact ⟨none, [], 0, rfl, fun i p h => by simp at h, by simp⟩
  · simp only [if_true] at hm
    have hlm : len ≤ m := by omega
    clear hm
    by_cases h0 : len = 0
    · subst h0
      exact ⟨some a, [], cap, rfl, fun i p h => by simp at h, by simp⟩
    have hs : a.spot = none := by
      obtain ⟨cs', hc, _⟩ := hel 0 (by omega)
      rw [cellsOf55, show 0 * 9 = 0 from rfl] at hc
      exact cells_spot hc (by omega)
    obtain ⟨b, o, s⟩ := a
    simp only at hs
    subst hs
    obtain ⟨l, hl, hR⟩ := listOf (α := PitD) len (fun i p => b < w.heap.size ∧ ∀ j v, (pitC p)[j]? = some v → w.cell? ⟨b, o + i * 9 + j, none⟩ = some v) (fun i hi => by
        obtain ⟨cs', hc, ht⟩ := hel i (by omega)
        obtain ⟨p, rfl⟩ := trod_pit ht
        rw [cellsOf55] at hc
        refine ⟨p, (cells_at hc 0 (by omega) _ rfl).1, fun j v hj => (cells_at hc j ?_ v hj).2⟩
        have := (List.getElem?_eq_some_iff.1 hj).1
        simpa using this)
    refine ⟨some ⟨b, o, none⟩, l, cap, by rw [hl], fun i r hr => ?_, by rw [hl]; exact Nat.le_trans hle hcap⟩
    rw [List.getElem?_map] at hr
    obtain ⟨p, hp, rfl⟩ := Option.map_eq_some_iff.1 hr
    exact ⟨b, o, rfl, hR i p hp⟩
set_option maxRecDepth 100000 in
theorem open_ground {r : Reach} {b0 : Nat} {v : Value} {d : DataW H} {ps : List MemPlace} (hv : Value.okWide Try.prog w r b0 24 v) (h : DataW.Trod enc Try.prog w base (fun _ => true) held 24 v d ps) :
    ∃ (g : GroundD) (pa : Option Addr) (pc : Nat), v = .agg #[.int .i64 g.long, .int .i64 g.rise, .int .i64 g.change, .slice pa g.pits.length pc] ∧ PitsAt w pa g.pits ∧ g.pits.length ≤ 9223372036854775807 := by
  obtain ⟨v0, v1, v2, v3, y0, y1, y2, y3, n, rfl, _, _, h0, h1, h2, h3⟩ := open_agg4 Try.underlying24 (by kernel_rfl) cellsOf24 hv (show DataW.Trod enc Try.prog w base (fun _ => true) held 24 v d ps from h)
  obtain ⟨a, ea, _⟩ := DataW.trod_int Try.underlying3 h0
  obtain ⟨b, eb, _⟩ := DataW.trod_int Try.underlying3 h1
  obtain ⟨c, ec, _⟩ := DataW.trod_int Try.underlying3 h2
  obtain ⟨pa, pl, pc, ep, hp, hpm⟩ := trod_pits h3
  simp at ea eb ec ep
  subst ea; subst eb; subst ec; subst ep
  unfold maxLen at hpm
  exact ⟨⟨a, b, c, pl⟩, pa, pc, rfl, hp, hpm⟩
end
end Go.Proofs.Ytfmbnobkenngaaa
