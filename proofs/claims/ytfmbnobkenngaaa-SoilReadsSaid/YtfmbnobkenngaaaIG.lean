/- Soil: the document's own Hard and Work. -/
import Derived.Test.YtfmbnobkenngaaaIF
import Derived.Test.YtfmbnobkenngaaaIB
import Derived.Test.YtfmbnobkenngaaaHG
namespace Go.Proofs.Ytfmbnobkenngaaa
open Go.RowKit En

theorem mixesAt_pos {g : GroundD} (vg : VG g) : lookOk g = true ↔ hardOk g = true ∧ 0 < (mixesAt g 0).length := by
  rw [lookOk, Bool.and_eq_true, soilsOk_mixes vg]
/-- What is wrong with a question. -/
def chkN (g : GroundD) (b : Bool) : Int := if validB g then (if b then (if lookOk g then 0 else 10) else 2) else 1
theorem chk_one (g : GroundD) (k : Int) : chkN g (inZ k 0 g.long) = errN (hardE g [k]) := by
  unfold chkN hardE checkE
  have e : [k].all (fun n => upToB n g.long) = inZ k 0 g.long := by simp [upToB, inZ]
  rw [e]
  cases validB g
  · rfl
  · cases inZ k 0 g.long
    · rfl
    · cases lookOk g <;> rfl
theorem chk_two (g : GroundD) (x y : Int) : chkN g ((inZ x 0 g.long && inZ y 0 g.long) && decide (x ≤ y)) = errN (workE g x y) := by
  unfold chkN workE checkE
  have e : [x, y].all (fun n => upToB n g.long) = (inZ x 0 g.long && inZ y 0 g.long) := by simp [upToB, inZ]
  rw [e]
  cases validB g
  · rfl
  · cases inZ x 0 g.long && inZ y 0 g.long
    · rfl
    · by_cases h : x ≤ y
      · have h2 : ¬ y < x := by omega
        simp only [h, h2, decide_true, Bool.and_self, if_true, if_false]
        cases lookOk g <;> rfl
      · have h2 : y < x := by omega
        simp only [h, h2, decide_false, Bool.and_false, if_true]
        rfl
theorem hardE_inv {g : GroundD} (h : validB g = true) {k : Int} (hk : hardE g [k] = none) : (0 ≤ k ∧ k ≤ g.long) ∧ lookOk g = true := by
  unfold hardE checkE at hk
  rw [if_pos h] at hk
  by_cases e : upToB k g.long = true
  · have : [k].all (fun n => upToB n g.long) = true := by simp [e]
    rw [if_pos this] at hk
    simp only [upToB, Bool.and_eq_true, decide_eq_true_eq] at e
    refine ⟨e, ?_⟩
    cases hl : lookOk g with
    | true => rfl
    | false => rw [hl] at hk; simp at hk
  · have : ¬ [k].all (fun n => upToB n g.long) = true := by simpa using e
    rw [if_neg this] at hk
    cases hk
theorem hardE_valid {g : GroundD} {k : Int} (hk : hardE g [k] = none) : validB g = true := by
  unfold hardE checkE at hk
  cases h : validB g with
  | true => rfl
  | false => rw [h] at hk; simp at hk
theorem workE_inv {g : GroundD} {x y : Int} (hk : workE g x y = none) : validB g = true ∧ (0 ≤ x ∧ x ≤ g.long) ∧ (0 ≤ y ∧ y ≤ g.long) ∧ x ≤ y ∧ lookOk g = true := by
  unfold workE checkE at hk
  cases h : validB g with
  | false => rw [h] at hk; simp at hk
  | true =>
    rw [h, if_pos rfl] at hk
    by_cases e : upToB x g.long = true ∧ upToB y g.long = true
    · have : [x, y].all (fun n => upToB n g.long) = true := by simp [e.1, e.2]
      rw [if_pos this] at hk
      simp only [upToB, Bool.and_eq_true, decide_eq_true_eq] at e
      by_cases hxy : y < x
      · rw [if_pos hxy] at hk; simp at hk
      · rw [if_neg hxy] at hk
        refine ⟨rfl, e.1, e.2, by omega, ?_⟩
        cases hl : lookOk g with
        | true => rfl
        | false => rw [hl] at hk; simp at hk
    · have : ¬ [x, y].all (fun n => upToB n g.long) = true := by simpa using e
      rw [if_neg this] at hk
      simp at hk
theorem checkE_ne {g : GroundD} {l : List Int} {n : Int} (h : checkE g l = some n) : n ≠ 0 := by
  unfold checkE at h
  split at h
  · split at h
    · cases h
    · cases h; decide
  · cases h; decide
theorem hardE_ne {g : GroundD} {l : List Int} {n : Int} (h : hardE g l = some n) : n ≠ 0 := by
  rcases hardE_cases g l with ⟨m, h1, h2⟩ | ⟨_, _, h2⟩ | ⟨_, _, h2⟩
  · rw [h] at h2; cases h2; exact checkE_ne h1
  · rw [h] at h2; cases h2; decide
  · rw [h] at h2; cases h2
theorem workE_ne {g : GroundD} {x y : Int} {n : Int} (h : workE g x y = some n) : n ≠ 0 := by
  rcases workE_cases g x y with ⟨m, h1, h2⟩ | ⟨_, _, h2⟩ | ⟨_, _, _, h2⟩ | ⟨_, _, _, h2⟩
  · rw [h] at h2; cases h2; exact checkE_ne h1
  · rw [h] at h2; cases h2; decide
  · rw [h] at h2; cases h2; decide
  · rw [h] at h2; cases h2
set_option maxRecDepth 100000 in
set_option maxHeartbeats 4000000 in
theorem truthZK (g : GroundD) (pa : Option Addr) (pc : Nat) (vg : VG g) (w : World) (hp : PitsAt w pa g.pits) : Gives Try.prog 71 [.agg [.int .i64 g.long, .int .i64 g.rise, .int .i64 g.change, .slice pa g.pits.length pc].toArray] w (.bool (lookOk g)) := by
  have hgm : g.pits.length ≤ 1000000 := by have := vg.v.len; omega
  have hn0 := placesN_pos vg.v
  refine .mk <| enter (n := 17) Try.func71 rfl rfl rfl (by repeat (first | exact Fill.nil | apply Fill.cons)) ?_
  refine cw_seq ?_
  refine cw_region ?_
  refine lstep rfl rfl rfl (run_boxN (.tmp rfl)) ?_
  intro b1 _
  refine lstepB rfl rfl rfl (run_assign .const) ?_
  refine lnil ?_
  refine xw_then ?_
  refine cw_seq ?_
  refine cw_region ?_
  refine lstepB rfl rfl rfl (run_loadN (.tmp rfl) kd24 sz24 (by repeat (first | exact List.Mem.head _ | apply List.Mem.tail)) (by repeat (first | exact Sub.done | apply Sub.take | apply Sub.skip))) ?_
  refine lstep rfl rfl rfl (LR.runs (R := []) (A := []) (lr_gives cb48 (.cons (.tmp rfl) .nil) (fun w2 hS => hardsK g pa pc w2 vg (hp.kept hS.kept))) (by repeat (first | exact Pick.nil | (apply Pick.cons; focus (repeat (first | exact Del.here | apply Del.there))))) (by repeat (first | exact Dels.nil | (apply Dels.cons; focus (repeat (first | exact Del.here | apply Del.there)))))) ?_
  intro q hq
  cases q
  case none =>
    dsimp only at hq ⊢
    have hno : lookOk g = false := by rw [lookOk, hq]; rfl
    rw [hno]
    refine lstepB rfl rfl rfl (run_move (.tmp rfl)) ?_
    refine lstepB rfl rfl rfl (run_extract (.tmp rfl) rfl) ?_
    refine lstepB rfl rfl rfl (run_extract (.tmp rfl) rfl) ?_
    refine lstepB rfl rfl rfl (run_assign (.tmp rfl)) ?_
    refine lstepB rfl rfl rfl (run_assign (.tmp rfl)) ?_
    refine lnil ?_
    refine xw_then ?_
    refine cw_seq ?_
    refine cw_region ?_
    refine lstepB rfl rfl rfl (run_move (.tmp rfl)) ?_
    refine lstepB rfl rfl rfl (run_move (.tmp rfl)) ?_
    refine lskip rfl rfl rfl rfl rfl rfl rfl ?_
    refine lskip rfl rfl rfl rfl rfl rfl rfl ?_
    refine lskip rfl rfl rfl rfl rfl rfl rfl ?_
    refine lskip rfl rfl rfl rfl rfl rfl rfl ?_
    refine lstepB rfl rfl rfl (by first | exact run_pick_true (.tmp rfl) (.tmp rfl) | exact run_pick_false (.tmp rfl) .const) ?_
    refine lstepB rfl rfl rfl (run_assign (.tmp rfl)) ?_
    refine lnil ?_
    refine xw_then ?_
    refine cw_ret ?_
    refine xw_ret1 Try.results71 rfl (fun w hS => ⟨rfl, hS.kept⟩)
  case some q =>
    obtain ⟨gH, cH, rH⟩ := q
    dsimp only at hq ⊢
    refine lstepB rfl rfl rfl (run_move (.tmp rfl)) ?_
    refine lstepB rfl rfl rfl (run_extract (.tmp rfl) rfl) ?_
    refine lstepB rfl rfl rfl (run_extract (.tmp rfl) rfl) ?_
    refine lstepB rfl rfl rfl (run_assign (.tmp rfl)) ?_
    refine lstepB rfl rfl rfl (run_assign (.tmp rfl)) ?_
    refine lnil ?_
    refine xw_then ?_
    refine cw_seq ?_
    refine cw_region ?_
    refine lstepB rfl rfl rfl (run_move (.tmp rfl)) ?_
    refine lstepB rfl rfl rfl (run_move (.tmp rfl)) ?_
    refine lyes rfl rfl rfl rfl ?_
    refine gstepB rfl rfl (run_loadN (.tmp rfl) kd24 sz24 (by repeat (first | exact List.Mem.head _ | apply List.Mem.tail)) (by repeat (first | exact Sub.done | apply Sub.take | apply Sub.skip))) ?_
    refine lyes rfl rfl rfl rfl ?_
    refine gstep rfl rfl (LR.runs (R := []) (A := []) (lr_gives cb51 (.cons (.tmp rfl) (.cons .const .nil)) (fun w2 hS => mixesAtK g pa pc vg 0 hn0 w2 (hp.kept hS.kept))) (by repeat (first | exact Pick.nil | (apply Pick.cons; focus (repeat (first | exact Del.here | apply Del.there))))) (by repeat (first | exact Dels.nil | (apply Dels.cons; focus (repeat (first | exact Del.here | apply Del.there)))))) ?_
    intro q2 hq2
    cases q2
    case none =>
      dsimp only at hq2 ⊢
      have hno : lookOk g = false := by
        cases h : lookOk g with
        | false => rfl
        | true =>
          have := ((mixesAt_pos vg).1 h).2
          rw [hq2] at this; exact absurd this (by simp)
      rw [hno]
      refine lyes rfl rfl rfl rfl ?_
      refine gstepB rfl rfl (run_len (.tmp rfl) sl89) ?_
      refine lyes rfl rfl rfl rfl ?_
      refine gstepB rfl rfl (run_gtr (.tmp rfl) .const (by first | exact decide_eq_true (by omega) | exact decide_eq_false (by omega) | exact rfl)) ?_
      refine lstepB rfl rfl rfl (by first | exact run_pick_true (.tmp rfl) (.tmp rfl) | exact run_pick_false (.tmp rfl) .const) ?_
      refine lstepB rfl rfl rfl (run_assign (.tmp rfl)) ?_
      refine lnil ?_
      refine xw_then ?_
      refine cw_ret ?_
      refine xw_ret1 Try.results71 rfl (fun w hS => ⟨rfl, hS.kept⟩)
    case some q =>
      obtain ⟨gM, cM, rM⟩ := q
      dsimp only at hq2 ⊢
      have hyes : lookOk g = true := (mixesAt_pos vg).2 ⟨hq.1, by omega⟩
      have hq3 := hq2.1
      rw [hyes]
      refine lyes rfl rfl rfl rfl ?_
      refine gstepB rfl rfl (run_len (.tmp rfl) sl89) ?_
      refine lyes rfl rfl rfl rfl ?_
      refine gstepB rfl rfl (run_gtr (.tmp rfl) .const (by first | exact decide_eq_true (by omega) | exact decide_eq_false (by omega) | exact rfl)) ?_
      refine lstepB rfl rfl rfl (by first | exact run_pick_true (.tmp rfl) (.tmp rfl) | exact run_pick_false (.tmp rfl) .const) ?_
      refine lstepB rfl rfl rfl (run_assign (.tmp rfl)) ?_
      refine lnil ?_
      refine xw_then ?_
      refine cw_ret ?_
      refine xw_ret1 Try.results71 rfl (fun w hS => ⟨rfl, hS.kept⟩)
set_option maxRecDepth 100000 in
set_option maxHeartbeats 4000000 in
theorem checkZK (g : GroundD) (b : Bool) (pa : Option Addr) (pc : Nat) (hgm : g.pits.length ≤ 1000000) (w : World) (hp : PitsAt w pa g.pits) : Gives Try.prog 46 [.agg [.int .i64 g.long, .int .i64 g.rise, .int .i64 g.change, .slice pa g.pits.length pc].toArray, .bool b] w (.int .i64 (chkN g b)) := by
  unfold chkN
  cases hv : validB g
  ·
    rw [if_neg Bool.false_ne_true]
    refine .mk <| enter (n := 13) Try.func46 rfl rfl rfl (by repeat (first | exact Fill.nil | apply Fill.cons)) ?_
    refine cw_seq ?_
    refine cw_region ?_
    refine lstep rfl rfl rfl (run_boxN (.tmp rfl)) ?_
    intro b2 _
    refine lstepB rfl rfl rfl (run_assign .const) ?_
    refine lnil ?_
    refine xw_then ?_
    refine cw_seq ?_
    refine cw_seq ?_
    refine cw_region ?_
    refine lstepB rfl rfl rfl (run_loadN (.tmp rfl) kd24 sz24 (by repeat (first | exact List.Mem.head _ | apply List.Mem.tail)) (by repeat (first | exact Sub.done | apply Sub.take | apply Sub.skip))) ?_
    refine lstepB rfl rfl rfl (run_call1 cb32 (.cons (.tmp rfl) .nil) (fun w2 hS => (rGroundK g pa pc w2 hgm (hp.kept hS.kept)).as (congrArg Value.bool hv))) ?_
    refine lstepB rfl rfl rfl (run_not (.tmp rfl) (by first | exact Bool.not_true | exact Bool.not_false | exact rfl)) ?_
    refine lnil ?_
    refine xw_then ?_
    refine cw_cond_true (.tmp rfl) ?_
    refine cw_seq ?_
    refine cw_region ?_
    refine lstepB rfl rfl rfl (run_assign .const) ?_
    refine lnil ?_
    refine xw_then ?_
    refine cw_ret ?_
    refine xw_then_ret ?_
    refine xw_ret1 Try.results46 rfl (fun w hS => ⟨rfl, hS.kept⟩)
  ·
    rw [if_pos rfl]
    cases b
    ·
      rw [if_neg Bool.false_ne_true]
      refine .mk <| enter (n := 13) Try.func46 rfl rfl rfl (by repeat (first | exact Fill.nil | apply Fill.cons)) ?_
      refine cw_seq ?_
      refine cw_region ?_
      refine lstep rfl rfl rfl (run_boxN (.tmp rfl)) ?_
      intro b2 _
      refine lstepB rfl rfl rfl (run_assign .const) ?_
      refine lnil ?_
      refine xw_then ?_
      refine cw_seq ?_
      refine cw_seq ?_
      refine cw_region ?_
      refine lstepB rfl rfl rfl (run_loadN (.tmp rfl) kd24 sz24 (by repeat (first | exact List.Mem.head _ | apply List.Mem.tail)) (by repeat (first | exact Sub.done | apply Sub.take | apply Sub.skip))) ?_
      refine lstepB rfl rfl rfl (run_call1 cb32 (.cons (.tmp rfl) .nil) (fun w2 hS => (rGroundK g pa pc w2 hgm (hp.kept hS.kept)).as (congrArg Value.bool hv))) ?_
      refine lstepB rfl rfl rfl (run_not (.tmp rfl) (by first | exact Bool.not_true | exact Bool.not_false | exact rfl)) ?_
      refine lnil ?_
      refine xw_then ?_
      refine cw_cond_false (.tmp rfl) ?_
      refine cw_skip ?_
      refine xw_then ?_
      refine cw_seq ?_
      refine cw_seq ?_
      refine cw_region ?_
      refine lstepB rfl rfl rfl (run_move (.tmp rfl)) ?_
      refine lstepB rfl rfl rfl (run_not (.tmp rfl) (by first | exact Bool.not_true | exact Bool.not_false | exact rfl)) ?_
      refine lnil ?_
      refine xw_then ?_
      refine cw_cond_true (.tmp rfl) ?_
      refine cw_seq ?_
      refine cw_region ?_
      refine lstepB rfl rfl rfl (run_assign .const) ?_
      refine lnil ?_
      refine xw_then ?_
      refine cw_ret ?_
      refine xw_then_ret ?_
      refine xw_ret1 Try.results46 rfl (fun w hS => ⟨rfl, hS.kept⟩)
    ·
      rw [if_pos rfl]
      cases ho : lookOk g
      ·
        rw [if_neg Bool.false_ne_true]
        refine .mk <| enter (n := 13) Try.func46 rfl rfl rfl (by repeat (first | exact Fill.nil | apply Fill.cons)) ?_
        refine cw_seq ?_
        refine cw_region ?_
        refine lstep rfl rfl rfl (run_boxN (.tmp rfl)) ?_
        intro b2 _
        refine lstepB rfl rfl rfl (run_assign .const) ?_
        refine lnil ?_
        refine xw_then ?_
        refine cw_seq ?_
        refine cw_seq ?_
        refine cw_region ?_
        refine lstepB rfl rfl rfl (run_loadN (.tmp rfl) kd24 sz24 (by repeat (first | exact List.Mem.head _ | apply List.Mem.tail)) (by repeat (first | exact Sub.done | apply Sub.take | apply Sub.skip))) ?_
        refine lstepB rfl rfl rfl (run_call1 cb32 (.cons (.tmp rfl) .nil) (fun w2 hS => (rGroundK g pa pc w2 hgm (hp.kept hS.kept)).as (congrArg Value.bool hv))) ?_
        refine lstepB rfl rfl rfl (run_not (.tmp rfl) (by first | exact Bool.not_true | exact Bool.not_false | exact rfl)) ?_
        refine lnil ?_
        refine xw_then ?_
        refine cw_cond_false (.tmp rfl) ?_
        refine cw_skip ?_
        refine xw_then ?_
        refine cw_seq ?_
        refine cw_seq ?_
        refine cw_region ?_
        refine lstepB rfl rfl rfl (run_move (.tmp rfl)) ?_
        refine lstepB rfl rfl rfl (run_not (.tmp rfl) (by first | exact Bool.not_true | exact Bool.not_false | exact rfl)) ?_
        refine lnil ?_
        refine xw_then ?_
        refine cw_cond_false (.tmp rfl) ?_
        refine cw_skip ?_
        refine xw_then ?_
        refine cw_seq ?_
        refine cw_seq ?_
        refine cw_region ?_
        refine lstepB rfl rfl rfl (run_loadN (.tmp rfl) kd24 sz24 (by repeat (first | exact List.Mem.head _ | apply List.Mem.tail)) (by repeat (first | exact Sub.done | apply Sub.take | apply Sub.skip))) ?_
        refine lstepB rfl rfl rfl (run_call1 cb71 (.cons (.tmp rfl) .nil) (fun w2 hS => (truthZK g pa pc (VG.of hv) w2 (hp.kept hS.kept)).as (congrArg Value.bool ho))) ?_
        refine lstepB rfl rfl rfl (run_not (.tmp rfl) (by first | exact Bool.not_true | exact Bool.not_false | exact rfl)) ?_
        refine lnil ?_
        refine xw_then ?_
        refine cw_cond_true (.tmp rfl) ?_
        refine cw_seq ?_
        refine cw_region ?_
        refine lstepB rfl rfl rfl (run_assign .const) ?_
        refine lnil ?_
        refine xw_then ?_
        refine cw_ret ?_
        refine xw_then_ret ?_
        refine xw_ret1 Try.results46 rfl (fun w hS => ⟨rfl, hS.kept⟩)
      ·
        rw [if_pos rfl]
        refine .mk <| enter (n := 13) Try.func46 rfl rfl rfl (by repeat (first | exact Fill.nil | apply Fill.cons)) ?_
        refine cw_seq ?_
        refine cw_region ?_
        refine lstep rfl rfl rfl (run_boxN (.tmp rfl)) ?_
        intro b2 _
        refine lstepB rfl rfl rfl (run_assign .const) ?_
        refine lnil ?_
        refine xw_then ?_
        refine cw_seq ?_
        refine cw_seq ?_
        refine cw_region ?_
        refine lstepB rfl rfl rfl (run_loadN (.tmp rfl) kd24 sz24 (by repeat (first | exact List.Mem.head _ | apply List.Mem.tail)) (by repeat (first | exact Sub.done | apply Sub.take | apply Sub.skip))) ?_
        refine lstepB rfl rfl rfl (run_call1 cb32 (.cons (.tmp rfl) .nil) (fun w2 hS => (rGroundK g pa pc w2 hgm (hp.kept hS.kept)).as (congrArg Value.bool hv))) ?_
        refine lstepB rfl rfl rfl (run_not (.tmp rfl) (by first | exact Bool.not_true | exact Bool.not_false | exact rfl)) ?_
        refine lnil ?_
        refine xw_then ?_
        refine cw_cond_false (.tmp rfl) ?_
        refine cw_skip ?_
        refine xw_then ?_
        refine cw_seq ?_
        refine cw_seq ?_
        refine cw_region ?_
        refine lstepB rfl rfl rfl (run_move (.tmp rfl)) ?_
        refine lstepB rfl rfl rfl (run_not (.tmp rfl) (by first | exact Bool.not_true | exact Bool.not_false | exact rfl)) ?_
        refine lnil ?_
        refine xw_then ?_
        refine cw_cond_false (.tmp rfl) ?_
        refine cw_skip ?_
        refine xw_then ?_
        refine cw_seq ?_
        refine cw_seq ?_
        refine cw_region ?_
        refine lstepB rfl rfl rfl (run_loadN (.tmp rfl) kd24 sz24 (by repeat (first | exact List.Mem.head _ | apply List.Mem.tail)) (by repeat (first | exact Sub.done | apply Sub.take | apply Sub.skip))) ?_
        refine lstepB rfl rfl rfl (run_call1 cb71 (.cons (.tmp rfl) .nil) (fun w2 hS => (truthZK g pa pc (VG.of hv) w2 (hp.kept hS.kept)).as (congrArg Value.bool ho))) ?_
        refine lstepB rfl rfl rfl (run_not (.tmp rfl) (by first | exact Bool.not_true | exact Bool.not_false | exact rfl)) ?_
        refine lnil ?_
        refine xw_then ?_
        refine cw_cond_false (.tmp rfl) ?_
        refine cw_skip ?_
        refine xw_then ?_
        refine cw_seq ?_
        refine cw_region ?_
        refine lstepB rfl rfl rfl (run_assign .const) ?_
        refine lnil ?_
        refine xw_then ?_
        refine cw_ret ?_
        refine xw_ret1 Try.results46 rfl (fun w hS => ⟨rfl, hS.kept⟩)
set_option maxRecDepth 100000 in
set_option maxHeartbeats 4000000 in
theorem atZK (g : GroundD) (k : Int) (pa : Option Addr) (pc : Nat) (w : World) : Gives Try.prog 47 [.agg [.int .i64 g.long, .int .i64 g.rise, .int .i64 g.change, .slice pa g.pits.length pc].toArray, .int .i64 k] w (.bool (inZ k 0 g.long)) := by
  refine .mk <| enter (n := 9) Try.func47 rfl rfl rfl (by repeat (first | exact Fill.nil | apply Fill.cons)) ?_
  refine cw_seq ?_
  refine cw_region ?_
  refine lstep rfl rfl rfl (run_boxN (.tmp rfl)) ?_
  intro b2 _
  refine lstepB rfl rfl rfl (run_assign .const) ?_
  refine lnil ?_
  refine xw_then ?_
  refine cw_seq ?_
  refine cw_region ?_
  refine lstepB rfl rfl rfl (run_move (.tmp rfl)) ?_
  refine lstepB rfl rfl rfl (run_fieldAddr (.tmp rfl) fa24_0 (by first | exact Nat.zero_add _ | exact rfl)) ?_
  refine lstepB rfl rfl rfl (run_load1 (.tmp rfl) kd3 (by repeat (first | exact List.Mem.head _ | apply List.Mem.tail)) (by exact rfl)) ?_
  refine lstepB rfl rfl rfl (run_call1 cb63 (.cons (.tmp rfl) (.cons .const (.cons (.tmp rfl) .nil))) (fun w _ => inZK _ _ _ w)) ?_
  refine lstepB rfl rfl rfl (run_assign (.tmp rfl)) ?_
  refine lnil ?_
  refine xw_then ?_
  refine cw_ret ?_
  refine xw_ret1 Try.results47 rfl (fun w hS => ⟨rfl, hS.kept⟩)
theorem row_at2 {L : List SpanD} {i : Nat} {s : SpanD} (h : L[i]? = some s) (j : Nat) (v : Value) (hj : (spanV s)[j]? = some v) : (spansC L)[i * 2 + j]? = some v := by
  obtain ⟨h1, h2⟩ := spansC_at L i s h
  match j, hj with
  | 0, hj => rw [Nat.add_zero, h1]; exact hj
  | 1, hj => rw [h2]; exact hj
set_option maxRecDepth 100000 in
set_option maxHeartbeats 4000000 in
theorem refHardK (g : GroundD) (k : Int) (pa : Option Addr) (pc : Nat) (hgm : g.pits.length ≤ 1000000) (w : World) (hp : PitsAt w pa g.pits) : Gives Try.prog 14 [.agg [.int .i64 g.long, .int .i64 g.rise, .int .i64 g.change, .slice pa g.pits.length pc].toArray, .int .i64 k] w (.tuple #[.agg [.int .i64 (hardS g k).lo, .int .i64 (hardS g k).hi].toArray, .int .i64 (errN (hardE g [k]))]) := by
  refine .mk <| enter (n := 27) Try.func14 rfl rfl rfl (by repeat (first | exact Fill.nil | apply Fill.cons)) ?_
  refine cw_seq ?_
  refine cw_region ?_
  refine lstep rfl rfl rfl (run_boxN (.tmp rfl)) ?_
  intro b2 _
  refine lstep rfl rfl rfl (run_alloc zr28) ?_
  intro b4 _
  refine lstepB rfl rfl rfl (run_assign .const) ?_
  refine lnil ?_
  refine xw_then ?_
  refine cw_seq ?_
  have hck := chk_one g k
  refine cw_chain2 (σ := [0, 1, 2, 3, 4, 5]) [⟨0, [1], [], [], 0⟩, ⟨0, [1], [], [], 0⟩, ⟨0, [], [], [], 0⟩, ⟨0, [], [], [], 6⟩, ⟨0, [], [], [], 15⟩, ⟨0, [], [], [], 31⟩] [(0, _), (1, _)] (by kernel_rfl) (by kernel_rfl) rfl ?_
  refine .det (B := []) rfl rfl (.inl rfl) (.cons rfl .nil) .nil rfl (RunB.lr (run_loadN (.tmp rfl) kd24 sz24 (by repeat (first | exact List.Mem.head _ | apply List.Mem.tail)) (by repeat (first | exact Sub.done | apply Sub.take | apply Sub.skip)))) ?_
  refine .det (B := []) rfl rfl (.inl rfl) (.cons rfl .nil) .nil rfl (RunB.lr (run_loadN (.tmp rfl) kd24 sz24 (by repeat (first | exact List.Mem.head _ | apply List.Mem.tail)) (by repeat (first | exact Sub.done | apply Sub.take | apply Sub.skip)))) ?_
  refine .det (B := []) rfl rfl (.inl rfl) .nil .nil rfl (RunB.lr (run_move (.tmp rfl))) ?_
  refine .det (B := []) rfl rfl (.inl rfl) .nil .nil rfl (RunB.lr (run_call1 cb47 (.cons (.tmp rfl) (.cons (.tmp rfl) .nil)) (fun w _ => atZK g _ pa pc w))) ?_
  refine .det (B := []) rfl rfl (.inl rfl) .nil .nil rfl (RunB.lr (run_call1 cb46 (.cons (.tmp rfl) (.cons (.tmp rfl) .nil)) (fun w hS => (checkZK g _ pa pc hgm w (hp.kept hS.kept)).as (congrArg (Value.int .i64) hck)))) ?_
  refine .det (B := []) rfl rfl (.inl rfl) .nil .nil rfl (RunB.lr (run_assign (.tmp rfl))) ?_
  refine chain_nil (ts := [0, 1]) (.cons rfl (.cons rfl .nil)) (by decide) ?_
  cases he : hardE g [k]
  case none =>
    have hv := hardE_valid he
    have vg := VG.of hv
    obtain ⟨hk, hlk⟩ := hardE_inv hv he
    have hho := lookOk_hard hlk
    have hS0 : hardS g k = commonS (voicesL g) ((k.toNat : Nat) : Int) := by unfold hardS; rw [if_pos he]
    have hkn : k.toNat < placesN g := by unfold placesN; omega
    rw [show errN none = 0 from rfl]
    refine xw_then ?_
    refine cw_seq ?_
    refine cw_seq ?_
    refine cw_region ?_
    refine lstepB rfl rfl rfl (run_move (.tmp rfl)) ?_
    refine lstepB rfl rfl rfl (run_neq (.tmp rfl) .const (by first | exact decide_eq_true (by omega) | exact decide_eq_false (by omega) | exact rfl)) ?_
    refine lnil ?_
    refine xw_then ?_
    refine cw_cond_false (.tmp rfl) ?_
    refine cw_skip ?_
    refine xw_then ?_
    refine cw_seq ?_
    refine cw_region ?_
    refine lstepB rfl rfl rfl (run_loadN (.tmp rfl) kd24 sz24 (by repeat (first | exact List.Mem.head _ | apply List.Mem.tail)) (by repeat (first | exact Sub.done | apply Sub.take | apply Sub.skip))) ?_
    refine lstep rfl rfl rfl (LR.runs (R := []) (A := []) (lr_gives cb48 (.cons (.tmp rfl) .nil) (fun w2 hS => hardsK g pa pc w2 vg (hp.kept hS.kept))) (by repeat (first | exact Pick.nil | (apply Pick.cons; focus (repeat (first | exact Del.here | apply Del.there))))) (by repeat (first | exact Dels.nil | (apply Dels.cons; focus (repeat (first | exact Del.here | apply Del.there)))))) ?_
    intro q hq
    cases q
    case none =>
      dsimp only at hq
      rw [hho] at hq; cases hq
    case some q =>
      obtain ⟨gH, cH, rH⟩ := q
      dsimp only at hq ⊢
      obtain ⟨_, hH⟩ := hq
      obtain ⟨k0, rfl⟩ : ∃ n : Nat, k = (n : Int) := ⟨k.toNat, by omega⟩
      rw [Int.toNat_natCast] at hkn hS0
      have hat := hardL_get k0 hkn
      refine lstepB rfl rfl rfl (run_move (.tmp rfl)) ?_
      refine lstepB rfl rfl rfl (run_extract (.tmp rfl) rfl) ?_
      refine lstepB rfl rfl rfl (run_extract (.tmp rfl) rfl) ?_
      refine lstepB rfl rfl rfl (run_assign (.tmp rfl)) ?_
      refine lstepB rfl rfl rfl (run_assign (.tmp rfl)) ?_
      refine lnil ?_
      refine xw_then ?_
      refine cw_seq ?_
      refine cw_region ?_
      refine lstepB rfl rfl rfl (run_move (.tmp rfl)) ?_
      refine lstepB rfl rfl rfl (run_move (.tmp rfl)) ?_
      refine lstepB rfl rfl rfl (run_indexAddr (i := k0) (off' := k0 * 2) (.tmp rfl) (.tmp rfl) el58 (by omega) (Nat.zero_add _)) ?_
      refine lstepB rfl rfl rfl (run_loadN_own (l := spanV (hardS g (k0 : Int))) (.tmp rfl) kd28 sz28 (by repeat (first | exact List.Mem.head _ | apply List.Mem.tail)) rfl (fun j v hj => hH.get (row_at2 (by rw [hat, hS0]) j v hj))) ?_
      refine lstep0 rfl rfl (run_storeN (.tmp rfl) (.tmp rfl) rfl sz28 rfl (by repeat (first | exact Upd.here | apply Upd.there)) (by repeat (first | exact Put.done | apply Put.put | apply Put.skip))) ?_
      refine lstepB rfl rfl rfl (run_assign .const) ?_
      refine lnil ?_
      refine xw_then ?_
      refine cw_ret ?_
      exact xw_retC2 rfl rfl rfl kd28 sz28 (by repeat (first | exact List.Mem.head _ | apply List.Mem.tail)) (by repeat (first | exact Sub.done | apply Sub.take | apply Sub.skip)) (fun w hS => ⟨rfl, hS.kept⟩)
  case some val =>
    have hne := hardE_ne he
    have hS0 : hardS g k = ⟨0, 0⟩ := by unfold hardS; rw [if_neg (by rw [he]; simp)]
    rw [hS0, show errN (some val) = val from rfl]
    refine xw_then ?_
    refine cw_seq ?_
    refine cw_seq ?_
    refine cw_region ?_
    refine lstepB rfl rfl rfl (run_move (.tmp rfl)) ?_
    refine lstepB rfl rfl rfl (run_neq (p := true) (.tmp rfl) .const (decide_eq_true hne)) ?_
    refine lnil ?_
    refine xw_then ?_
    refine cw_cond_true (.tmp rfl) ?_
    refine cw_seq ?_
    refine cw_region ?_
    refine lstepB rfl rfl rfl (run_build_at .nil (fun w => bd28_ w)) ?_
    refine lstepB rfl rfl rfl (run_move (.tmp rfl)) ?_
    refine lstep0 rfl rfl (run_storeN (.tmp rfl) (.tmp rfl) rfl sz28 rfl (by repeat (first | exact Upd.here | apply Upd.there)) (by repeat (first | exact Put.done | apply Put.put | apply Put.skip))) ?_
    refine lstepB rfl rfl rfl (run_assign (.tmp rfl)) ?_
    refine lnil ?_
    refine xw_then ?_
    refine cw_ret ?_
    refine xw_then_ret ?_
    exact xw_retC2 rfl rfl rfl kd28 sz28 (by repeat (first | exact List.Mem.head _ | apply List.Mem.tail)) (by repeat (first | exact Sub.done | apply Sub.take | apply Sub.skip)) (fun w hS => ⟨rfl, hS.kept⟩)
def sumZ (g : GroundD) (x : Nat) : Nat → SpanD
  | 0 => ⟨0, 0⟩
  | k + 1 => ⟨(sumZ g x k).lo + (atS (hardL g) (x + k)).lo, (sumZ g x k).hi + (atS (hardL g) (x + k)).hi⟩
theorem sumZ_succ {g : GroundD} {x k : Nat} {s : SpanD} (h : (hardL g)[x + k]? = some s) : sumZ g x (k + 1) = ⟨(sumZ g x k).lo + s.lo, (sumZ g x k).hi + s.hi⟩ := by
  have e : atS (hardL g) (x + k) = s := by unfold atS; rw [List.getD_eq_getElem?_getD, h]; rfl
  rw [sumZ, e]
theorem sumZ_eq {g : GroundD} {x : Nat} : ∀ k, x + k ≤ placesN g → sumZ g x k = sumS (midS (hardL g) x (x + k))
  | 0, _ => by simp [sumZ, midS, sumS]
  | k + 1, h => by
    have hs := hardL_get (x + k) (show x + k < placesN g by omega)
    rw [sumZ_succ hs, sumZ_eq k (by omega), ← Nat.add_assoc, midS_split (a := x) (b := x + k) (c := x + k + 1) (by omega) (by omega), midS_one hs, sumS_append, sumS_one]
theorem sumZ_bound {g : GroundD} (hg : ValidG g) (x : Nat) : ∀ k, x + k ≤ placesN g → (0 ≤ (sumZ g x k).lo ∧ (sumZ g x k).lo ≤ 1000 * (k : Int)) ∧ 0 ≤ (sumZ g x k).hi ∧ (sumZ g x k).hi ≤ 1000 * (k : Int)
  | 0, _ => by simp [sumZ]
  | k + 1, h => by
    have ih := sumZ_bound hg x k (by omega)
    have hs := hardL_get (x + k) (show x + k < placesN g by omega)
    have hin := hardL_in1000 hg _ (List.mem_of_getElem? hs)
    simp only [in1000] at hin
    rw [sumZ_succ hs]
    dsimp only
    omega
set_option maxRecDepth 100000 in
set_option maxHeartbeats 4000000 in
theorem refSumK (g : GroundD) (x y : Nat) (hxy : x ≤ y) (hy : y < placesN g) (pa : Option Addr) (pc : Nat) (vg : VG g) (hho : hardOk g = true) (w : World) (hp : PitsAt w pa g.pits) : Gives Try.prog 60 [.agg [.int .i64 g.long, .int .i64 g.rise, .int .i64 g.change, .slice pa g.pits.length pc].toArray, .int .i64 (x : Int), .int .i64 (y : Int)] w (.agg [.int .i64 (sumS (midS (hardL g) x (y + 1))).lo, .int .i64 (sumS (midS (hardL g) x (y + 1))).hi].toArray) := by
  have hlong := vg.v.long
  have hpl : (placesN g : Int) = g.long + 1 := by unfold placesN; omega
  have hhl := hardL_length g
  refine .mk <| enter (n := 41) Try.func60 rfl rfl rfl (by repeat (first | exact Fill.nil | apply Fill.cons)) ?_
  refine cw_seq ?_
  refine cw_region ?_
  refine lstep rfl rfl rfl (run_boxN (.tmp rfl)) ?_
  intro b3 _
  refine lstep rfl rfl rfl (run_alloc zr28) ?_
  intro b6 _
  refine lnil ?_
  refine xw_then ?_
  refine cw_seq ?_
  refine cw_region ?_
  refine lstepB rfl rfl rfl (run_loadN (.tmp rfl) kd24 sz24 (by repeat (first | exact List.Mem.head _ | apply List.Mem.tail)) (by repeat (first | exact Sub.done | apply Sub.take | apply Sub.skip))) ?_
  refine lstep rfl rfl rfl (LR.runs (R := []) (A := []) (lr_gives cb48 (.cons (.tmp rfl) .nil) (fun w2 hS => hardsK g pa pc w2 vg (hp.kept hS.kept))) (by repeat (first | exact Pick.nil | (apply Pick.cons; focus (repeat (first | exact Del.here | apply Del.there))))) (by repeat (first | exact Dels.nil | (apply Dels.cons; focus (repeat (first | exact Del.here | apply Del.there)))))) ?_
  intro q hq
  cases q
  case none =>
    dsimp only at hq
    rw [hho] at hq; cases hq
  case some q =>
    obtain ⟨gH, cH, rH⟩ := q
    dsimp only at hq ⊢
    obtain ⟨_, hH⟩ := hq
    refine lstepB rfl rfl rfl (run_move (.tmp rfl)) ?_
    refine lstepB rfl rfl rfl (run_extract (.tmp rfl) rfl) ?_
    refine lstepB rfl rfl rfl (run_extract (.tmp rfl) rfl) ?_
    refine lstepB rfl rfl rfl (run_assign (.tmp rfl)) ?_
    refine lstepB rfl rfl rfl (run_assign (.tmp rfl)) ?_
    refine lnil ?_
    refine xw_then ?_
    refine cw_seq ?_
    refine cw_region ?_
    refine lstepB rfl rfl rfl (run_build_at .nil (fun w => bd28_ w)) ?_
    refine lstep rfl rfl rfl (run_alloc zr28) ?_
    intro b9 _
    refine lstep0 rfl rfl (run_storeN (.tmp rfl) (.tmp rfl) rfl sz28 rfl (by repeat (first | exact Upd.here | apply Upd.there)) (by repeat (first | exact Put.done | apply Put.put | apply Put.skip))) ?_
    refine lnil ?_
    refine xw_then ?_
    refine cw_seq ?_
    refine cw_seq ?_
    refine cw_region ?_
    refine lstepB rfl rfl rfl (runB_to (run_move (.tmp rfl)) (congrArg (Value.int .i64) (show (x : Int) = ((x + 0 : Nat) : Int) by omega))) ?_
    refine lstepB rfl rfl rfl (run_assign (.tmp rfl)) ?_
    refine lnil ?_
    refine xw_then ?_
    refine cw_block ?_
    refine cw_loop (S := Nat) (fun k => [(10, .int .i64 ((x + k : Nat) : Int))]) [(2, _), (3, _), (6, _), (7, _), (9, _)] (fun k => [(b9, Obj.cells (spanV (sumZ g x k)).toArray 28 (0, 0)), (gH, Obj.cells rH.toArray 28 (0, 0)), (b6, Obj.cells [.int .i64 0, .int .i64 0].toArray 28 (0, 0)), (b3, Obj.cells [.int .i64 g.long, .int .i64 g.rise, .int .i64 g.change, .slice pa g.pits.length pc].toArray 24 (0, 0))]) (fun k => x + k ≤ y + 1) (fun k => y + 1 - (x + k)) 0 (by show x + 0 ≤ y + 1; omega) (by repeat (first | exact Less.nil | refine Less.cons rfl ?_)) (by repeat (first | exact Pick.nil | (apply Pick.cons; focus (repeat (first | exact Del.here | apply Del.there))))) ?_
    intro k hk
    refine cw_seq ?_
    refine cw_seq ?_
    refine cw_region ?_
    refine lstepB rfl rfl rfl (run_move (.tmp rfl)) ?_
    refine lstepB rfl rfl rfl (run_move (.tmp rfl)) ?_
    refine lstepB rfl rfl rfl (run_leq (.tmp rfl) (.tmp rfl) rfl) ?_
    refine lnil ?_
    refine xw_then ?_
    refine cw_cond_p (.tmp rfl) (fun hl => ?_) (fun hl => ?_)
    ·
      obtain ⟨s, hs⟩ : ∃ s, (hardL g)[x + k]? = some s := ⟨_, hardL_get (x + k) (by omega)⟩
      have hin := hardL_in1000 vg.v s (List.mem_of_getElem? hs)
      have hbd := sumZ_bound vg.v x k (by omega)
      have hsc := sumZ_succ hs
      simp only [in1000] at hin
      refine cw_skip ?_
      refine xw_then ?_
      refine cw_seq ?_
      refine cw_block ?_
      refine cw_chain2 (σ := [0, 1, 2, 3, 4, 5, 6, 7, 8, 9, 10, 11, 12, 13, 14, 15, 16, 17]) [⟨0, [], [], [], 0⟩, ⟨0, [0], [], [], 1⟩, ⟨0, [], [], [], 0⟩, ⟨0, [], [], [], 0⟩, ⟨0, [], [], [], 12⟩, ⟨0, [], [], [], 28⟩, ⟨0, [1], [], [], 60⟩, ⟨0, [], [], [], 127⟩, ⟨0, [], [], [], 0⟩, ⟨0, [0], [], [], 256⟩, ⟨0, [], [], [], 0⟩, ⟨0, [], [], [], 0⟩, ⟨0, [], [], [], 3072⟩, ⟨0, [], [], [], 7168⟩, ⟨0, [1], [], [], 15360⟩, ⟨0, [], [], [], 32512⟩, ⟨0, [], [], [], 65535⟩, ⟨0, [], [0], [0], 131071⟩] [(0, _), (1, _), (2, _), (3, _)] (by kernel_rfl) (by kernel_rfl) rfl ?_
      refine .det (B := []) rfl rfl (.inl rfl) .nil .nil rfl (RunB.lr (run_fieldAddr (.tmp rfl) fa28_0 (by first | exact Nat.zero_add _ | exact rfl))) ?_
      refine .det (B := []) rfl rfl (.inl rfl) (.cons rfl .nil) .nil rfl (RunB.lr (run_load1 (.tmp rfl) kd3 (by repeat (first | exact List.Mem.head _ | apply List.Mem.tail)) (by exact rfl))) ?_
      refine .det (B := []) rfl rfl (.inl rfl) .nil .nil rfl (RunB.lr (run_move (.tmp rfl))) ?_
      refine .det (B := []) rfl rfl (.inl rfl) .nil .nil rfl (RunB.lr (run_move (.tmp rfl))) ?_
      refine .det (B := []) rfl rfl (.inl rfl) .nil .nil rfl (RunB.lr (run_indexAddr (i := x + k) (off' := (x + k) * 2) (.tmp rfl) (.tmp rfl) el58 (by omega) (Nat.zero_add _))) ?_
      refine .det (B := []) rfl rfl (.inl rfl) .nil .nil rfl (RunB.lr (run_fieldAddr (.tmp rfl) fa28_0 (by first | exact Nat.zero_add _ | exact rfl))) ?_
      refine .det (B := []) rfl rfl (.inl rfl) (.cons rfl .nil) .nil rfl (RunB.lr (run_load1 (v := .int .i64 s.lo) (.tmp rfl) kd3 (by repeat (first | exact List.Mem.head _ | apply List.Mem.tail)) (hH.get (spansC_at _ _ _ hs).1))) ?_
      refine .det (B := []) rfl rfl (.inl rfl) .nil .nil rfl (RunB.lr (run_add (c := (sumZ g x (k + 1)).lo) (.tmp rfl) (.tmp rfl) (by rw [IntWalk.i64_in _ (by omega), hsc]))) ?_
      refine .det (B := []) rfl rfl (.inl rfl) .nil .nil rfl (RunB.lr (run_fieldAddr (.tmp rfl) fa28_1 (by first | exact Nat.zero_add _ | exact rfl))) ?_
      refine .det (B := []) rfl rfl (.inl rfl) (.cons rfl .nil) .nil rfl (RunB.lr (run_load1 (.tmp rfl) kd3 (by repeat (first | exact List.Mem.head _ | apply List.Mem.tail)) (by exact rfl))) ?_
      refine .det (B := []) rfl rfl (.inl rfl) .nil .nil rfl (RunB.lr (run_move (.tmp rfl))) ?_
      refine .det (B := []) rfl rfl (.inl rfl) .nil .nil rfl (RunB.lr (run_move (.tmp rfl))) ?_
      refine .det (B := []) rfl rfl (.inl rfl) .nil .nil rfl (RunB.lr (run_indexAddr (i := x + k) (off' := (x + k) * 2) (.tmp rfl) (.tmp rfl) el58 (by omega) (Nat.zero_add _))) ?_
      refine .det (B := []) rfl rfl (.inl rfl) .nil .nil rfl (RunB.lr (run_fieldAddr (.tmp rfl) fa28_1 (by first | exact Nat.zero_add _ | exact rfl))) ?_
      refine .det (B := []) rfl rfl (.inl rfl) (.cons rfl .nil) .nil rfl (RunB.lr (run_load1 (v := .int .i64 s.hi) (.tmp rfl) kd3 (by repeat (first | exact List.Mem.head _ | apply List.Mem.tail)) (hH.get (spansC_at _ _ _ hs).2))) ?_
      refine .det (B := []) rfl rfl (.inl rfl) .nil .nil rfl (RunB.lr (run_add (c := (sumZ g x (k + 1)).hi) (.tmp rfl) (.tmp rfl) (by rw [IntWalk.i64_in _ (by omega), hsc]))) ?_
      refine .det (B := []) rfl rfl (.inl rfl) .nil .nil rfl (RunB.lr (run_build_at (.cons (.tmp rfl) (.cons (.tmp rfl) .nil)) (fun w => bd28_0_1 w))) ?_
      refine .det (B := [(0, (_, _))]) rfl rfl (.inl rfl) .nil (.cons rfl .nil) rfl (lr_storeN (.tmp rfl) (.tmp rfl) rfl sz28 rfl (by repeat (first | exact Put.done | apply Put.put | apply Put.skip))) ?_
      refine chain_nil (ts := [0, 1, 2, 3]) (.cons rfl (.cons rfl (.cons rfl (.cons rfl .nil)))) (by decide) ?_
      refine xw_in ?_
      refine xw_then ?_
      refine cw_region ?_
      refine lstepB rfl rfl rfl (run_move (.tmp rfl)) ?_
      refine lstepB rfl rfl rfl (run_add (.tmp rfl) .const (by first | exact IntWalk.i64_in _ (by omega) | exact rfl)) ?_
      refine lstepB rfl rfl rfl (run_assign (.tmp rfl)) ?_
      refine lnil ?_
      exact xw_round (k + 1) (by show x + (k + 1) ≤ _; omega) (by show y + 1 - (x + (k + 1)) < y + 1 - (x + k); omega) (by repeat (first | exact Less.nil | refine Less.cons rfl ?_)) (by repeat (first | exact Pick.nil | (apply Pick.cons; focus (repeat (first | exact Del.here | apply Del.there)))))
    ·
      obtain rfl : y = x + k - 1 := by omega
      refine cw_exit ?_
      refine xw_then_exit ?_
      refine xw_then_exit ?_
      refine xw_in_exit ?_
      refine xw_then ?_
      refine cw_seq ?_
      refine cw_region ?_
      refine lstepB rfl rfl rfl (run_loadN (.tmp rfl) kd28 sz28 (by repeat (first | exact List.Mem.head _ | apply List.Mem.tail)) (by repeat (first | exact Sub.done | apply Sub.take | apply Sub.skip))) ?_
      refine lstep0 rfl rfl (run_storeN (.tmp rfl) (.tmp rfl) rfl sz28 rfl (by repeat (first | exact Upd.here | apply Upd.there)) (by repeat (first | exact Put.done | apply Put.put | apply Put.skip))) ?_
      refine lnil ?_
      refine xw_then ?_
      refine cw_ret ?_
      refine xw_retC1 rfl rfl kd28 sz28 (by repeat (first | exact List.Mem.head _ | apply List.Mem.tail)) (by repeat (first | exact Sub.done | apply Sub.take | apply Sub.skip)) (fun w hS => ⟨?_, hS.kept⟩)
      rw [show x + k - 1 + 1 = x + k by omega, ← sumZ_eq k (by omega)]
set_option maxRecDepth 100000 in
set_option maxHeartbeats 4000000 in
theorem refWorkK (g : GroundD) (x y : Int) (pa : Option Addr) (pc : Nat) (hgm : g.pits.length ≤ 1000000) (w : World) (hp : PitsAt w pa g.pits) : Gives Try.prog 20 [.agg [.int .i64 g.long, .int .i64 g.rise, .int .i64 g.change, .slice pa g.pits.length pc].toArray, .int .i64 x, .int .i64 y] w (.tuple #[.agg [.int .i64 (workS g x y).lo, .int .i64 (workS g x y).hi].toArray, .int .i64 (errN (workE g x y))]) := by
  have hck := chk_two g x y
  cases he : workE g x y
  case none =>
    obtain ⟨hv, i2, i3, hle, hlk⟩ := workE_inv he
    have hx := inZ_iff.2 i2
    have hy := inZ_iff.2 i3
    have vg := VG.of hv
    have hho := lookOk_hard hlk
    have hS0 : workS g x y = sumS (midS (hardL g) x.toNat (y.toNat + 1)) := by unfold workS; rw [if_pos he]
    rw [hx, hy, he] at hck
    simp only [hle, decide_true, Bool.and_self] at hck
    obtain ⟨x0, rfl⟩ : ∃ n : Nat, x = (n : Int) := ⟨x.toNat, by omega⟩
    obtain ⟨y0, rfl⟩ : ∃ n : Nat, y = (n : Int) := ⟨y.toNat, by omega⟩
    rw [Int.toNat_natCast, Int.toNat_natCast] at hS0
    have hyp : y0 < placesN g := by unfold placesN; omega
    rw [hS0]
    refine .mk <| enter (n := 32) Try.func20 rfl rfl rfl (by repeat (first | exact Fill.nil | apply Fill.cons)) ?_
    refine cw_seq ?_
    refine cw_region ?_
    refine lstep rfl rfl rfl (run_boxN (.tmp rfl)) ?_
    intro b3 _
    refine lstep rfl rfl rfl (run_alloc zr28) ?_
    intro b6 _
    refine lstepB rfl rfl rfl (run_assign .const) ?_
    refine lnil ?_
    refine xw_then ?_
    refine cw_seq ?_
    refine cw_chain2 (σ := [0, 1, 2, 3, 4, 5, 6, 7, 8, 9, 10, 11, 12, 13, 14, 15]) [⟨0, [1], [], [], 0⟩, ⟨0, [1], [], [], 0⟩, ⟨0, [], [], [], 0⟩, ⟨0, [], [], [], 6⟩, ⟨0, [], [], [], 14⟩, ⟨0, [1], [], [], 30⟩, ⟨0, [], [], [], 30⟩, ⟨0, [], [], [], 126⟩, ⟨0, [], [], [], 254⟩, ⟨0, [], [], [], 510⟩, ⟨0, [], [], [], 1022⟩, ⟨0, [], [], [], 1022⟩, ⟨0, [], [], [], 4094⟩, ⟨0, [], [], [], 8190⟩, ⟨0, [], [], [], 16383⟩, ⟨0, [], [], [], 32767⟩] [(0, _), (1, _)] (by kernel_rfl) (by kernel_rfl) rfl ?_
    refine .det (B := []) rfl rfl (.inl rfl) (.cons rfl .nil) .nil rfl (RunB.lr (run_loadN (.tmp rfl) kd24 sz24 (by repeat (first | exact List.Mem.head _ | apply List.Mem.tail)) (by repeat (first | exact Sub.done | apply Sub.take | apply Sub.skip)))) ?_
    refine .det (B := []) rfl rfl (.inl rfl) (.cons rfl .nil) .nil rfl (RunB.lr (run_loadN (.tmp rfl) kd24 sz24 (by repeat (first | exact List.Mem.head _ | apply List.Mem.tail)) (by repeat (first | exact Sub.done | apply Sub.take | apply Sub.skip)))) ?_
    refine .det (B := []) rfl rfl (.inl rfl) .nil .nil rfl (RunB.lr (run_move (.tmp rfl))) ?_
    refine .det (B := []) rfl rfl (.inl rfl) .nil .nil rfl (RunB.lr (run_call1 cb47 (.cons (.tmp rfl) (.cons (.tmp rfl) .nil)) (fun w _ => (atZK g _ pa pc w).as (congrArg Value.bool hx)))) ?_
    refine .det (B := []) rfl rfl (.inl rfl) .nil .nil rfl (RunB.lr (run_move (.tmp rfl))) ?_
    refine .det (B := []) rfl rfl (.inr ⟨_, _, _, rfl, rfl, rfl⟩) (.cons rfl .nil) .nil rfl (RunB.lr (run_loadN (.tmp rfl) kd24 sz24 (by repeat (first | exact List.Mem.head _ | apply List.Mem.tail)) (by repeat (first | exact Sub.done | apply Sub.take | apply Sub.skip)))) ?_
    refine .det (B := []) rfl rfl (.inr ⟨_, _, _, rfl, rfl, rfl⟩) .nil .nil rfl (RunB.lr (run_move (.tmp rfl))) ?_
    refine .det (B := []) rfl rfl (.inr ⟨_, _, _, rfl, rfl, rfl⟩) .nil .nil rfl (RunB.lr (run_call1 cb47 (.cons (.tmp rfl) (.cons (.tmp rfl) .nil)) (fun w _ => (atZK g _ pa pc w).as (congrArg Value.bool hy)))) ?_
    refine .det (B := []) rfl rfl (.inl rfl) .nil .nil rfl (RunB.lr (by first | exact run_pick_true (.tmp rfl) (.tmp rfl) | exact run_pick_false (.tmp rfl) .const)) ?_
    refine .det (B := []) rfl rfl (.inl rfl) .nil .nil rfl (RunB.lr (run_move (.tmp rfl))) ?_
    refine .det (B := []) rfl rfl (.inr ⟨_, _, _, rfl, rfl, rfl⟩) .nil .nil rfl (RunB.lr (run_move (.tmp rfl))) ?_
    refine .det (B := []) rfl rfl (.inr ⟨_, _, _, rfl, rfl, rfl⟩) .nil .nil rfl (RunB.lr (run_move (.tmp rfl))) ?_
    refine .det (B := []) rfl rfl (.inr ⟨_, _, _, rfl, rfl, rfl⟩) .nil .nil rfl (RunB.lr (run_leq (.tmp rfl) (.tmp rfl) (by first | exact decide_eq_true (by omega) | exact decide_eq_false (by omega) | exact rfl))) ?_
    refine .det (B := []) rfl rfl (.inl rfl) .nil .nil rfl (RunB.lr (by first | exact run_pick_true (.tmp rfl) (.tmp rfl) | exact run_pick_false (.tmp rfl) .const)) ?_
    refine .det (B := []) rfl rfl (.inl rfl) .nil .nil rfl (RunB.lr (run_call1 cb46 (.cons (.tmp rfl) (.cons (.tmp rfl) .nil)) (fun w hS => (checkZK g _ pa pc hgm w (hp.kept hS.kept)).as (congrArg (Value.int .i64) hck)))) ?_
    refine .det (B := []) rfl rfl (.inl rfl) .nil .nil rfl (RunB.lr (run_assign (.tmp rfl))) ?_
    refine chain_nil (ts := [0, 1]) (.cons rfl (.cons rfl .nil)) (by decide) ?_
    refine xw_then ?_
    refine cw_seq ?_
    refine cw_seq ?_
    refine cw_region ?_
    refine lstepB rfl rfl rfl (run_move (.tmp rfl)) ?_
    refine lstepB rfl rfl rfl (run_neq (p := false) (.tmp rfl) .const rfl) ?_
    refine lnil ?_
    refine xw_then ?_
    refine cw_cond_false (.tmp rfl) ?_
    refine cw_skip ?_
    refine xw_then ?_
    refine cw_seq ?_
    refine cw_region ?_
    refine lstepB rfl rfl rfl (run_loadN (.tmp rfl) kd24 sz24 (by repeat (first | exact List.Mem.head _ | apply List.Mem.tail)) (by repeat (first | exact Sub.done | apply Sub.take | apply Sub.skip))) ?_
    refine lstepB rfl rfl rfl (run_move (.tmp rfl)) ?_
    refine lstepB rfl rfl rfl (run_move (.tmp rfl)) ?_
    refine lstepB rfl rfl rfl (run_call1 cb60 (.cons (.tmp rfl) (.cons (.tmp rfl) (.cons (.tmp rfl) .nil))) (fun w hS => refSumK g x0 y0 (by omega) hyp pa pc vg hho w (hp.kept hS.kept))) ?_
    refine lstep0 rfl rfl (run_storeN (.tmp rfl) (.tmp rfl) rfl sz28 rfl (by repeat (first | exact Upd.here | apply Upd.there)) (by repeat (first | exact Put.done | apply Put.put | apply Put.skip))) ?_
    refine lstepB rfl rfl rfl (run_assign .const) ?_
    refine lnil ?_
    refine xw_then ?_
    refine cw_ret ?_
    exact xw_retC2 rfl rfl rfl kd28 sz28 (by repeat (first | exact List.Mem.head _ | apply List.Mem.tail)) (by repeat (first | exact Sub.done | apply Sub.take | apply Sub.skip)) (fun w hS => ⟨rfl, hS.kept⟩)
  case some val =>
    have hne := workE_ne he
    have hS0 : workS g x y = ⟨0, 0⟩ := by unfold workS; rw [if_neg (by rw [he]; simp)]
    rw [hS0]
    rw [he] at hck
    cases hx : inZ x 0 g.long
    all_goals cases hy : inZ y 0 g.long
    all_goals rw [hx, hy] at hck
    all_goals by_cases hle : x ≤ y
    all_goals simp only [hle, decide_true, decide_false, Bool.and_true, Bool.and_false, Bool.true_and, Bool.false_and, Bool.and_self] at hck
    all_goals
      refine .mk <| enter (n := 32) Try.func20 rfl rfl rfl (by repeat (first | exact Fill.nil | apply Fill.cons)) ?_
      refine cw_seq ?_
      refine cw_region ?_
      refine lstep rfl rfl rfl (run_boxN (.tmp rfl)) ?_
      intro b3 _
      refine lstep rfl rfl rfl (run_alloc zr28) ?_
      intro b6 _
      refine lstepB rfl rfl rfl (run_assign .const) ?_
      refine lnil ?_
      refine xw_then ?_
      refine cw_seq ?_
      refine cw_chain2 (σ := [0, 1, 2, 3, 4, 5, 6, 7, 8, 9, 10, 11, 12, 13, 14, 15]) [⟨0, [1], [], [], 0⟩, ⟨0, [1], [], [], 0⟩, ⟨0, [], [], [], 0⟩, ⟨0, [], [], [], 6⟩, ⟨0, [], [], [], 14⟩, ⟨0, [1], [], [], 30⟩, ⟨0, [], [], [], 30⟩, ⟨0, [], [], [], 126⟩, ⟨0, [], [], [], 254⟩, ⟨0, [], [], [], 510⟩, ⟨0, [], [], [], 1022⟩, ⟨0, [], [], [], 1022⟩, ⟨0, [], [], [], 4094⟩, ⟨0, [], [], [], 8190⟩, ⟨0, [], [], [], 16383⟩, ⟨0, [], [], [], 32767⟩] [(0, _), (1, _)] (by kernel_rfl) (by kernel_rfl) rfl ?_
      refine .det (B := []) rfl rfl (.inl rfl) (.cons rfl .nil) .nil rfl (RunB.lr (run_loadN (.tmp rfl) kd24 sz24 (by repeat (first | exact List.Mem.head _ | apply List.Mem.tail)) (by repeat (first | exact Sub.done | apply Sub.take | apply Sub.skip)))) ?_
      refine .det (B := []) rfl rfl (.inl rfl) (.cons rfl .nil) .nil rfl (RunB.lr (run_loadN (.tmp rfl) kd24 sz24 (by repeat (first | exact List.Mem.head _ | apply List.Mem.tail)) (by repeat (first | exact Sub.done | apply Sub.take | apply Sub.skip)))) ?_
      refine .det (B := []) rfl rfl (.inl rfl) .nil .nil rfl (RunB.lr (run_move (.tmp rfl))) ?_
      refine .det (B := []) rfl rfl (.inl rfl) .nil .nil rfl (RunB.lr (run_call1 cb47 (.cons (.tmp rfl) (.cons (.tmp rfl) .nil)) (fun w _ => (atZK g _ pa pc w).as (congrArg Value.bool hx)))) ?_
      refine .det (B := []) rfl rfl (.inl rfl) .nil .nil rfl (RunB.lr (run_move (.tmp rfl))) ?_
      first | refine .det (B := []) rfl rfl (.inr ⟨_, _, _, rfl, rfl, rfl⟩) (.cons rfl .nil) .nil rfl (RunB.lr (run_loadN (.tmp rfl) kd24 sz24 (by repeat (first | exact List.Mem.head _ | apply List.Mem.tail)) (by repeat (first | exact Sub.done | apply Sub.take | apply Sub.skip)))) ?_ | refine .skip rfl rfl ⟨_, _, _, _, rfl, rfl, rfl, rfl⟩ rfl (by first | rfl | kernel_rfl) ?_
      first | refine .det (B := []) rfl rfl (.inr ⟨_, _, _, rfl, rfl, rfl⟩) .nil .nil rfl (RunB.lr (run_move (.tmp rfl))) ?_ | refine .skip rfl rfl ⟨_, _, _, _, rfl, rfl, rfl, rfl⟩ rfl (by first | rfl | kernel_rfl) ?_
      first | refine .det (B := []) rfl rfl (.inr ⟨_, _, _, rfl, rfl, rfl⟩) .nil .nil rfl (RunB.lr (run_call1 cb47 (.cons (.tmp rfl) (.cons (.tmp rfl) .nil)) (fun w _ => (atZK g _ pa pc w).as (congrArg Value.bool hy)))) ?_ | refine .skip rfl rfl ⟨_, _, _, _, rfl, rfl, rfl, rfl⟩ rfl (by first | rfl | kernel_rfl) ?_
      refine .det (B := []) rfl rfl (.inl rfl) .nil .nil rfl (RunB.lr (by first | exact run_pick_true (.tmp rfl) (.tmp rfl) | exact run_pick_false (.tmp rfl) .const)) ?_
      refine .det (B := []) rfl rfl (.inl rfl) .nil .nil rfl (RunB.lr (run_move (.tmp rfl))) ?_
      first | refine .det (B := []) rfl rfl (.inr ⟨_, _, _, rfl, rfl, rfl⟩) .nil .nil rfl (RunB.lr (run_move (.tmp rfl))) ?_ | refine .skip rfl rfl ⟨_, _, _, _, rfl, rfl, rfl, rfl⟩ rfl (by first | rfl | kernel_rfl) ?_
      first | refine .det (B := []) rfl rfl (.inr ⟨_, _, _, rfl, rfl, rfl⟩) .nil .nil rfl (RunB.lr (run_move (.tmp rfl))) ?_ | refine .skip rfl rfl ⟨_, _, _, _, rfl, rfl, rfl, rfl⟩ rfl (by first | rfl | kernel_rfl) ?_
      first | refine .det (B := []) rfl rfl (.inr ⟨_, _, _, rfl, rfl, rfl⟩) .nil .nil rfl (RunB.lr (run_leq (.tmp rfl) (.tmp rfl) (by first | exact decide_eq_true (by omega) | exact decide_eq_false (by omega) | exact rfl))) ?_ | refine .skip rfl rfl ⟨_, _, _, _, rfl, rfl, rfl, rfl⟩ rfl (by first | rfl | kernel_rfl) ?_
      refine .det (B := []) rfl rfl (.inl rfl) .nil .nil rfl (RunB.lr (by first | exact run_pick_true (.tmp rfl) (.tmp rfl) | exact run_pick_false (.tmp rfl) .const)) ?_
      refine .det (B := []) rfl rfl (.inl rfl) .nil .nil rfl (RunB.lr (run_call1 cb46 (.cons (.tmp rfl) (.cons (.tmp rfl) .nil)) (fun w hS => (checkZK g _ pa pc hgm w (hp.kept hS.kept)).as (congrArg (Value.int .i64) hck)))) ?_
      refine .det (B := []) rfl rfl (.inl rfl) .nil .nil rfl (RunB.lr (run_assign (.tmp rfl))) ?_
      refine chain_nil (ts := [0, 1]) (.cons rfl (.cons rfl .nil)) (by decide) ?_
      refine xw_then ?_
      refine cw_seq ?_
      refine cw_seq ?_
      refine cw_region ?_
      refine lstepB rfl rfl rfl (run_move (.tmp rfl)) ?_
      refine lstepB rfl rfl rfl (run_neq (p := true) (.tmp rfl) .const (decide_eq_true hne)) ?_
      refine lnil ?_
      refine xw_then ?_
      refine cw_cond_true (.tmp rfl) ?_
      refine cw_seq ?_
      refine cw_region ?_
      refine lstepB rfl rfl rfl (run_build_at .nil (fun w => bd28_ w)) ?_
      refine lstepB rfl rfl rfl (run_move (.tmp rfl)) ?_
      refine lstep0 rfl rfl (run_storeN (.tmp rfl) (.tmp rfl) rfl sz28 rfl (by repeat (first | exact Upd.here | apply Upd.there)) (by repeat (first | exact Put.done | apply Put.put | apply Put.skip))) ?_
      refine lstepB rfl rfl rfl (run_assign (.tmp rfl)) ?_
      refine lnil ?_
      refine xw_then ?_
      refine cw_ret ?_
      refine xw_then_ret ?_
      exact xw_retC2 rfl rfl rfl kd28 sz28 (by repeat (first | exact List.Mem.head _ | apply List.Mem.tail)) (by repeat (first | exact Sub.done | apply Sub.take | apply Sub.skip)) (fun w hS => ⟨rfl, hS.kept⟩)
end Go.Proofs.Ytfmbnobkenngaaa
