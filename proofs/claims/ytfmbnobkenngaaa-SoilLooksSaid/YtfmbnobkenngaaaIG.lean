/- Soil: the document's own Hard and Work. -/
import Derived.Test.YtfmbnobkenngaaaIF
import Derived.Test.YtfmbnobkenngaaaIB
import Derived.Test.YtfmbnobkenngaaaHG
namespace Go.Proofs.Ytfmbnobkenngaaa
open Go.RowKit En

theorem mixesAt_pos {g : GroundD} (vg : VG g) : lookOk g = true ↔ hardOk g = true ∧ 0 < (mixesAt g 0).length := by
  rw [lookOk, Bool.and_eq_true, soilsOk_mixes vg]
/-- What is wrong with a question. -/
def chkN (g : GroundD) (b : Bool) : Int := if validB g then (if b then (if lookOk g then 0 else 10) else 2) else 1
theorem checkE_ne {g : GroundD} {l : List Int} {n : Int} (h : checkE g l = some n) : n ≠ 0 := by
  unfold checkE at h
  split at h
  · split at h
    · cases h
    · cases h; decide
  · cases h; decide
theorem hardE_ne {g : GroundD} {l : List Int} {n : Int} (h : hardE g l = some n) : n ≠ 0 := by
  rcases hardE_cases g l with ⟨m, h1, h2⟩ | ⟨_, _, h2⟩ | ⟨_, _, h2⟩
  · rw [h] at h2; cases h2; exact checkE_ne h1
  · rw [h] at h2; cases h2; decide
  · rw [h] at h2; cases h2
set_option maxRecDepth 100000 in
set_option maxHeartbeats 4000000 in
theorem truthZK (g : GroundD) (pa : Option Addr) (pc : Nat) (vg : VG g) (w : World) (hp : PitsAt w pa g.pits) : Gives Try.prog 71 [.agg [.int .i64 g.long, .int .i64 g.rise, .int .i64 g.change, .slice pa g.pits.length pc].toArray] w (.bool (lookOk g)) := by
  have hgm : g.pits.length ≤ 1000000 := by have := vg.v.len; omega
  have hn0 := placesN_pos vg.v
  refine .mk <| enter (n := 17) Try.func71 rfl rfl rfl (by repeat (first | exact Fill.nil | apply Fill.cons)) ?_
  refine cw_seq ?_
  refine cw_region ?_
  refine lstep rfl rfl rfl (run_boxN (.tmp rfl)) ?_
  intro b1 _
  refine lstepB rfl rfl rfl (run_assign .const) ?_
  refine lnil ?_
  refine xw_then ?_
  refine cw_seq ?_
  refine cw_region ?_
  refine lstepB rfl rfl rfl (run_loadN (.tmp rfl) kd24 sz24 (by repeat (first | exact List.Mem.head _ | apply List.Mem.tail)) (by repeat (first | exact Sub.done | apply Sub.take | apply Sub.skip))) ?_
  refine lstep rfl rfl rfl (LR.runs (R := []) (A := []) (lr_gives cb48 (.cons (.tmp rfl) .nil) (fun w2 hS => hardsK g pa pc w2 vg (hp.kept hS.kept))) (by repeat (first | exact Pick.nil | (apply Pick.cons; focus (repeat (first | exact Del.here | apply Del.there))))) (by repeat (first | exact Dels.nil | (apply Dels.cons; focus (repeat (first | exact Del.here | apply Del.there)))))) ?_
  intro q hq
  cases q
  case none =>
    dsimp only at hq ⊢
    have hno : lookOk g = false := by rw [lookOk, hq]; rfl
    rw [hno]
    refine lstepB rfl rfl rfl (run_move (.tmp rfl)) ?_
    refine lstepB rfl rfl rfl (run_extract (.tmp rfl) rfl) ?_
    refine lstepB rfl rfl rfl (run_extract (.tmp rfl) rfl) ?_
    refine lstepB rfl rfl rfl (run_assign (.tmp rfl)) ?_
    refine lstepB rfl rfl rfl (run_assign (.tmp rfl)) ?_
    refine lnil ?_
    refine xw_then ?_
    refine cw_seq ?_
    refine cw_region ?_
    refine lstepB rfl rfl rfl (run_move (.tmp rfl)) ?_
    refine lstepB rfl rfl rfl (run_move (.tmp rfl)) ?_
    refine lskip rfl rfl rfl rfl rfl rfl rfl ?_
    refine lskip rfl rfl rfl rfl rfl rfl rfl ?_
    refine lskip rfl rfl rfl rfl rfl rfl rfl ?_
    refine lskip rfl rfl rfl rfl rfl rfl rfl ?_
    refine lstepB rfl rfl rfl (by first | exact run_pick_true (.tmp rfl) (.tmp rfl) | exact run_pick_false (.tmp rfl) .const) ?_
    refine lstepB rfl rfl rfl (run_assign (.tmp rfl)) ?_
    refine lnil ?_
    refine xw_then ?_
    refine cw_ret ?_
    refine xw_ret1 Try.results71 rfl (fun w hS => ⟨rfl, hS.kept⟩)
  case some q =>
    obtain ⟨gH, cH, rH⟩ := q
    dsimp only at hq ⊢
    refine lstepB rfl rfl rfl (run_move (.tmp rfl)) ?_
    refine lstepB rfl rfl rfl (run_extract (.tmp rfl) rfl) ?_
    refine lstepB rfl rfl rfl (run_extract (.tmp rfl) rfl) ?_
    refine lstepB rfl rfl rfl (run_assign (.tmp rfl)) ?_
    refine lstepB rfl rfl rfl (run_assign (.tmp rfl)) ?_
    refine lnil ?_
    refine xw_then ?_
    refine cw_seq ?_
    refine cw_region ?_
    refine lstepB rfl rfl rfl (run_move (.tmp rfl)) ?_
    refine lstepB rfl rfl rfl (run_move (.tmp rfl)) ?_
    refine lyes rfl rfl rfl rfl ?_
    refine gstepB rfl rfl (run_loadN (.tmp rfl) kd24 sz24 (by repeat (first | exact List.Mem.head _ | apply List.Mem.tail)) (by repeat (first | exact Sub.done | apply Sub.take | apply Sub.skip))) ?_
    refine lyes rfl rfl rfl rfl ?_
    refine gstep rfl rfl (LR.runs (R := []) (A := []) (lr_gives cb51 (.cons (.tmp rfl) (.cons .const .nil)) (fun w2 hS => mixesAtK g pa pc vg 0 hn0 w2 (hp.kept hS.kept))) (by repeat (first | exact Pick.nil | (apply Pick.cons; focus (repeat (first | exact Del.here | apply Del.there))))) (by repeat (first | exact Dels.nil | (apply Dels.cons; focus (repeat (first | exact Del.here | apply Del.there)))))) ?_
    intro q2 hq2
    cases q2
    case none =>
      dsimp only at hq2 ⊢
      have hno : lookOk g = false := by
        cases h : lookOk g with
        | false => rfl
        | true =>
          have := ((mixesAt_pos vg).1 h).2
          rw [hq2] at this; exact absurd this (by simp)
      rw [hno]
      refine lyes rfl rfl rfl rfl ?_
      refine gstepB rfl rfl (run_len (.tmp rfl) sl89) ?_
      refine lyes rfl rfl rfl rfl ?_
      refine gstepB rfl rfl (run_gtr (.tmp rfl) .const (by first | exact decide_eq_true (by omega) | exact decide_eq_false (by omega) | exact rfl)) ?_
      refine lstepB rfl rfl rfl (by first | exact run_pick_true (.tmp rfl) (.tmp rfl) | exact run_pick_false (.tmp rfl) .const) ?_
      refine lstepB rfl rfl rfl (run_assign (.tmp rfl)) ?_
      refine lnil ?_
      refine xw_then ?_
      refine cw_ret ?_
      refine xw_ret1 Try.results71 rfl (fun w hS => ⟨rfl, hS.kept⟩)
    case some q =>
      obtain ⟨gM, cM, rM⟩ := q
      dsimp only at hq2 ⊢
      have hyes : lookOk g = true := (mixesAt_pos vg).2 ⟨hq.1, by omega⟩
      have hq3 := hq2.1
      rw [hyes]
      refine lyes rfl rfl rfl rfl ?_
      refine gstepB rfl rfl (run_len (.tmp rfl) sl89) ?_
      refine lyes rfl rfl rfl rfl ?_
      refine gstepB rfl rfl (run_gtr (.tmp rfl) .const (by first | exact decide_eq_true (by omega) | exact decide_eq_false (by omega) | exact rfl)) ?_
      refine lstepB rfl rfl rfl (by first | exact run_pick_true (.tmp rfl) (.tmp rfl) | exact run_pick_false (.tmp rfl) .const) ?_
      refine lstepB rfl rfl rfl (run_assign (.tmp rfl)) ?_
      refine lnil ?_
      refine xw_then ?_
      refine cw_ret ?_
      refine xw_ret1 Try.results71 rfl (fun w hS => ⟨rfl, hS.kept⟩)
set_option maxRecDepth 100000 in
set_option maxHeartbeats 4000000 in
theorem checkZK (g : GroundD) (b : Bool) (pa : Option Addr) (pc : Nat) (hgm : g.pits.length ≤ 1000000) (w : World) (hp : PitsAt w pa g.pits) : Gives Try.prog 46 [.agg [.int .i64 g.long, .int .i64 g.rise, .int .i64 g.change, .slice pa g.pits.length pc].toArray, .bool b] w (.int .i64 (chkN g b)) := by
  unfold chkN
  cases hv : validB g
  ·
    rw [if_neg Bool.false_ne_true]
    refine .mk <| enter (n := 13) Try.func46 rfl rfl rfl (by repeat (first | exact Fill.nil | apply Fill.cons)) ?_
    refine cw_seq ?_
    refine cw_region ?_
    refine lstep rfl rfl rfl (run_boxN (.tmp rfl)) ?_
    intro b2 _
    refine lstepB rfl rfl rfl (run_assign .const) ?_
    refine lnil ?_
    refine xw_then ?_
    refine cw_seq ?_
    refine cw_seq ?_
    refine cw_region ?_
    refine lstepB rfl rfl rfl (run_loadN (.tmp rfl) kd24 sz24 (by repeat (first | exact List.Mem.head _ | apply List.Mem.tail)) (by repeat (first | exact Sub.done | apply Sub.take | apply Sub.skip))) ?_
    refine lstepB rfl rfl rfl (run_call1 cb32 (.cons (.tmp rfl) .nil) (fun w2 hS => (rGroundK g pa pc w2 hgm (hp.kept hS.kept)).as (congrArg Value.bool hv))) ?_
    refine lstepB rfl rfl rfl (run_not (.tmp rfl) (by first | exact Bool.not_true | exact Bool.not_false | exact rfl)) ?_
    refine lnil ?_
    refine xw_then ?_
    refine cw_cond_true (.tmp rfl) ?_
    refine cw_seq ?_
    refine cw_region ?_
    refine lstepB rfl rfl rfl (run_assign .const) ?_
    refine lnil ?_
    refine xw_then ?_
    refine cw_ret ?_
    refine xw_then_ret ?_
    refine xw_ret1 Try.results46 rfl (fun w hS => ⟨rfl, hS.kept⟩)
  ·
    rw [if_pos rfl]
    cases b
    ·
      rw [if_neg Bool.false_ne_true]
      refine .mk <| enter (n := 13) Try.func46 rfl rfl rfl (by repeat (first | exact Fill.nil | apply Fill.cons)) ?_
      refine cw_seq ?_
      refine cw_region ?_
      refine lstep rfl rfl rfl (run_boxN (.tmp rfl)) ?_
      intro b2 _
      refine lstepB rfl rfl rfl (run_assign .const) ?_
      refine lnil ?_
      refine xw_then ?_
      refine cw_seq ?_
      refine cw_seq ?_
      refine cw_region ?_
      refine lstepB rfl rfl rfl (run_loadN (.tmp rfl) kd24 sz24 (by repeat (first | exact List.Mem.head _ | apply List.Mem.tail)) (by repeat (first | exact Sub.done | apply Sub.take | apply Sub.skip))) ?_
      refine lstepB rfl rfl rfl (run_call1 cb32 (.cons (.tmp rfl) .nil) (fun w2 hS => (rGroundK g pa pc w2 hgm (hp.kept hS.kept)).as (congrArg Value.bool hv))) ?_
      refine lstepB rfl rfl rfl (run_not (.tmp rfl) (by first | exact Bool.not_true | exact Bool.not_false | exact rfl)) ?_
      refine lnil ?_
      refine xw_then ?_
      refine cw_cond_false (.tmp rfl) ?_
      refine cw_skip ?_
      refine xw_then ?_
      refine cw_seq ?_
      refine cw_seq ?_
      refine cw_region ?_
      refine lstepB rfl rfl rfl (run_move (.tmp rfl)) ?_
      refine lstepB rfl rfl rfl (run_not (.tmp rfl) (by first | exact Bool.not_true | exact Bool.not_false | exact rfl)) ?_
      refine lnil ?_
      refine xw_then ?_
      refine cw_cond_true (.tmp rfl) ?_
      refine cw_seq ?_
      refine cw_region ?_
      refine lstepB rfl rfl rfl (run_assign .const) ?_
      refine lnil ?_
      refine xw_then ?_
      refine cw_ret ?_
      refine xw_then_ret ?_
      refine xw_ret1 Try.results46 rfl (fun w hS => ⟨rfl, hS.kept⟩)
    ·
      rw [if_pos rfl]
      cases ho : lookOk g
      ·
        rw [if_neg Bool.false_ne_true]
        refine .mk <| enter (n := 13) Try.func46 rfl rfl rfl (by repeat (first | exact Fill.nil | apply Fill.cons)) ?_
        refine cw_seq ?_
        refine cw_region ?_
        refine lstep rfl rfl rfl (run_boxN (.tmp rfl)) ?_
        intro b2 _
        refine lstepB rfl rfl rfl (run_assign .const) ?_
        refine lnil ?_
        refine xw_then ?_
        refine cw_seq ?_
        refine cw_seq ?_
        refine cw_region ?_
        refine lstepB rfl rfl rfl (run_loadN (.tmp rfl) kd24 sz24 (by repeat (first | exact List.Mem.head _ | apply List.Mem.tail)) (by repeat (first | exact Sub.done | apply Sub.take | apply Sub.skip))) ?_
        refine lstepB rfl rfl rfl (run_call1 cb32 (.cons (.tmp rfl) .nil) (fun w2 hS => (rGroundK g pa pc w2 hgm (hp.kept hS.kept)).as (congrArg Value.bool hv))) ?_
        refine lstepB rfl rfl rfl (run_not (.tmp rfl) (by first | exact Bool.not_true | exact Bool.not_false | exact rfl)) ?_
        refine lnil ?_
        refine xw_then ?_
        refine cw_cond_false (.tmp rfl) ?_
        refine cw_skip ?_
        refine xw_then ?_
        refine cw_seq ?_
        refine cw_seq ?_
        refine cw_region ?_
        refine lstepB rfl rfl rfl (run_move (.tmp rfl)) ?_
        refine lstepB rfl rfl rfl (run_not (.tmp rfl) (by first | exact Bool.not_true | exact Bool.not_false | exact rfl)) ?_
        refine lnil ?_
        refine xw_then ?_
        refine cw_cond_false (.tmp rfl) ?_
        refine cw_skip ?_
        refine xw_then ?_
        refine cw_seq ?_
        refine cw_seq ?_
        refine cw_region ?_
        refine lstepB rfl rfl rfl (run_loadN (.tmp rfl) kd24 sz24 (by repeat (first | exact List.Mem.head _ | apply List.Mem.tail)) (by repeat (first | exact Sub.done | apply Sub.take | apply Sub.skip))) ?_
        refine lstepB rfl rfl rfl (run_call1 cb71 (.cons (.tmp rfl) .nil) (fun w2 hS => (truthZK g pa pc (VG.of hv) w2 (hp.kept hS.kept)).as (congrArg Value.bool ho))) ?_
        refine lstepB rfl rfl rfl (run_not (.tmp rfl) (by first | exact Bool.not_true | exact Bool.not_false | exact rfl)) ?_
        refine lnil ?_
        refine xw_then ?_
        refine cw_cond_true (.tmp rfl) ?_
        refine cw_seq ?_
        refine cw_region ?_
        refine lstepB rfl rfl rfl (run_assign .const) ?_
        refine lnil ?_
        refine xw_then ?_
        refine cw_ret ?_
        refine xw_then_ret ?_
        refine xw_ret1 Try.results46 rfl (fun w hS => ⟨rfl, hS.kept⟩)
      ·
        rw [if_pos rfl]
        refine .mk <| enter (n := 13) Try.func46 rfl rfl rfl (by repeat (first | exact Fill.nil | apply Fill.cons)) ?_
        refine cw_seq ?_
        refine cw_region ?_
        refine lstep rfl rfl rfl (run_boxN (.tmp rfl)) ?_
        intro b2 _
        refine lstepB rfl rfl rfl (run_assign .const) ?_
        refine lnil ?_
        refine xw_then ?_
        refine cw_seq ?_
        refine cw_seq ?_
        refine cw_region ?_
        refine lstepB rfl rfl rfl (run_loadN (.tmp rfl) kd24 sz24 (by repeat (first | exact List.Mem.head _ | apply List.Mem.tail)) (by repeat (first | exact Sub.done | apply Sub.take | apply Sub.skip))) ?_
        refine lstepB rfl rfl rfl (run_call1 cb32 (.cons (.tmp rfl) .nil) (fun w2 hS => (rGroundK g pa pc w2 hgm (hp.kept hS.kept)).as (congrArg Value.bool hv))) ?_
        refine lstepB rfl rfl rfl (run_not (.tmp rfl) (by first | exact Bool.not_true | exact Bool.not_false | exact rfl)) ?_
        refine lnil ?_
        refine xw_then ?_
        refine cw_cond_false (.tmp rfl) ?_
        refine cw_skip ?_
        refine xw_then ?_
        refine cw_seq ?_
        refine cw_seq ?_
        refine cw_region ?_
        refine lstepB rfl rfl rfl (run_move (.tmp rfl)) ?_
        refine lstepB rfl rfl rfl (run_not (.tmp rfl) (by first | exact Bool.not_true | exact Bool.not_false | exact rfl)) ?_
        refine lnil ?_
        refine xw_then ?_
        refine cw_cond_false (.tmp rfl) ?_
        refine cw_skip ?_
        refine xw_then ?_
        refine cw_seq ?_
        refine cw_seq ?_
        refine cw_region ?_
        refine lstepB rfl rfl rfl (run_loadN (.tmp rfl) kd24 sz24 (by repeat (first | exact List.Mem.head _ | apply List.Mem.tail)) (by repeat (first | exact Sub.done | apply Sub.take | apply Sub.skip))) ?_
        refine lstepB rfl rfl rfl (run_call1 cb71 (.cons (.tmp rfl) .nil) (fun w2 hS => (truthZK g pa pc (VG.of hv) w2 (hp.kept hS.kept)).as (congrArg Value.bool ho))) ?_
        refine lstepB rfl rfl rfl (run_not (.tmp rfl) (by first | exact Bool.not_true | exact Bool.not_false | exact rfl)) ?_
        refine lnil ?_
        refine xw_then ?_
        refine cw_cond_false (.tmp rfl) ?_
        refine cw_skip ?_
        refine xw_then ?_
        refine cw_seq ?_
        refine cw_region ?_
        refine lstepB rfl rfl rfl (run_assign .const) ?_
        refine lnil ?_
        refine xw_then ?_
        refine cw_ret ?_
        refine xw_ret1 Try.results46 rfl (fun w hS => ⟨rfl, hS.kept⟩)
def sumZ (g : GroundD) (x : Nat) : Nat → SpanD
  | 0 => ⟨0, 0⟩
  | k + 1 => ⟨(sumZ g x k).lo + (atS (hardL g) (x + k)).lo, (sumZ g x k).hi + (atS (hardL g) (x + k)).hi⟩
end Go.Proofs.Ytfmbnobkenngaaa
