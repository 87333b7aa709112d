/- Package soil: valid, and check. -/
import Derived.Test.YtfmbnobkenngaaaEF
import Derived.Test.YtfmbnobkenngaaaET
namespace Go.Proofs.Ytfmbnobkenngaaa
open Go.RowKit En

structure SpanD where
  lo : Int
  hi : Int
  deriving DecidableEq, Inhabited
structure PitD where
  at_ : Int
  hard : SpanD
  sand : SpanD
  silt : SpanD
  clay : SpanD
  deriving DecidableEq, Inhabited
structure GroundD where
  long : Int
  rise : Int
  change : Int
  pits : List PitD
structure MixD where
  sand : SpanD
  silt : SpanD
  clay : SpanD
  deriving DecidableEq, Inhabited
abbrev spanC (s : SpanD) : List Value := [.int .i64 s.lo, .int .i64 s.hi]
abbrev pitC (p : PitD) : List Value := [.int .i64 p.at_, .int .i64 p.hard.lo, .int .i64 p.hard.hi, .int .i64 p.sand.lo, .int .i64 p.sand.hi, .int .i64 p.silt.lo, .int .i64 p.silt.hi, .int .i64 p.clay.lo, .int .i64 p.clay.hi]
abbrev mixC (m : MixD) : List Value := [.int .i64 m.sand.lo, .int .i64 m.sand.hi, .int .i64 m.silt.lo, .int .i64 m.silt.hi, .int .i64 m.clay.lo, .int .i64 m.clay.hi]
/-- Rows of m cells that lie one behind the other. -/
def RowsAt (w : World) (a : Option Addr) (m : Nat) (L : List (List Value)) : Prop :=
  ∀ i r, L[i]? = some r → ∃ b o, a = some ⟨b, o, none⟩ ∧ b < w.heap.size ∧ ∀ j v, r[j]? = some v → w.cell? ⟨b, o + i * m + j, none⟩ = some v
theorem cell_kept {w w' : World} {b o : Nat} (hb : Below w.heap.size w w') (h : b < w.heap.size) : w'.cell? ⟨b, o, none⟩ = w.cell? ⟨b, o, none⟩ := World.cell?_of_block (hb.block b h)
theorem RowsAt.kept {w w' : World} {a : Option Addr} {m : Nat} {L : List (List Value)} (h : RowsAt w a m L) (hb : Below w.heap.size w w') : RowsAt w' a m L := fun i r hi => by
  obtain ⟨b, o, rfl, hlt, hc⟩ := h i r hi
  exact ⟨b, o, rfl, Nat.lt_of_lt_of_le hlt hb.size, fun j v hj => (cell_kept hb hlt).trans (hc j v hj)⟩
theorem RowsAt.at_ {w : World} {a : Option Addr} {m : Nat} {L : List (List Value)} (h : RowsAt w a m L) (hn : 0 < L.length) : ∃ b o, a = some ⟨b, o, none⟩ ∧ b < w.heap.size ∧ ∀ i r, L[i]? = some r → ∀ j v, r[j]? = some v → w.cell? ⟨b, o + i * m + j, none⟩ = some v := by
  obtain ⟨b, o, rfl, hlt, _⟩ := h 0 _ (List.getElem?_eq_getElem hn)
  refine ⟨b, o, rfl, hlt, fun i r hi j v hj => ?_⟩
  obtain ⟨b', o', e, _, hc⟩ := h i r hi
  cases e
  exact hc j v hj
abbrev PitsAt (w : World) (a : Option Addr) (l : List PitD) : Prop := RowsAt w a 9 (l.map pitC)
theorem PitsAt.pit {w : World} {a : Option Addr} {l : List PitD} (h : PitsAt w a l) (hn : 0 < l.length) : ∃ b o, a = some ⟨b, o, none⟩ ∧ b < w.heap.size ∧ ∀ i p, l[i]? = some p → ∀ j v, (pitC p)[j]? = some v → w.cell? ⟨b, o + i * 9 + j, none⟩ = some v := by
  obtain ⟨b, o, e, hlt, hc⟩ := RowsAt.at_ h (by simpa using hn)
  exact ⟨b, o, e, hlt, fun i p hi => hc i _ (by simp [hi])⟩
def withinB (s : SpanD) (most : Int) : Bool := decide (0 ≤ s.lo) && decide (s.lo ≤ s.hi) && decide (s.hi ≤ most)
def upToB (n most : Int) : Bool := decide (0 ≤ n) && decide (n ≤ most)
def pitB (p : PitD) : Bool := withinB p.hard 1000 && withinB p.sand 20 && withinB p.silt 20 && withinB p.clay 20
def pitsB (long : Int) : Int → List PitD → Bool
  | _, [] => true
  | before, p :: r => !decide (p.at_ ≤ before) && !decide (long < p.at_) && pitB p && pitsB long p.at_ r
def validB (g : GroundD) : Bool := upToB g.long 40 && upToB g.rise 1000 && upToB g.change 20 && decide (g.pits.length ≤ 8) && pitsB g.long (-1) g.pits
set_option maxRecDepth 100000 in
set_option maxHeartbeats 4000000 in
theorem withinK (s : SpanD) (most : Int) (w : World) : Gives Try.prog 107 [.agg [.int .i64 s.lo, .int .i64 s.hi].toArray, .int .i64 most] w (.bool (withinB s most)) := by
  by_cases h1 : 0 ≤ s.lo <;> by_cases h2 : s.lo ≤ s.hi <;> by_cases h3 : s.hi ≤ most
  all_goals
    refine .mk <| enter (n := 21) Try.func107 rfl rfl rfl (by repeat (first | exact Fill.nil | apply Fill.cons)) ?_
    refine cw_seq ?_
    refine cw_region ?_
    refine lstep rfl rfl rfl (run_boxN (.tmp rfl)) ?_
    intro b2 _
    refine lstepB rfl rfl rfl (run_assign .const) ?_
    refine lnil ?_
    refine xw_then ?_
    refine cw_seq ?_
    refine cw_region ?_
    refine lstepB rfl rfl rfl (run_fieldAddr (.tmp rfl) fa28_0 (by first | exact Nat.zero_add _ | exact rfl)) ?_
    refine lstepB rfl rfl rfl (run_load1 (.tmp rfl) kd3 (by repeat (first | exact List.Mem.head _ | apply List.Mem.tail)) (by exact rfl)) ?_
    refine lstepB rfl rfl rfl (run_leq .const (.tmp rfl) (by first | exact decide_eq_true (by omega) | exact decide_eq_false (by omega) | exact rfl)) ?_
    refine lstepB rfl rfl rfl (run_move (.tmp rfl)) ?_
    first | (refine lyes rfl rfl rfl rfl ?_; refine gstepB rfl rfl (run_fieldAddr (.tmp rfl) fa28_0 (by first | exact Nat.zero_add _ | exact rfl)) ?_) | refine lskip rfl rfl rfl rfl rfl rfl rfl ?_
    first | (refine lyes rfl rfl rfl rfl ?_; refine gstepB rfl rfl (run_load1 (.tmp rfl) kd3 (by repeat (first | exact List.Mem.head _ | apply List.Mem.tail)) (by exact rfl)) ?_) | refine lskip rfl rfl rfl rfl rfl rfl rfl ?_
    first | (refine lyes rfl rfl rfl rfl ?_; refine gstepB rfl rfl (run_fieldAddr (.tmp rfl) fa28_1 (by first | exact Nat.zero_add _ | exact rfl)) ?_) | refine lskip rfl rfl rfl rfl rfl rfl rfl ?_
    first | (refine lyes rfl rfl rfl rfl ?_; refine gstepB rfl rfl (run_load1 (.tmp rfl) kd3 (by repeat (first | exact List.Mem.head _ | apply List.Mem.tail)) (by exact rfl)) ?_) | refine lskip rfl rfl rfl rfl rfl rfl rfl ?_
    first | (refine lyes rfl rfl rfl rfl ?_; refine gstepB rfl rfl (run_leq (.tmp rfl) (.tmp rfl) (by first | exact decide_eq_true (by omega) | exact decide_eq_false (by omega) | exact rfl)) ?_) | refine lskip rfl rfl rfl rfl rfl rfl rfl ?_
    refine lstepB rfl rfl rfl (by first | exact run_pick_true (.tmp rfl) (.tmp rfl) | exact run_pick_false (.tmp rfl) .const) ?_
    refine lstepB rfl rfl rfl (run_move (.tmp rfl)) ?_
    first | (refine lyes rfl rfl rfl rfl ?_; refine gstepB rfl rfl (run_fieldAddr (.tmp rfl) fa28_1 (by first | exact Nat.zero_add _ | exact rfl)) ?_) | refine lskip rfl rfl rfl rfl rfl rfl rfl ?_
    first | (refine lyes rfl rfl rfl rfl ?_; refine gstepB rfl rfl (run_load1 (.tmp rfl) kd3 (by repeat (first | exact List.Mem.head _ | apply List.Mem.tail)) (by exact rfl)) ?_) | refine lskip rfl rfl rfl rfl rfl rfl rfl ?_
    first | (refine lyes rfl rfl rfl rfl ?_; refine gstepB rfl rfl (run_move (.tmp rfl)) ?_) | refine lskip rfl rfl rfl rfl rfl rfl rfl ?_
    first | (refine lyes rfl rfl rfl rfl ?_; refine gstepB rfl rfl (run_leq (.tmp rfl) (.tmp rfl) (by first | exact decide_eq_true (by omega) | exact decide_eq_false (by omega) | exact rfl)) ?_) | refine lskip rfl rfl rfl rfl rfl rfl rfl ?_
    refine lstepB rfl rfl rfl (by first | exact run_pick_true (.tmp rfl) (.tmp rfl) | exact run_pick_false (.tmp rfl) .const) ?_
    refine lstepB rfl rfl rfl (run_assign (.tmp rfl)) ?_
    refine lnil ?_
    refine xw_then ?_
    refine cw_ret ?_
    refine xw_ret1 Try.results107 rfl (fun w hS => ⟨by simp [withinB, *], hS.kept⟩)
set_option maxRecDepth 100000 in
set_option maxHeartbeats 4000000 in
theorem upToK (n most : Int) (w : World) : Gives Try.prog 81 [.int .i64 n, .int .i64 most] w (.bool (upToB n most)) := by
  by_cases h1 : 0 ≤ n <;> by_cases h2 : n ≤ most
  all_goals
    refine .mk <| enter (n := 12) Try.func81 rfl rfl rfl (by repeat (first | exact Fill.nil | apply Fill.cons)) ?_
    refine cw_seq ?_
    refine cw_region ?_
    refine lstepB rfl rfl rfl (run_assign .const) ?_
    refine lnil ?_
    refine xw_then ?_
    refine cw_seq ?_
    refine cw_region ?_
    refine lstepB rfl rfl rfl (run_move (.tmp rfl)) ?_
    refine lstepB rfl rfl rfl (run_leq .const (.tmp rfl) (by first | exact decide_eq_true (by omega) | exact decide_eq_false (by omega) | exact rfl)) ?_
    refine lstepB rfl rfl rfl (run_move (.tmp rfl)) ?_
    first | (refine lyes rfl rfl rfl rfl ?_; refine gstepB rfl rfl (run_move (.tmp rfl)) ?_) | refine lskip rfl rfl rfl rfl rfl rfl rfl ?_
    first | (refine lyes rfl rfl rfl rfl ?_; refine gstepB rfl rfl (run_move (.tmp rfl)) ?_) | refine lskip rfl rfl rfl rfl rfl rfl rfl ?_
    first | (refine lyes rfl rfl rfl rfl ?_; refine gstepB rfl rfl (run_leq (.tmp rfl) (.tmp rfl) (by first | exact decide_eq_true (by omega) | exact decide_eq_false (by omega) | exact rfl)) ?_) | refine lskip rfl rfl rfl rfl rfl rfl rfl ?_
    refine lstepB rfl rfl rfl (by first | exact run_pick_true (.tmp rfl) (.tmp rfl) | exact run_pick_false (.tmp rfl) .const) ?_
    refine lstepB rfl rfl rfl (run_assign (.tmp rfl)) ?_
    refine lnil ?_
    refine xw_then ?_
    refine cw_ret ?_
    refine xw_ret1 Try.results81 rfl (fun w hS => ⟨by simp [upToB, *], hS.kept⟩)
set_option maxRecDepth 100000 in
set_option maxHeartbeats 4000000 in
theorem validPitK (p : PitD) (w : World) : Gives Try.prog 95 [.agg [.int .i64 p.at_, .int .i64 p.hard.lo, .int .i64 p.hard.hi, .int .i64 p.sand.lo, .int .i64 p.sand.hi, .int .i64 p.silt.lo, .int .i64 p.silt.hi, .int .i64 p.clay.lo, .int .i64 p.clay.hi].toArray] w (.bool (pitB p)) := by
  cases h1 : withinB p.hard 1000 <;> cases h2 : withinB p.sand 20 <;> cases h3 : withinB p.silt 20 <;> cases h4 : withinB p.clay 20
  all_goals
    refine .mk <| enter (n := 21) Try.func95 rfl rfl rfl (by repeat (first | exact Fill.nil | apply Fill.cons)) ?_
    refine cw_seq ?_
    refine cw_region ?_
    refine lstep rfl rfl rfl (run_boxN (.tmp rfl)) ?_
    intro b1 _
    refine lstepB rfl rfl rfl (run_assign .const) ?_
    refine lnil ?_
    refine xw_then ?_
    refine cw_seq ?_
    refine cw_region ?_
    refine lstepB rfl rfl rfl (run_fieldAddr (.tmp rfl) fa55_1 (by first | exact Nat.zero_add _ | exact rfl)) ?_
    refine lstepB rfl rfl rfl (run_loadN (.tmp rfl) kd28 sz28 (by repeat (first | exact List.Mem.head _ | apply List.Mem.tail)) (by repeat (first | exact Sub.done | apply Sub.take | apply Sub.skip))) ?_
    refine lstepB rfl rfl rfl (run_call1 cb107 (.cons (.tmp rfl) (.cons .const .nil)) (fun w _ => (withinK ⟨_, _⟩ _ w).as (congrArg Value.bool h1))) ?_
    refine lstepB rfl rfl rfl (run_move (.tmp rfl)) ?_
    first | (refine lyes rfl rfl rfl rfl ?_; refine gstepB rfl rfl (run_fieldAddr (.tmp rfl) fa55_2 (by first | exact Nat.zero_add _ | exact rfl)) ?_) | refine lskip rfl rfl rfl rfl rfl rfl rfl ?_
    first | (refine lyes rfl rfl rfl rfl ?_; refine gstepB rfl rfl (run_loadN (.tmp rfl) kd28 sz28 (by repeat (first | exact List.Mem.head _ | apply List.Mem.tail)) (by repeat (first | exact Sub.done | apply Sub.take | apply Sub.skip))) ?_) | refine lskip rfl rfl rfl rfl rfl rfl rfl ?_
    first | (refine lyes rfl rfl rfl rfl ?_; refine gstepB rfl rfl (run_call1 cb107 (.cons (.tmp rfl) (.cons .const .nil)) (fun w _ => (withinK ⟨_, _⟩ _ w).as (congrArg Value.bool h2))) ?_) | refine lskip rfl rfl rfl rfl rfl rfl rfl ?_
    refine lstepB rfl rfl rfl (by first | exact run_pick_true (.tmp rfl) (.tmp rfl) | exact run_pick_false (.tmp rfl) .const) ?_
    refine lstepB rfl rfl rfl (run_move (.tmp rfl)) ?_
    first | (refine lyes rfl rfl rfl rfl ?_; refine gstepB rfl rfl (run_fieldAddr (.tmp rfl) fa55_3 (by first | exact Nat.zero_add _ | exact rfl)) ?_) | refine lskip rfl rfl rfl rfl rfl rfl rfl ?_
    first | (refine lyes rfl rfl rfl rfl ?_; refine gstepB rfl rfl (run_loadN (.tmp rfl) kd28 sz28 (by repeat (first | exact List.Mem.head _ | apply List.Mem.tail)) (by repeat (first | exact Sub.done | apply Sub.take | apply Sub.skip))) ?_) | refine lskip rfl rfl rfl rfl rfl rfl rfl ?_
    first | (refine lyes rfl rfl rfl rfl ?_; refine gstepB rfl rfl (run_call1 cb107 (.cons (.tmp rfl) (.cons .const .nil)) (fun w _ => (withinK ⟨_, _⟩ _ w).as (congrArg Value.bool h3))) ?_) | refine lskip rfl rfl rfl rfl rfl rfl rfl ?_
    refine lstepB rfl rfl rfl (by first | exact run_pick_true (.tmp rfl) (.tmp rfl) | exact run_pick_false (.tmp rfl) .const) ?_
    refine lstepB rfl rfl rfl (run_move (.tmp rfl)) ?_
    first | (refine lyes rfl rfl rfl rfl ?_; refine gstepB rfl rfl (run_fieldAddr (.tmp rfl) fa55_4 (by first | exact Nat.zero_add _ | exact rfl)) ?_) | refine lskip rfl rfl rfl rfl rfl rfl rfl ?_
    first | (refine lyes rfl rfl rfl rfl ?_; refine gstepB rfl rfl (run_loadN (.tmp rfl) kd28 sz28 (by repeat (first | exact List.Mem.head _ | apply List.Mem.tail)) (by repeat (first | exact Sub.done | apply Sub.take | apply Sub.skip))) ?_) | refine lskip rfl rfl rfl rfl rfl rfl rfl ?_
    first | (refine lyes rfl rfl rfl rfl ?_; refine gstepB rfl rfl (run_call1 cb107 (.cons (.tmp rfl) (.cons .const .nil)) (fun w _ => (withinK ⟨_, _⟩ _ w).as (congrArg Value.bool h4))) ?_) | refine lskip rfl rfl rfl rfl rfl rfl rfl ?_
    refine lstepB rfl rfl rfl (by first | exact run_pick_true (.tmp rfl) (.tmp rfl) | exact run_pick_false (.tmp rfl) .const) ?_
    refine lstepB rfl rfl rfl (run_assign (.tmp rfl)) ?_
    refine lnil ?_
    refine xw_then ?_
    refine cw_ret ?_
    refine xw_ret1 Try.results95 rfl (fun w hS => ⟨by simp [pitB, *], hS.kept⟩)
end Go.Proofs.Ytfmbnobkenngaaa
namespace Go.Proofs.Ytfmbnobkenngaaa
open Go.RowKit En

theorem pitsB_drop {long bef : Int} {l : List PitD} {k : Nat} {p : PitD} (hp : l[k]? = some p) : pitsB long bef (l.drop k) = (!decide (p.at_ ≤ bef) && !decide (long < p.at_) && pitB p && pitsB long p.at_ (l.drop (k + 1))) := by
  obtain ⟨hlt, rfl⟩ := List.getElem?_eq_some_iff.1 hp
  rw [List.drop_eq_getElem_cons hlt]; rfl
theorem validB_big {g : GroundD} (h : 8 < g.pits.length) : validB g = false := by simp [validB]; omega
set_option maxRecDepth 100000 in
set_option maxHeartbeats 4000000 in
theorem validK (g : GroundD) (pa : Option Addr) (pc : Nat) (w : World) (hm : g.pits.length ≤ 1000000) (hp : PitsAt w pa g.pits) : Gives Try.prog 80 [.agg [.int .i64 g.long, .int .i64 g.rise, .int .i64 g.change, .slice pa g.pits.length pc].toArray] w (.bool (validB g)) := by
  refine .mk <| enter (n := 52) Try.func80 rfl rfl rfl (by repeat (first | exact Fill.nil | apply Fill.cons)) ?_
  cases h1 : upToB g.long 40
  ·
    cases h2 : upToB g.rise 1000 <;> cases h3 : upToB g.change 20
    all_goals
      refine cw_seq ?_
      refine cw_region ?_
      refine lstep rfl rfl rfl (run_boxN (.tmp rfl)) ?_
      intro b1 _
      refine lstepB rfl rfl rfl (run_assign .const) ?_
      refine lnil ?_
      refine xw_then ?_
      refine cw_seq ?_
      refine cw_seq ?_
      refine cw_region ?_
      refine lstepB rfl rfl rfl (run_fieldAddr (.tmp rfl) fa24_0 (by first | exact Nat.zero_add _ | exact rfl)) ?_
      refine lstepB rfl rfl rfl (run_load1 (.tmp rfl) kd3 (by repeat (first | exact List.Mem.head _ | apply List.Mem.tail)) (by exact rfl)) ?_
      refine lstepB rfl rfl rfl (run_call1 cb81 (.cons (.tmp rfl) (.cons .const .nil)) (fun w _ => (upToK _ _ w).as (congrArg Value.bool h1))) ?_
      refine lstepB rfl rfl rfl (run_not (.tmp rfl) (by first | exact Bool.not_true | exact Bool.not_false | exact rfl)) ?_
      refine lstepB rfl rfl rfl (run_move (.tmp rfl)) ?_
      first | (refine lyes rfl rfl rfl rfl ?_; refine gstepB rfl rfl (run_fieldAddr (.tmp rfl) fa24_1 (by first | exact Nat.zero_add _ | exact rfl)) ?_) | refine lskip rfl rfl rfl rfl rfl rfl rfl ?_
      first | (refine lyes rfl rfl rfl rfl ?_; refine gstepB rfl rfl (run_load1 (.tmp rfl) kd3 (by repeat (first | exact List.Mem.head _ | apply List.Mem.tail)) (by exact rfl)) ?_) | refine lskip rfl rfl rfl rfl rfl rfl rfl ?_
      first | (refine lyes rfl rfl rfl rfl ?_; refine gstepB rfl rfl (run_call1 cb81 (.cons (.tmp rfl) (.cons .const .nil)) (fun w _ => (upToK _ _ w).as (congrArg Value.bool h2))) ?_) | refine lskip rfl rfl rfl rfl rfl rfl rfl ?_
      first | (refine lyes rfl rfl rfl rfl ?_; refine gstepB rfl rfl (run_not (.tmp rfl) (by first | exact Bool.not_true | exact Bool.not_false | exact rfl)) ?_) | refine lskip rfl rfl rfl rfl rfl rfl rfl ?_
      refine lstepB rfl rfl rfl (by first | exact run_pick_true (.tmp rfl) .const | exact run_pick_false (.tmp rfl) (.tmp rfl)) ?_
      refine lstepB rfl rfl rfl (run_move (.tmp rfl)) ?_
      first | (refine lyes rfl rfl rfl rfl ?_; refine gstepB rfl rfl (run_fieldAddr (.tmp rfl) fa24_2 (by first | exact Nat.zero_add _ | exact rfl)) ?_) | refine lskip rfl rfl rfl rfl rfl rfl rfl ?_
      first | (refine lyes rfl rfl rfl rfl ?_; refine gstepB rfl rfl (run_load1 (.tmp rfl) kd3 (by repeat (first | exact List.Mem.head _ | apply List.Mem.tail)) (by exact rfl)) ?_) | refine lskip rfl rfl rfl rfl rfl rfl rfl ?_
      first | (refine lyes rfl rfl rfl rfl ?_; refine gstepB rfl rfl (run_call1 cb81 (.cons (.tmp rfl) (.cons .const .nil)) (fun w _ => (upToK _ _ w).as (congrArg Value.bool h3))) ?_) | refine lskip rfl rfl rfl rfl rfl rfl rfl ?_
      first | (refine lyes rfl rfl rfl rfl ?_; refine gstepB rfl rfl (run_not (.tmp rfl) (by first | exact Bool.not_true | exact Bool.not_false | exact rfl)) ?_) | refine lskip rfl rfl rfl rfl rfl rfl rfl ?_
      refine lstepB rfl rfl rfl (by first | exact run_pick_true (.tmp rfl) .const | exact run_pick_false (.tmp rfl) (.tmp rfl)) ?_
      refine lnil ?_
      refine xw_then ?_
      refine cw_cond_true (.tmp rfl) ?_
      refine cw_seq ?_
      refine cw_region ?_
      refine lstepB rfl rfl rfl (run_assign .const) ?_
      refine lnil ?_
      refine xw_then ?_
      refine cw_ret ?_
      refine xw_then_ret ?_
      refine xw_ret1 Try.results80 rfl (fun w hS => ⟨by rw [show validB g = false from by simp [validB, h1]], hS.kept⟩)
  ·
    cases h2 : upToB g.rise 1000
    ·
      cases h3 : upToB g.change 20
      all_goals
        refine cw_seq ?_
        refine cw_region ?_
        refine lstep rfl rfl rfl (run_boxN (.tmp rfl)) ?_
        intro b1 _
        refine lstepB rfl rfl rfl (run_assign .const) ?_
        refine lnil ?_
        refine xw_then ?_
        refine cw_seq ?_
        refine cw_seq ?_
        refine cw_region ?_
        refine lstepB rfl rfl rfl (run_fieldAddr (.tmp rfl) fa24_0 (by first | exact Nat.zero_add _ | exact rfl)) ?_
        refine lstepB rfl rfl rfl (run_load1 (.tmp rfl) kd3 (by repeat (first | exact List.Mem.head _ | apply List.Mem.tail)) (by exact rfl)) ?_
        refine lstepB rfl rfl rfl (run_call1 cb81 (.cons (.tmp rfl) (.cons .const .nil)) (fun w _ => (upToK _ _ w).as (congrArg Value.bool h1))) ?_
        refine lstepB rfl rfl rfl (run_not (.tmp rfl) (by first | exact Bool.not_true | exact Bool.not_false | exact rfl)) ?_
        refine lstepB rfl rfl rfl (run_move (.tmp rfl)) ?_
        first | (refine lyes rfl rfl rfl rfl ?_; refine gstepB rfl rfl (run_fieldAddr (.tmp rfl) fa24_1 (by first | exact Nat.zero_add _ | exact rfl)) ?_) | refine lskip rfl rfl rfl rfl rfl rfl rfl ?_
        first | (refine lyes rfl rfl rfl rfl ?_; refine gstepB rfl rfl (run_load1 (.tmp rfl) kd3 (by repeat (first | exact List.Mem.head _ | apply List.Mem.tail)) (by exact rfl)) ?_) | refine lskip rfl rfl rfl rfl rfl rfl rfl ?_
        first | (refine lyes rfl rfl rfl rfl ?_; refine gstepB rfl rfl (run_call1 cb81 (.cons (.tmp rfl) (.cons .const .nil)) (fun w _ => (upToK _ _ w).as (congrArg Value.bool h2))) ?_) | refine lskip rfl rfl rfl rfl rfl rfl rfl ?_
        first | (refine lyes rfl rfl rfl rfl ?_; refine gstepB rfl rfl (run_not (.tmp rfl) (by first | exact Bool.not_true | exact Bool.not_false | exact rfl)) ?_) | refine lskip rfl rfl rfl rfl rfl rfl rfl ?_
        refine lstepB rfl rfl rfl (by first | exact run_pick_true (.tmp rfl) .const | exact run_pick_false (.tmp rfl) (.tmp rfl)) ?_
        refine lstepB rfl rfl rfl (run_move (.tmp rfl)) ?_
        first | (refine lyes rfl rfl rfl rfl ?_; refine gstepB rfl rfl (run_fieldAddr (.tmp rfl) fa24_2 (by first | exact Nat.zero_add _ | exact rfl)) ?_) | refine lskip rfl rfl rfl rfl rfl rfl rfl ?_
        first | (refine lyes rfl rfl rfl rfl ?_; refine gstepB rfl rfl (run_load1 (.tmp rfl) kd3 (by repeat (first | exact List.Mem.head _ | apply List.Mem.tail)) (by exact rfl)) ?_) | refine lskip rfl rfl rfl rfl rfl rfl rfl ?_
        first | (refine lyes rfl rfl rfl rfl ?_; refine gstepB rfl rfl (run_call1 cb81 (.cons (.tmp rfl) (.cons .const .nil)) (fun w _ => (upToK _ _ w).as (congrArg Value.bool h3))) ?_) | refine lskip rfl rfl rfl rfl rfl rfl rfl ?_
        first | (refine lyes rfl rfl rfl rfl ?_; refine gstepB rfl rfl (run_not (.tmp rfl) (by first | exact Bool.not_true | exact Bool.not_false | exact rfl)) ?_) | refine lskip rfl rfl rfl rfl rfl rfl rfl ?_
        refine lstepB rfl rfl rfl (by first | exact run_pick_true (.tmp rfl) .const | exact run_pick_false (.tmp rfl) (.tmp rfl)) ?_
        refine lnil ?_
        refine xw_then ?_
        refine cw_cond_true (.tmp rfl) ?_
        refine cw_seq ?_
        refine cw_region ?_
        refine lstepB rfl rfl rfl (run_assign .const) ?_
        refine lnil ?_
        refine xw_then ?_
        refine cw_ret ?_
        refine xw_then_ret ?_
        refine xw_ret1 Try.results80 rfl (fun w hS => ⟨by rw [show validB g = false from by simp [validB, h2]], hS.kept⟩)
    ·
      cases h3 : upToB g.change 20
      ·
        refine cw_seq ?_
        refine cw_region ?_
        refine lstep rfl rfl rfl (run_boxN (.tmp rfl)) ?_
        intro b1 _
        refine lstepB rfl rfl rfl (run_assign .const) ?_
        refine lnil ?_
        refine xw_then ?_
        refine cw_seq ?_
        refine cw_seq ?_
        refine cw_region ?_
        refine lstepB rfl rfl rfl (run_fieldAddr (.tmp rfl) fa24_0 (by first | exact Nat.zero_add _ | exact rfl)) ?_
        refine lstepB rfl rfl rfl (run_load1 (.tmp rfl) kd3 (by repeat (first | exact List.Mem.head _ | apply List.Mem.tail)) (by exact rfl)) ?_
        refine lstepB rfl rfl rfl (run_call1 cb81 (.cons (.tmp rfl) (.cons .const .nil)) (fun w _ => (upToK _ _ w).as (congrArg Value.bool h1))) ?_
        refine lstepB rfl rfl rfl (run_not (.tmp rfl) (by first | exact Bool.not_true | exact Bool.not_false | exact rfl)) ?_
        refine lstepB rfl rfl rfl (run_move (.tmp rfl)) ?_
        first | (refine lyes rfl rfl rfl rfl ?_; refine gstepB rfl rfl (run_fieldAddr (.tmp rfl) fa24_1 (by first | exact Nat.zero_add _ | exact rfl)) ?_) | refine lskip rfl rfl rfl rfl rfl rfl rfl ?_
        first | (refine lyes rfl rfl rfl rfl ?_; refine gstepB rfl rfl (run_load1 (.tmp rfl) kd3 (by repeat (first | exact List.Mem.head _ | apply List.Mem.tail)) (by exact rfl)) ?_) | refine lskip rfl rfl rfl rfl rfl rfl rfl ?_
        first | (refine lyes rfl rfl rfl rfl ?_; refine gstepB rfl rfl (run_call1 cb81 (.cons (.tmp rfl) (.cons .const .nil)) (fun w _ => (upToK _ _ w).as (congrArg Value.bool h2))) ?_) | refine lskip rfl rfl rfl rfl rfl rfl rfl ?_
        first | (refine lyes rfl rfl rfl rfl ?_; refine gstepB rfl rfl (run_not (.tmp rfl) (by first | exact Bool.not_true | exact Bool.not_false | exact rfl)) ?_) | refine lskip rfl rfl rfl rfl rfl rfl rfl ?_
        refine lstepB rfl rfl rfl (by first | exact run_pick_true (.tmp rfl) .const | exact run_pick_false (.tmp rfl) (.tmp rfl)) ?_
        refine lstepB rfl rfl rfl (run_move (.tmp rfl)) ?_
        first | (refine lyes rfl rfl rfl rfl ?_; refine gstepB rfl rfl (run_fieldAddr (.tmp rfl) fa24_2 (by first | exact Nat.zero_add _ | exact rfl)) ?_) | refine lskip rfl rfl rfl rfl rfl rfl rfl ?_
        first | (refine lyes rfl rfl rfl rfl ?_; refine gstepB rfl rfl (run_load1 (.tmp rfl) kd3 (by repeat (first | exact List.Mem.head _ | apply List.Mem.tail)) (by exact rfl)) ?_) | refine lskip rfl rfl rfl rfl rfl rfl rfl ?_
        first | (refine lyes rfl rfl rfl rfl ?_; refine gstepB rfl rfl (run_call1 cb81 (.cons (.tmp rfl) (.cons .const .nil)) (fun w _ => (upToK _ _ w).as (congrArg Value.bool h3))) ?_) | refine lskip rfl rfl rfl rfl rfl rfl rfl ?_
        first | (refine lyes rfl rfl rfl rfl ?_; refine gstepB rfl rfl (run_not (.tmp rfl) (by first | exact Bool.not_true | exact Bool.not_false | exact rfl)) ?_) | refine lskip rfl rfl rfl rfl rfl rfl rfl ?_
        refine lstepB rfl rfl rfl (by first | exact run_pick_true (.tmp rfl) .const | exact run_pick_false (.tmp rfl) (.tmp rfl)) ?_
        refine lnil ?_
        refine xw_then ?_
        refine cw_cond_true (.tmp rfl) ?_
        refine cw_seq ?_
        refine cw_region ?_
        refine lstepB rfl rfl rfl (run_assign .const) ?_
        refine lnil ?_
        refine xw_then ?_
        refine cw_ret ?_
        refine xw_then_ret ?_
        refine xw_ret1 Try.results80 rfl (fun w hS => ⟨by rw [show validB g = false from by simp [validB, h3]], hS.kept⟩)
      ·
        refine cw_seq ?_
        refine cw_region ?_
        refine lstep rfl rfl rfl (run_boxN (.tmp rfl)) ?_
        intro b1 _
        refine lstepB rfl rfl rfl (run_assign .const) ?_
        refine lnil ?_
        refine xw_then ?_
        refine cw_seq ?_
        refine cw_seq ?_
        refine cw_region ?_
        refine lstepB rfl rfl rfl (run_fieldAddr (.tmp rfl) fa24_0 (by first | exact Nat.zero_add _ | exact rfl)) ?_
        refine lstepB rfl rfl rfl (run_load1 (.tmp rfl) kd3 (by repeat (first | exact List.Mem.head _ | apply List.Mem.tail)) (by exact rfl)) ?_
        refine lstepB rfl rfl rfl (run_call1 cb81 (.cons (.tmp rfl) (.cons .const .nil)) (fun w _ => (upToK _ _ w).as (congrArg Value.bool h1))) ?_
        refine lstepB rfl rfl rfl (run_not (.tmp rfl) (by first | exact Bool.not_true | exact Bool.not_false | exact rfl)) ?_
        refine lstepB rfl rfl rfl (run_move (.tmp rfl)) ?_
        first | (refine lyes rfl rfl rfl rfl ?_; refine gstepB rfl rfl (run_fieldAddr (.tmp rfl) fa24_1 (by first | exact Nat.zero_add _ | exact rfl)) ?_) | refine lskip rfl rfl rfl rfl rfl rfl rfl ?_
        first | (refine lyes rfl rfl rfl rfl ?_; refine gstepB rfl rfl (run_load1 (.tmp rfl) kd3 (by repeat (first | exact List.Mem.head _ | apply List.Mem.tail)) (by exact rfl)) ?_) | refine lskip rfl rfl rfl rfl rfl rfl rfl ?_
        first | (refine lyes rfl rfl rfl rfl ?_; refine gstepB rfl rfl (run_call1 cb81 (.cons (.tmp rfl) (.cons .const .nil)) (fun w _ => (upToK _ _ w).as (congrArg Value.bool h2))) ?_) | refine lskip rfl rfl rfl rfl rfl rfl rfl ?_
        first | (refine lyes rfl rfl rfl rfl ?_; refine gstepB rfl rfl (run_not (.tmp rfl) (by first | exact Bool.not_true | exact Bool.not_false | exact rfl)) ?_) | refine lskip rfl rfl rfl rfl rfl rfl rfl ?_
        refine lstepB rfl rfl rfl (by first | exact run_pick_true (.tmp rfl) .const | exact run_pick_false (.tmp rfl) (.tmp rfl)) ?_
        refine lstepB rfl rfl rfl (run_move (.tmp rfl)) ?_
        first | (refine lyes rfl rfl rfl rfl ?_; refine gstepB rfl rfl (run_fieldAddr (.tmp rfl) fa24_2 (by first | exact Nat.zero_add _ | exact rfl)) ?_) | refine lskip rfl rfl rfl rfl rfl rfl rfl ?_
        first | (refine lyes rfl rfl rfl rfl ?_; refine gstepB rfl rfl (run_load1 (.tmp rfl) kd3 (by repeat (first | exact List.Mem.head _ | apply List.Mem.tail)) (by exact rfl)) ?_) | refine lskip rfl rfl rfl rfl rfl rfl rfl ?_
        first | (refine lyes rfl rfl rfl rfl ?_; refine gstepB rfl rfl (run_call1 cb81 (.cons (.tmp rfl) (.cons .const .nil)) (fun w _ => (upToK _ _ w).as (congrArg Value.bool h3))) ?_) | refine lskip rfl rfl rfl rfl rfl rfl rfl ?_
        first | (refine lyes rfl rfl rfl rfl ?_; refine gstepB rfl rfl (run_not (.tmp rfl) (by first | exact Bool.not_true | exact Bool.not_false | exact rfl)) ?_) | refine lskip rfl rfl rfl rfl rfl rfl rfl ?_
        refine lstepB rfl rfl rfl (by first | exact run_pick_true (.tmp rfl) .const | exact run_pick_false (.tmp rfl) (.tmp rfl)) ?_
        refine lnil ?_
        refine xw_then ?_
        refine cw_cond_false (.tmp rfl) ?_
        refine cw_skip ?_
        refine xw_then ?_
        refine cw_seq ?_
        refine cw_seq ?_
        refine cw_region ?_
        refine lstepB rfl rfl rfl (run_fieldAddr (.tmp rfl) fa24_3 (by first | exact Nat.zero_add _ | exact rfl)) ?_
        refine lstepB rfl rfl rfl (run_load1 (.tmp rfl) kd22 (by repeat (first | exact List.Mem.head _ | apply List.Mem.tail)) (by exact rfl)) ?_
        refine lstepB rfl rfl rfl (run_len (.tmp rfl) sl22) ?_
        refine lstepB rfl rfl rfl (run_gtr (.tmp rfl) .const rfl) ?_
        refine lnil ?_
        refine xw_then ?_
        refine cw_cond_p (.tmp rfl) (fun hb8 => ?_) (fun hb8 => ?_)
        ·
          refine cw_seq ?_
          refine cw_region ?_
          refine lstepB rfl rfl rfl (run_assign .const) ?_
          refine lnil ?_
          refine xw_then ?_
          refine cw_ret ?_
          refine xw_then_ret ?_
          refine xw_ret1 Try.results80 rfl (fun w hS => ⟨by rw [validB_big (by omega)], hS.kept⟩)
        ·
          refine cw_skip ?_
          refine xw_then ?_
          refine cw_seq ?_
          refine cw_region ?_
          refine lstepB rfl rfl rfl (run_assign .const) ?_
          refine lnil ?_
          refine xw_then ?_
          refine cw_seq ?_
          refine cw_seq ?_
          refine cw_region ?_
          refine lstepB rfl rfl rfl (run_fieldAddr (.tmp rfl) fa24_3 (by first | exact Nat.zero_add _ | exact rfl)) ?_
          refine lstepB rfl rfl rfl (run_load1 (.tmp rfl) kd22 (by repeat (first | exact List.Mem.head _ | apply List.Mem.tail)) (by exact rfl)) ?_
          refine lstepB rfl rfl rfl (run_len (.tmp rfl) sl22) ?_
          refine lstepB rfl rfl rfl (run_move .const) ?_
          refine lnil ?_
          refine xw_then ?_
          refine cw_block ?_
          have hv : validB g = pitsB g.long (-1) g.pits := by simp [validB, h1, h2, h3]; omega
          refine cw_loop (S := Nat × Int) (fun s => [(3, .int .i64 s.2), (29, .int .i64 (s.1 : Int))]) [(1, _), (27, _), (28, _)] (fun s => [(_, _)]) (fun s => s.1 ≤ g.pits.length ∧ pitsB g.long (-1) g.pits = pitsB g.long s.2 (g.pits.drop s.1)) (fun s => g.pits.length - s.1) (0, -1) ⟨Nat.zero_le _, rfl⟩ (by repeat (first | exact Less.nil | refine Less.cons rfl ?_)) (by repeat (first | exact Pick.nil | (apply Pick.cons; focus (repeat (first | exact Del.here | apply Del.there))))) ?_
          intro s hs
          obtain ⟨k, bef⟩ := s
          obtain ⟨hk, he⟩ := hs
          dsimp only at hk he ⊢
          refine cw_seq ?_
          refine cw_region ?_
          refine lstepB rfl rfl rfl (run_lss (.tmp rfl) (.tmp rfl) (by first | exact decide_eq_true (by omega) | exact decide_eq_false (by omega) | exact rfl)) ?_
          refine lnil ?_
          refine xw_then ?_
          refine cw_seq ?_
          refine cw_cond_p (.tmp rfl) (fun hl => ?_) (fun hl => ?_)
          ·
            obtain ⟨p, hpk⟩ : ∃ p, g.pits[k]? = some p := ⟨_, List.getElem?_eq_getElem (by omega)⟩
            obtain ⟨b, o, rfl, hb, hc⟩ := hp.pit (by omega)
            have hlt' := (List.getElem?_eq_some_iff.1 hpk).1
            have hd := pitsB_drop (long := g.long) (bef := bef) hpk
            by_cases c1 : p.at_ ≤ bef
            ·
              cases c3 : pitB p
              all_goals
                refine cw_skip ?_
                refine xw_then ?_
                refine cw_seq ?_
                refine cw_block ?_
                refine cw_seq ?_
                refine cw_region ?_
                refine lstepB rfl rfl rfl (run_indexAddr (off' := o + k * 9) (.tmp rfl) (.tmp rfl) el22 (by omega) rfl) ?_
                refine lstepB rfl rfl rfl (run_loadN_at (l := [.int .i64 p.at_, .int .i64 p.hard.lo, .int .i64 p.hard.hi, .int .i64 p.sand.lo, .int .i64 p.sand.hi, .int .i64 p.silt.lo, .int .i64 p.silt.hi, .int .i64 p.clay.lo, .int .i64 p.clay.hi]) (.tmp rfl) kd55 sz55 rfl (fun w' hS j v hj => hS.old_cell (fun h => h) (hc k p hpk j v hj))) ?_
                refine lstep rfl rfl rfl (run_alloc zr55) ?_
                intro b5 _
                refine lstep0 rfl rfl (run_storeN (.tmp rfl) (.tmp rfl) rfl sz55 rfl (by repeat (first | exact Upd.here | apply Upd.there)) (by repeat (first | exact Put.done | apply Put.put | apply Put.skip))) ?_
                refine lnil ?_
                refine xw_then ?_
                refine cw_seq ?_
                refine cw_seq ?_
                refine cw_region ?_
                refine lstepB rfl rfl rfl (run_fieldAddr (.tmp rfl) fa55_0 (by first | exact Nat.zero_add _ | exact rfl)) ?_
                refine lstepB rfl rfl rfl (run_load1 (.tmp rfl) kd3 (by repeat (first | exact List.Mem.head _ | apply List.Mem.tail)) (by exact rfl)) ?_
                refine lstepB rfl rfl rfl (run_move (.tmp rfl)) ?_
                refine lstepB rfl rfl rfl (run_leq (.tmp rfl) (.tmp rfl) (by first | exact decide_eq_true (by omega) | exact decide_eq_false (by omega) | exact rfl)) ?_
                refine lstepB rfl rfl rfl (run_move (.tmp rfl)) ?_
                first | (refine lyes rfl rfl rfl rfl ?_; refine gstepB rfl rfl (run_fieldAddr (.tmp rfl) fa55_0 (by first | exact Nat.zero_add _ | exact rfl)) ?_) | refine lskip rfl rfl rfl rfl rfl rfl rfl ?_
                first | (refine lyes rfl rfl rfl rfl ?_; refine gstepB rfl rfl (run_load1 (.tmp rfl) kd3 (by repeat (first | exact List.Mem.head _ | apply List.Mem.tail)) (by exact rfl)) ?_) | refine lskip rfl rfl rfl rfl rfl rfl rfl ?_
                first | (refine lyes rfl rfl rfl rfl ?_; refine gstepB rfl rfl (run_fieldAddr (.tmp rfl) fa24_0 (by first | exact Nat.zero_add _ | exact rfl)) ?_) | refine lskip rfl rfl rfl rfl rfl rfl rfl ?_
                first | (refine lyes rfl rfl rfl rfl ?_; refine gstepB rfl rfl (run_load1 (.tmp rfl) kd3 (by repeat (first | exact List.Mem.head _ | apply List.Mem.tail)) (by exact rfl)) ?_) | refine lskip rfl rfl rfl rfl rfl rfl rfl ?_
                first | (refine lyes rfl rfl rfl rfl ?_; refine gstepB rfl rfl (run_gtr (.tmp rfl) (.tmp rfl) (by first | exact decide_eq_true (by omega) | exact decide_eq_false (by omega) | exact rfl)) ?_) | refine lskip rfl rfl rfl rfl rfl rfl rfl ?_
                refine lstepB rfl rfl rfl (by first | exact run_pick_true (.tmp rfl) .const | exact run_pick_false (.tmp rfl) (.tmp rfl)) ?_
                refine lstepB rfl rfl rfl (run_move (.tmp rfl)) ?_
                first | (refine lyes rfl rfl rfl rfl ?_; refine gstepB rfl rfl (run_loadN (.tmp rfl) kd55 sz55 (by repeat (first | exact List.Mem.head _ | apply List.Mem.tail)) (by repeat (first | exact Sub.done | apply Sub.take | apply Sub.skip))) ?_) | refine lskip rfl rfl rfl rfl rfl rfl rfl ?_
                first | (refine lyes rfl rfl rfl rfl ?_; refine gstepB rfl rfl (run_call1 cb95 (.cons (.tmp rfl) .nil) (fun w _ => (validPitK p w).as (congrArg Value.bool c3))) ?_) | refine lskip rfl rfl rfl rfl rfl rfl rfl ?_
                first | (refine lyes rfl rfl rfl rfl ?_; refine gstepB rfl rfl (run_not (.tmp rfl) (by first | exact Bool.not_true | exact Bool.not_false | exact rfl)) ?_) | refine lskip rfl rfl rfl rfl rfl rfl rfl ?_
                refine lstepB rfl rfl rfl (by first | exact run_pick_true (.tmp rfl) .const | exact run_pick_false (.tmp rfl) (.tmp rfl)) ?_
                refine lnil ?_
                refine xw_then ?_
                refine cw_cond_true (.tmp rfl) ?_
                refine cw_seq ?_
                refine cw_region ?_
                refine lstepB rfl rfl rfl (run_assign .const) ?_
                refine lnil ?_
                refine xw_then ?_
                refine cw_ret ?_
                refine xw_then_ret ?_
                refine xw_in_ret ?_
                refine xw_then_ret ?_
                refine xw_then_ret ?_
                refine xw_in_ret ?_
                refine xw_then_ret ?_
                refine xw_ret1 Try.results80 rfl (fun w hS => ⟨by rw [hv, he, hd]; simp [c1], hS.kept⟩)
            ·
              by_cases c2 : g.long < p.at_
              ·
                cases c3 : pitB p
                all_goals
                  refine cw_skip ?_
                  refine xw_then ?_
                  refine cw_seq ?_
                  refine cw_block ?_
                  refine cw_seq ?_
                  refine cw_region ?_
                  refine lstepB rfl rfl rfl (run_indexAddr (off' := o + k * 9) (.tmp rfl) (.tmp rfl) el22 (by omega) rfl) ?_
                  refine lstepB rfl rfl rfl (run_loadN_at (l := [.int .i64 p.at_, .int .i64 p.hard.lo, .int .i64 p.hard.hi, .int .i64 p.sand.lo, .int .i64 p.sand.hi, .int .i64 p.silt.lo, .int .i64 p.silt.hi, .int .i64 p.clay.lo, .int .i64 p.clay.hi]) (.tmp rfl) kd55 sz55 rfl (fun w' hS j v hj => hS.old_cell (fun h => h) (hc k p hpk j v hj))) ?_
                  refine lstep rfl rfl rfl (run_alloc zr55) ?_
                  intro b5 _
                  refine lstep0 rfl rfl (run_storeN (.tmp rfl) (.tmp rfl) rfl sz55 rfl (by repeat (first | exact Upd.here | apply Upd.there)) (by repeat (first | exact Put.done | apply Put.put | apply Put.skip))) ?_
                  refine lnil ?_
                  refine xw_then ?_
                  refine cw_seq ?_
                  refine cw_seq ?_
                  refine cw_region ?_
                  refine lstepB rfl rfl rfl (run_fieldAddr (.tmp rfl) fa55_0 (by first | exact Nat.zero_add _ | exact rfl)) ?_
                  refine lstepB rfl rfl rfl (run_load1 (.tmp rfl) kd3 (by repeat (first | exact List.Mem.head _ | apply List.Mem.tail)) (by exact rfl)) ?_
                  refine lstepB rfl rfl rfl (run_move (.tmp rfl)) ?_
                  refine lstepB rfl rfl rfl (run_leq (.tmp rfl) (.tmp rfl) (by first | exact decide_eq_true (by omega) | exact decide_eq_false (by omega) | exact rfl)) ?_
                  refine lstepB rfl rfl rfl (run_move (.tmp rfl)) ?_
                  first | (refine lyes rfl rfl rfl rfl ?_; refine gstepB rfl rfl (run_fieldAddr (.tmp rfl) fa55_0 (by first | exact Nat.zero_add _ | exact rfl)) ?_) | refine lskip rfl rfl rfl rfl rfl rfl rfl ?_
                  first | (refine lyes rfl rfl rfl rfl ?_; refine gstepB rfl rfl (run_load1 (.tmp rfl) kd3 (by repeat (first | exact List.Mem.head _ | apply List.Mem.tail)) (by exact rfl)) ?_) | refine lskip rfl rfl rfl rfl rfl rfl rfl ?_
                  first | (refine lyes rfl rfl rfl rfl ?_; refine gstepB rfl rfl (run_fieldAddr (.tmp rfl) fa24_0 (by first | exact Nat.zero_add _ | exact rfl)) ?_) | refine lskip rfl rfl rfl rfl rfl rfl rfl ?_
                  first | (refine lyes rfl rfl rfl rfl ?_; refine gstepB rfl rfl (run_load1 (.tmp rfl) kd3 (by repeat (first | exact List.Mem.head _ | apply List.Mem.tail)) (by exact rfl)) ?_) | refine lskip rfl rfl rfl rfl rfl rfl rfl ?_
                  first | (refine lyes rfl rfl rfl rfl ?_; refine gstepB rfl rfl (run_gtr (.tmp rfl) (.tmp rfl) (by first | exact decide_eq_true (by omega) | exact decide_eq_false (by omega) | exact rfl)) ?_) | refine lskip rfl rfl rfl rfl rfl rfl rfl ?_
                  refine lstepB rfl rfl rfl (by first | exact run_pick_true (.tmp rfl) .const | exact run_pick_false (.tmp rfl) (.tmp rfl)) ?_
                  refine lstepB rfl rfl rfl (run_move (.tmp rfl)) ?_
                  first | (refine lyes rfl rfl rfl rfl ?_; refine gstepB rfl rfl (run_loadN (.tmp rfl) kd55 sz55 (by repeat (first | exact List.Mem.head _ | apply List.Mem.tail)) (by repeat (first | exact Sub.done | apply Sub.take | apply Sub.skip))) ?_) | refine lskip rfl rfl rfl rfl rfl rfl rfl ?_
                  first | (refine lyes rfl rfl rfl rfl ?_; refine gstepB rfl rfl (run_call1 cb95 (.cons (.tmp rfl) .nil) (fun w _ => (validPitK p w).as (congrArg Value.bool c3))) ?_) | refine lskip rfl rfl rfl rfl rfl rfl rfl ?_
                  first | (refine lyes rfl rfl rfl rfl ?_; refine gstepB rfl rfl (run_not (.tmp rfl) (by first | exact Bool.not_true | exact Bool.not_false | exact rfl)) ?_) | refine lskip rfl rfl rfl rfl rfl rfl rfl ?_
                  refine lstepB rfl rfl rfl (by first | exact run_pick_true (.tmp rfl) .const | exact run_pick_false (.tmp rfl) (.tmp rfl)) ?_
                  refine lnil ?_
                  refine xw_then ?_
                  refine cw_cond_true (.tmp rfl) ?_
                  refine cw_seq ?_
                  refine cw_region ?_
                  refine lstepB rfl rfl rfl (run_assign .const) ?_
                  refine lnil ?_
                  refine xw_then ?_
                  refine cw_ret ?_
                  refine xw_then_ret ?_
                  refine xw_in_ret ?_
                  refine xw_then_ret ?_
                  refine xw_then_ret ?_
                  refine xw_in_ret ?_
                  refine xw_then_ret ?_
                  refine xw_ret1 Try.results80 rfl (fun w hS => ⟨by rw [hv, he, hd]; simp [c2], hS.kept⟩)
              ·
                cases c3 : pitB p
                ·
                  refine cw_skip ?_
                  refine xw_then ?_
                  refine cw_seq ?_
                  refine cw_block ?_
                  refine cw_seq ?_
                  refine cw_region ?_
                  refine lstepB rfl rfl rfl (run_indexAddr (off' := o + k * 9) (.tmp rfl) (.tmp rfl) el22 (by omega) rfl) ?_
                  refine lstepB rfl rfl rfl (run_loadN_at (l := [.int .i64 p.at_, .int .i64 p.hard.lo, .int .i64 p.hard.hi, .int .i64 p.sand.lo, .int .i64 p.sand.hi, .int .i64 p.silt.lo, .int .i64 p.silt.hi, .int .i64 p.clay.lo, .int .i64 p.clay.hi]) (.tmp rfl) kd55 sz55 rfl (fun w' hS j v hj => hS.old_cell (fun h => h) (hc k p hpk j v hj))) ?_
                  refine lstep rfl rfl rfl (run_alloc zr55) ?_
                  intro b5 _
                  refine lstep0 rfl rfl (run_storeN (.tmp rfl) (.tmp rfl) rfl sz55 rfl (by repeat (first | exact Upd.here | apply Upd.there)) (by repeat (first | exact Put.done | apply Put.put | apply Put.skip))) ?_
                  refine lnil ?_
                  refine xw_then ?_
                  refine cw_seq ?_
                  refine cw_seq ?_
                  refine cw_region ?_
                  refine lstepB rfl rfl rfl (run_fieldAddr (.tmp rfl) fa55_0 (by first | exact Nat.zero_add _ | exact rfl)) ?_
                  refine lstepB rfl rfl rfl (run_load1 (.tmp rfl) kd3 (by repeat (first | exact List.Mem.head _ | apply List.Mem.tail)) (by exact rfl)) ?_
                  refine lstepB rfl rfl rfl (run_move (.tmp rfl)) ?_
                  refine lstepB rfl rfl rfl (run_leq (.tmp rfl) (.tmp rfl) (by first | exact decide_eq_true (by omega) | exact decide_eq_false (by omega) | exact rfl)) ?_
                  refine lstepB rfl rfl rfl (run_move (.tmp rfl)) ?_
                  first | (refine lyes rfl rfl rfl rfl ?_; refine gstepB rfl rfl (run_fieldAddr (.tmp rfl) fa55_0 (by first | exact Nat.zero_add _ | exact rfl)) ?_) | refine lskip rfl rfl rfl rfl rfl rfl rfl ?_
                  first | (refine lyes rfl rfl rfl rfl ?_; refine gstepB rfl rfl (run_load1 (.tmp rfl) kd3 (by repeat (first | exact List.Mem.head _ | apply List.Mem.tail)) (by exact rfl)) ?_) | refine lskip rfl rfl rfl rfl rfl rfl rfl ?_
                  first | (refine lyes rfl rfl rfl rfl ?_; refine gstepB rfl rfl (run_fieldAddr (.tmp rfl) fa24_0 (by first | exact Nat.zero_add _ | exact rfl)) ?_) | refine lskip rfl rfl rfl rfl rfl rfl rfl ?_
                  first | (refine lyes rfl rfl rfl rfl ?_; refine gstepB rfl rfl (run_load1 (.tmp rfl) kd3 (by repeat (first | exact List.Mem.head _ | apply List.Mem.tail)) (by exact rfl)) ?_) | refine lskip rfl rfl rfl rfl rfl rfl rfl ?_
                  first | (refine lyes rfl rfl rfl rfl ?_; refine gstepB rfl rfl (run_gtr (.tmp rfl) (.tmp rfl) (by first | exact decide_eq_true (by omega) | exact decide_eq_false (by omega) | exact rfl)) ?_) | refine lskip rfl rfl rfl rfl rfl rfl rfl ?_
                  refine lstepB rfl rfl rfl (by first | exact run_pick_true (.tmp rfl) .const | exact run_pick_false (.tmp rfl) (.tmp rfl)) ?_
                  refine lstepB rfl rfl rfl (run_move (.tmp rfl)) ?_
                  first | (refine lyes rfl rfl rfl rfl ?_; refine gstepB rfl rfl (run_loadN (.tmp rfl) kd55 sz55 (by repeat (first | exact List.Mem.head _ | apply List.Mem.tail)) (by repeat (first | exact Sub.done | apply Sub.take | apply Sub.skip))) ?_) | refine lskip rfl rfl rfl rfl rfl rfl rfl ?_
                  first | (refine lyes rfl rfl rfl rfl ?_; refine gstepB rfl rfl (run_call1 cb95 (.cons (.tmp rfl) .nil) (fun w _ => (validPitK p w).as (congrArg Value.bool c3))) ?_) | refine lskip rfl rfl rfl rfl rfl rfl rfl ?_
                  first | (refine lyes rfl rfl rfl rfl ?_; refine gstepB rfl rfl (run_not (.tmp rfl) (by first | exact Bool.not_true | exact Bool.not_false | exact rfl)) ?_) | refine lskip rfl rfl rfl rfl rfl rfl rfl ?_
                  refine lstepB rfl rfl rfl (by first | exact run_pick_true (.tmp rfl) .const | exact run_pick_false (.tmp rfl) (.tmp rfl)) ?_
                  refine lnil ?_
                  refine xw_then ?_
                  refine cw_cond_true (.tmp rfl) ?_
                  refine cw_seq ?_
                  refine cw_region ?_
                  refine lstepB rfl rfl rfl (run_assign .const) ?_
                  refine lnil ?_
                  refine xw_then ?_
                  refine cw_ret ?_
                  refine xw_then_ret ?_
                  refine xw_in_ret ?_
                  refine xw_then_ret ?_
                  refine xw_then_ret ?_
                  refine xw_in_ret ?_
                  refine xw_then_ret ?_
                  refine xw_ret1 Try.results80 rfl (fun w hS => ⟨by rw [hv, he, hd]; simp [c3], hS.kept⟩)
                ·
                  refine cw_skip ?_
                  refine xw_then ?_
                  refine cw_seq ?_
                  refine cw_block ?_
                  refine cw_seq ?_
                  refine cw_region ?_
                  refine lstepB rfl rfl rfl (run_indexAddr (off' := o + k * 9) (.tmp rfl) (.tmp rfl) el22 (by omega) rfl) ?_
                  refine lstepB rfl rfl rfl (run_loadN_at (l := [.int .i64 p.at_, .int .i64 p.hard.lo, .int .i64 p.hard.hi, .int .i64 p.sand.lo, .int .i64 p.sand.hi, .int .i64 p.silt.lo, .int .i64 p.silt.hi, .int .i64 p.clay.lo, .int .i64 p.clay.hi]) (.tmp rfl) kd55 sz55 rfl (fun w' hS j v hj => hS.old_cell (fun h => h) (hc k p hpk j v hj))) ?_
                  refine lstep rfl rfl rfl (run_alloc zr55) ?_
                  intro b5 _
                  refine lstep0 rfl rfl (run_storeN (.tmp rfl) (.tmp rfl) rfl sz55 rfl (by repeat (first | exact Upd.here | apply Upd.there)) (by repeat (first | exact Put.done | apply Put.put | apply Put.skip))) ?_
                  refine lnil ?_
                  refine xw_then ?_
                  refine cw_seq ?_
                  refine cw_seq ?_
                  refine cw_region ?_
                  refine lstepB rfl rfl rfl (run_fieldAddr (.tmp rfl) fa55_0 (by first | exact Nat.zero_add _ | exact rfl)) ?_
                  refine lstepB rfl rfl rfl (run_load1 (.tmp rfl) kd3 (by repeat (first | exact List.Mem.head _ | apply List.Mem.tail)) (by exact rfl)) ?_
                  refine lstepB rfl rfl rfl (run_move (.tmp rfl)) ?_
                  refine lstepB rfl rfl rfl (run_leq (.tmp rfl) (.tmp rfl) (by first | exact decide_eq_true (by omega) | exact decide_eq_false (by omega) | exact rfl)) ?_
                  refine lstepB rfl rfl rfl (run_move (.tmp rfl)) ?_
                  first | (refine lyes rfl rfl rfl rfl ?_; refine gstepB rfl rfl (run_fieldAddr (.tmp rfl) fa55_0 (by first | exact Nat.zero_add _ | exact rfl)) ?_) | refine lskip rfl rfl rfl rfl rfl rfl rfl ?_
                  first | (refine lyes rfl rfl rfl rfl ?_; refine gstepB rfl rfl (run_load1 (.tmp rfl) kd3 (by repeat (first | exact List.Mem.head _ | apply List.Mem.tail)) (by exact rfl)) ?_) | refine lskip rfl rfl rfl rfl rfl rfl rfl ?_
                  first | (refine lyes rfl rfl rfl rfl ?_; refine gstepB rfl rfl (run_fieldAddr (.tmp rfl) fa24_0 (by first | exact Nat.zero_add _ | exact rfl)) ?_) | refine lskip rfl rfl rfl rfl rfl rfl rfl ?_
                  first | (refine lyes rfl rfl rfl rfl ?_; refine gstepB rfl rfl (run_load1 (.tmp rfl) kd3 (by repeat (first | exact List.Mem.head _ | apply List.Mem.tail)) (by exact rfl)) ?_) | refine lskip rfl rfl rfl rfl rfl rfl rfl ?_
                  first | (refine lyes rfl rfl rfl rfl ?_; refine gstepB rfl rfl (run_gtr (.tmp rfl) (.tmp rfl) (by first | exact decide_eq_true (by omega) | exact decide_eq_false (by omega) | exact rfl)) ?_) | refine lskip rfl rfl rfl rfl rfl rfl rfl ?_
                  refine lstepB rfl rfl rfl (by first | exact run_pick_true (.tmp rfl) .const | exact run_pick_false (.tmp rfl) (.tmp rfl)) ?_
                  refine lstepB rfl rfl rfl (run_move (.tmp rfl)) ?_
                  first | (refine lyes rfl rfl rfl rfl ?_; refine gstepB rfl rfl (run_loadN (.tmp rfl) kd55 sz55 (by repeat (first | exact List.Mem.head _ | apply List.Mem.tail)) (by repeat (first | exact Sub.done | apply Sub.take | apply Sub.skip))) ?_) | refine lskip rfl rfl rfl rfl rfl rfl rfl ?_
                  first | (refine lyes rfl rfl rfl rfl ?_; refine gstepB rfl rfl (run_call1 cb95 (.cons (.tmp rfl) .nil) (fun w _ => (validPitK p w).as (congrArg Value.bool c3))) ?_) | refine lskip rfl rfl rfl rfl rfl rfl rfl ?_
                  first | (refine lyes rfl rfl rfl rfl ?_; refine gstepB rfl rfl (run_not (.tmp rfl) (by first | exact Bool.not_true | exact Bool.not_false | exact rfl)) ?_) | refine lskip rfl rfl rfl rfl rfl rfl rfl ?_
                  refine lstepB rfl rfl rfl (by first | exact run_pick_true (.tmp rfl) .const | exact run_pick_false (.tmp rfl) (.tmp rfl)) ?_
                  refine lnil ?_
                  refine xw_then ?_
                  refine cw_cond_false (.tmp rfl) ?_
                  refine cw_skip ?_
                  refine xw_then ?_
                  refine cw_region ?_
                  refine lstepB rfl rfl rfl (run_fieldAddr (.tmp rfl) fa55_0 (by first | exact Nat.zero_add _ | exact rfl)) ?_
                  refine lstepB rfl rfl rfl (run_load1 (.tmp rfl) kd3 (by repeat (first | exact List.Mem.head _ | apply List.Mem.tail)) (by exact rfl)) ?_
                  refine lstepB rfl rfl rfl (run_assign (.tmp rfl)) ?_
                  refine lnil ?_
                  refine xw_in ?_
                  refine xw_then ?_
                  refine cw_region ?_
                  refine lstepB rfl rfl rfl (run_add (.tmp rfl) .const (by first | exact IntWalk.i64_in _ (by omega) | exact rfl)) ?_
                  refine lstepB rfl rfl rfl (run_move (.tmp rfl)) ?_
                  refine lnil ?_
                  exact xw_round (k + 1, p.at_) ⟨by show k + 1 ≤ _; omega, by rw [he, hd]; simp [c1, c2, c3]⟩ (by show g.pits.length - (k + 1) < g.pits.length - k; omega) (by repeat (first | exact Less.nil | refine Less.cons rfl ?_)) (by repeat (first | exact Pick.nil | (apply Pick.cons; focus (repeat (first | exact Del.here | apply Del.there)))))
          ·
            obtain rfl : k = g.pits.length := by omega
            refine cw_exit ?_
            refine xw_then_exit ?_
            refine xw_then_exit ?_
            refine xw_in_exit ?_
            refine xw_then ?_
            refine cw_seq ?_
            refine cw_region ?_
            refine lstepB rfl rfl rfl (run_assign .const) ?_
            refine lnil ?_
            refine xw_then ?_
            refine cw_ret ?_
            refine xw_ret1 Try.results80 rfl (fun w hS => ⟨by rw [hv, he, List.drop_length]; rfl, hS.kept⟩)
end Go.Proofs.Ytfmbnobkenngaaa
