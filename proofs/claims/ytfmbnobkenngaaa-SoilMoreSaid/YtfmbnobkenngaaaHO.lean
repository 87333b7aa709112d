/- Soil: the laws' helper with. -/
import Derived.Test.YtfmbnobkenngaaaHG
import Derived.Test.YtfmbnobkenngaaaHMO
namespace Go.Proofs.Ytfmbnobkenngaaa
open Go.RowKit En

def mergeP (o p : PitD) : PitD := ⟨o.at_, overlapS o.hard p.hard, overlapS o.sand p.sand, overlapS o.silt p.silt, overlapS o.clay p.clay⟩
def stepW (p : PitD) (st : Bool × List PitD) (o : PitD) : Bool × List PitD :=
  ((st.1 || decide (p.at_ < o.at_)) || decide (o.at_ = p.at_), (if !st.1 && decide (p.at_ < o.at_) then st.2 ++ [p] else st.2) ++ [if o.at_ = p.at_ then mergeP o p else o])
def foldW (p : PitD) (l : List PitD) : Bool × List PitD := l.foldl (stepW p) (false, [])
def withG (g : GroundD) (p : PitD) : GroundD := { g with pits := if (foldW p g.pits).1 then (foldW p g.pits).2 else (foldW p g.pits).2 ++ [p] }
theorem foldW_succ {p o : PitD} {l : List PitD} {k : Nat} (h : l[k]? = some o) : foldW p (l.take (k + 1)) = stepW p (foldW p (l.take k)) o := by
  simp [foldW, List.take_add_one, h, List.foldl_append]
theorem stepA {p o : PitD} {st : Bool × List PitD} (h : st.1 = false) (hl : p.at_ < o.at_) : stepW p st o = (true, (st.2 ++ [p]) ++ [o]) := by
  have : ¬ o.at_ = p.at_ := by omega
  simp [stepW, h, hl, this]
theorem stepB {p o : PitD} {st : Bool × List PitD} (h : st.1 = true) (hl : p.at_ < o.at_) : stepW p st o = (true, st.2 ++ [o]) := by
  have : ¬ o.at_ = p.at_ := by omega
  simp [stepW, h, this]
theorem stepC {p o : PitD} {st : Bool × List PitD} (hl : o.at_ = p.at_) : stepW p st o = (true, st.2 ++ [mergeP o p]) := by
  have : ¬ p.at_ < o.at_ := by omega
  simp [stepW, hl]
theorem stepD {p o : PitD} {st : Bool × List PitD} (hl : o.at_ < p.at_) : stepW p st o = (st.1, st.2 ++ [o]) := by
  have h1 : ¬ p.at_ < o.at_ := by omega
  have h2 : ¬ o.at_ = p.at_ := by omega
  simp [stepW, h1, h2]
theorem foldW_len (p : PitD) (l : List PitD) : ∀ k, (foldW p (l.take k)).2.length ≤ k + 1 ∧ ((foldW p (l.take k)).1 = false → (foldW p (l.take k)).2.length ≤ k) ∧ (k ≤ l.length → 1 ≤ k → 1 ≤ (foldW p (l.take k)).2.length)
  | 0 => by simp [foldW]
  | k + 1 => by
    obtain ⟨i1, i2, _⟩ := foldW_len p l k
    cases h : l[k]? with
    | none =>
      have hk : l.length ≤ k := by
        rcases Nat.lt_or_ge k l.length with h' | h'
        · rw [List.getElem?_eq_getElem h'] at h; cases h
        · exact h'
      have e : l.take (k + 1) = l.take k := by rw [List.take_of_length_le (by omega), List.take_of_length_le hk]
      rw [e]
      exact ⟨by omega, fun h0 => by have := i2 h0; omega, fun h0 => by omega⟩
    | some o =>
      rw [foldW_succ h]
      rcases Int.lt_trichotomy p.at_ o.at_ with hl | hl | hl
      · cases hp : (foldW p (l.take k)).1 with
        | false =>
          rw [stepA hp hl]
          have := i2 hp
          refine ⟨by simp only [List.length_append, List.length_cons, List.length_nil]; omega, fun h0 => (by cases h0), fun _ _ => by simp only [List.length_append, List.length_cons, List.length_nil]; omega⟩
        | true =>
          rw [stepB hp hl]
          refine ⟨by simp only [List.length_append, List.length_cons, List.length_nil]; omega, fun h0 => (by cases h0), fun _ _ => by simp only [List.length_append, List.length_cons, List.length_nil]; omega⟩
      · rw [stepC hl.symm]
        refine ⟨by simp only [List.length_append, List.length_cons, List.length_nil]; omega, fun h0 => (by cases h0), fun _ _ => by simp only [List.length_append, List.length_cons, List.length_nil]; omega⟩
      · rw [stepD hl]
        refine ⟨by simp only [List.length_append, List.length_cons, List.length_nil]; omega, fun h0 => ?_, fun _ _ => by simp only [List.length_append, List.length_cons, List.length_nil]; omega⟩
        have := i2 h0
        simp only [List.length_append, List.length_cons, List.length_nil]; omega
set_option maxRecDepth 100000 in
set_option maxHeartbeats 4000000 in
theorem bothLK (a b : SpanD) (w : World) : Gives Try.prog 77 [.agg [.int .i64 a.lo, .int .i64 a.hi].toArray, .agg [.int .i64 b.lo, .int .i64 b.hi].toArray] w (.agg [.int .i64 (overlapS a b).lo, .int .i64 (overlapS a b).hi].toArray) := by
  refine .mk <| enter (n := 16) Try.func77 rfl rfl rfl (by repeat (first | exact Fill.nil | apply Fill.cons)) ?_
  refine cw_seq ?_
  refine cw_region ?_
  refine lstep rfl rfl rfl (run_boxN (.tmp rfl)) ?_
  intro b2 _
  refine lstep rfl rfl rfl (run_boxN (.tmp rfl)) ?_
  intro b3 _
  refine lstep rfl rfl rfl (run_alloc zr28) ?_
  intro b4 _
  refine lnil ?_
  refine xw_then ?_
  refine cw_seq ?_
  refine cw_region ?_
  refine lstepB rfl rfl rfl (run_fieldAddr (.tmp rfl) fa28_0 (by first | exact Nat.zero_add _ | exact rfl)) ?_
  refine lstepB rfl rfl rfl (run_load1 (.tmp rfl) kd3 (by repeat (first | exact List.Mem.head _ | apply List.Mem.tail)) (by exact rfl)) ?_
  refine lstepB rfl rfl rfl (run_fieldAddr (.tmp rfl) fa28_0 (by first | exact Nat.zero_add _ | exact rfl)) ?_
  refine lstepB rfl rfl rfl (run_load1 (.tmp rfl) kd3 (by repeat (first | exact List.Mem.head _ | apply List.Mem.tail)) (by exact rfl)) ?_
  refine lstepB rfl rfl rfl (run_max2 (.tmp rfl) (.tmp rfl)) ?_
  refine lstepB rfl rfl rfl (run_fieldAddr (.tmp rfl) fa28_1 (by first | exact Nat.zero_add _ | exact rfl)) ?_
  refine lstepB rfl rfl rfl (run_load1 (.tmp rfl) kd3 (by repeat (first | exact List.Mem.head _ | apply List.Mem.tail)) (by exact rfl)) ?_
  refine lstepB rfl rfl rfl (run_fieldAddr (.tmp rfl) fa28_1 (by first | exact Nat.zero_add _ | exact rfl)) ?_
  refine lstepB rfl rfl rfl (run_load1 (.tmp rfl) kd3 (by repeat (first | exact List.Mem.head _ | apply List.Mem.tail)) (by exact rfl)) ?_
  refine lstepB rfl rfl rfl (run_min2 (.tmp rfl) (.tmp rfl)) ?_
  refine lstepB rfl rfl rfl (run_call1 cb31 (.cons (.tmp rfl) (.cons (.tmp rfl) .nil)) (fun w _ => spanLK _ _ w)) ?_
  refine lstep0 rfl rfl (run_storeN (.tmp rfl) (.tmp rfl) rfl sz28 rfl (by repeat (first | exact Upd.here | apply Upd.there)) (by repeat (first | exact Put.done | apply Put.put | apply Put.skip))) ?_
  refine lnil ?_
  refine xw_then ?_
  refine cw_ret ?_
  refine xw_retC1 rfl rfl kd28 sz28 (by repeat (first | exact List.Mem.head _ | apply List.Mem.tail)) (by repeat (first | exact Sub.done | apply Sub.take | apply Sub.skip)) (fun w hS => ⟨rfl, hS.kept⟩)
set_option maxRecDepth 100000 in
set_option maxHeartbeats 4000000 in
theorem with0K (g : GroundD) (p : PitD) (pa : Option Addr) (pc : Nat) (w : World) (hz0 : g.pits = []) : CallsF Try.prog 38 (([.agg [.int .i64 g.long, .int .i64 g.rise, .int .i64 g.change, .slice pa g.pits.length pc].toArray, .agg [.int .i64 p.at_, .int .i64 p.hard.lo, .int .i64 p.hard.hi, .int .i64 p.sand.lo, .int .i64 p.sand.hi, .int .i64 p.silt.lo, .int .i64 p.silt.hi, .int .i64 p.clay.lo, .int .i64 p.clay.hi].toArray] : List Value)).toArray w fun e w' => ∃ q : Nat × Nat × List Value, InRow 9 (withG g p).pits.length q.2.1 q.2.2 (pitsC (withG g p).pits) ∧ e = .returned (.tuple #[.agg [.int .i64 g.long, .int .i64 g.rise, .int .i64 g.change, .slice (some ⟨q.1, 0, none⟩) (withG g p).pits.length q.2.1].toArray, .bool (validB (withG g p))]) ∧ St w NoT [(q.1, Obj.cells q.2.2.toArray 55 (0, 0))] w' := by
  have hz1 : g.pits.length = 0 := by rw [hz0]; rfl
  refine enter (n := 86) Try.func38 rfl rfl rfl (by repeat (first | exact Fill.nil | apply Fill.cons)) ?_
  refine cw_seq ?_
  refine cw_region ?_
  refine lstep rfl rfl rfl (run_boxN (.tmp rfl)) ?_
  intro b2 _
  refine lstep rfl rfl rfl (run_boxN (.tmp rfl)) ?_
  intro b3 _
  refine lstep rfl rfl rfl (run_alloc zr24) ?_
  intro b4 _
  refine lstepB rfl rfl rfl (run_assign .const) ?_
  refine lnil ?_
  refine xw_then ?_
  refine cw_seq ?_
  refine cw_region ?_
  refine lstepB rfl rfl rfl (run_assign .func) ?_
  refine lnil ?_
  refine xw_then ?_
  refine cw_seq ?_
  refine cw_region ?_
  refine lstepB rfl rfl rfl (run_loadN (.tmp rfl) kd24 sz24 (by repeat (first | exact List.Mem.head _ | apply List.Mem.tail)) (by repeat (first | exact Sub.done | apply Sub.take | apply Sub.skip))) ?_
  refine lstep rfl rfl rfl (run_alloc zr24) ?_
  intro b7 _
  refine lstep0 rfl rfl (run_storeN (.tmp rfl) (.tmp rfl) rfl sz24 rfl (by repeat (first | exact Upd.here | apply Upd.there)) (by repeat (first | exact Put.done | apply Put.put | apply Put.skip))) ?_
  refine lnil ?_
  refine xw_then ?_
  refine cw_seq ?_
  refine cw_region ?_
  refine lstepB rfl rfl rfl (run_fieldAddr (.tmp rfl) fa24_3 (by first | exact Nat.zero_add _ | exact rfl)) ?_
  refine lstep0 rfl rfl (run_store1 (.tmp rfl) .const rfl sz22 (by repeat (first | exact Upd.here | apply Upd.there)) (by repeat (first | exact Put.done | apply Put.put | apply Put.skip))) ?_
  refine lnil ?_
  refine xw_then ?_
  refine cw_seq ?_
  refine cw_region ?_
  refine lstepB rfl rfl rfl (run_assign .const) ?_
  refine lnil ?_
  refine xw_then ?_
  refine cw_seq ?_
  refine cw_seq ?_
  refine cw_region ?_
  refine lstepB rfl rfl rfl (run_fieldAddr (.tmp rfl) fa24_3 (by first | exact Nat.zero_add _ | exact rfl)) ?_
  refine lstepB rfl rfl rfl (run_load1 (.tmp rfl) kd22 (by repeat (first | exact List.Mem.head _ | apply List.Mem.tail)) (by exact rfl)) ?_
  refine lstepB rfl rfl rfl (run_len (.tmp rfl) sl22) ?_
  refine lstepB rfl rfl rfl (run_move .const) ?_
  refine lnil ?_
  refine xw_then ?_
  refine cw_block ?_
  refine cw_loop (S := Nat × Option (Nat × Nat × List Value)) (fun s => [(16, .int .i64 ((s.1 : Nat) : Int)), (8, .bool (foldW p (g.pits.take s.1)).1)]) [(2, _), (3, _), (4, _), (5, _), (6, _), (7, _), (14, _), (15, _)] (fun s => (match s.2 with | none => [(b7, Obj.cells [.int .i64 g.long, .int .i64 g.rise, .int .i64 g.change, .slice none 0 0].toArray 24 (0, 0))] | some q => [(q.1, Obj.cells q.2.2.toArray 55 (0, 0)), (b7, Obj.cells [.int .i64 g.long, .int .i64 g.rise, .int .i64 g.change, (.slice (some ⟨q.1, 0, none⟩) (foldW p (g.pits.take s.1)).2.length q.2.1)].toArray 24 (0, 0))]) ++ [(b4, Obj.cells [.int .i64 0, .int .i64 0, .int .i64 0, .slice none 0 0].toArray 24 (0, 0)), (b3, Obj.cells [.int .i64 p.at_, .int .i64 p.hard.lo, .int .i64 p.hard.hi, .int .i64 p.sand.lo, .int .i64 p.sand.hi, .int .i64 p.silt.lo, .int .i64 p.silt.hi, .int .i64 p.clay.lo, .int .i64 p.clay.hi].toArray 55 (0, 0)), (b2, Obj.cells [.int .i64 g.long, .int .i64 g.rise, .int .i64 g.change, .slice pa g.pits.length pc].toArray 24 (0, 0))]) (fun s => s.1 ≤ g.pits.length ∧ match s.2 with | none => s.1 = 0 | some q => 1 ≤ s.1 ∧ InRow 9 (foldW p (g.pits.take s.1)).2.length q.2.1 q.2.2 (pitsC (foldW p (g.pits.take s.1)).2)) (fun s => g.pits.length - s.1) (0, none) ⟨Nat.zero_le _, rfl⟩ (by repeat (first | exact Less.nil | refine Less.cons rfl ?_)) (by repeat (first | exact Pick.nil | (apply Pick.cons; focus (repeat (first | exact Del.here | apply Del.there))))) ?_
  intro s hs
  obtain ⟨k, o⟩ := s
  obtain ⟨hk, ho2⟩ := hs
  cases o
  case none =>
    dsimp only at hk ho2 ⊢
    subst ho2
    refine cw_seq ?_
    refine cw_region ?_
    refine lstepB rfl rfl rfl (run_lss (.tmp rfl) (.tmp rfl) rfl) ?_
    refine lnil ?_
    refine xw_then ?_
    refine cw_seq ?_
    refine cw_cond_p (.tmp rfl) (fun hl => ?_) (fun hl => ?_)
    ·
      exfalso; omega
    ·
      refine cw_exit ?_
      refine xw_then_exit ?_
      refine xw_then_exit ?_
      refine xw_in_exit ?_
      refine xw_then ?_
      refine cw_seq ?_
      refine cw_seq ?_
      refine cw_region ?_
      refine lstepB rfl rfl rfl (run_move (.tmp rfl)) ?_
      refine lstepB rfl rfl rfl (run_not (.tmp rfl) (by first | exact Bool.not_true | exact Bool.not_false | exact rfl)) ?_
      refine lnil ?_
      refine xw_then ?_
      refine cw_cond_true (.tmp rfl) ?_
      refine cw_region ?_
      refine lstepB rfl rfl rfl (run_fieldAddr (.tmp rfl) fa24_3 (by first | exact Nat.zero_add _ | exact rfl)) ?_
      refine lstepB rfl rfl rfl (run_load1 (.tmp rfl) kd22 (by repeat (first | exact List.Mem.head _ | apply List.Mem.tail)) (by exact rfl)) ?_
      refine lstepB rfl rfl rfl (run_loadN (.tmp rfl) kd55 sz55 (by repeat (first | exact List.Mem.head _ | apply List.Mem.tail)) (by repeat (first | exact Sub.done | apply Sub.take | apply Sub.skip))) ?_
      refine lstep rfl rfl rfl (LR.runs (lr_buildSlice_at (.cons (.tmp rfl) .nil) (fun w => bs22_1_0 w)) (by repeat (first | exact Pick.nil | (apply Pick.cons; focus (repeat (first | exact Del.here | apply Del.there))))) (by repeat (first | exact Dels.nil | (apply Dels.cons; focus (repeat (first | exact Del.here | apply Del.there)))))) ?_
      intro b80 _
      refine lstep rfl rfl rfl (LR.runs (R := [(b80, _)]) (A := []) (lr_append_nil ap22 (.tmp rfl) (.tmp rfl) (news := pitC p) rfl (by omega) (by omega) (by decide) (news_own (by repeat (first | exact List.Mem.head _ | apply List.Mem.tail)))) (by repeat (first | exact Pick.nil | (apply Pick.cons; focus (repeat (first | exact Del.here | apply Del.there))))) (by repeat (first | exact Dels.nil | (apply Dels.cons; focus (repeat (first | exact Del.here | apply Del.there)))))) ?_
      intro ⟨gF, cgF, rgF⟩ hgF
      have hwp : (withG g p).pits = [p] := by simp [withG, hz0, foldW]
      have hwl : (withG g p).pits.length ≤ 1000000 := by rw [hwp]; simp
      have hF : InRow 9 (withG g p).pits.length cgF rgF (pitsC (withG g p).pits) := by rw [hwp]; exact hgF
      have hl1 : 1 = (withG g p).pits.length := by rw [hwp]; rfl
      obtain ⟨cF, hcF⟩ : ∃ c, cgF = c := ⟨_, rfl⟩
      obtain ⟨rF, hrF⟩ : ∃ c, rgF = c := ⟨_, rfl⟩
      rw [hcF, hrF] at hF
      dsimp only
      rw [hcF, hrF, (show Value.slice (some ⟨gF, 0, none⟩) 1 cF = Value.slice (some ⟨gF, 0, none⟩) (withG g p).pits.length cF from congrArg (fun n => Value.slice (some ⟨gF, 0, none⟩) n cF) hl1)]
      refine lstepB rfl rfl rfl (run_fieldAddr (.tmp rfl) fa24_3 (by first | exact Nat.zero_add _ | exact rfl)) ?_
      refine lstep0 rfl rfl (run_store1 (.tmp rfl) (.tmp rfl) rfl sz22 (by repeat (first | exact Upd.here | apply Upd.there)) (by repeat (first | exact Put.done | apply Put.put | apply Put.skip))) ?_
      refine lnil ?_
      refine xw_then ?_
      refine cw_seq ?_
      refine cw_chain2 (σ := [0, 1, 2, 3, 4]) [⟨0, [2], [], [], 0⟩, ⟨0, [2], [], [], 0⟩, ⟨0, [0], [], [], 2⟩, ⟨0, [], [3], [3], 7⟩, ⟨0, [], [], [], 15⟩] [(0, _), (1, _), (2, _), (3, _), (4, _), (5, _)] (by kernel_rfl) (by kernel_rfl) rfl ?_
      refine .det (B := []) rfl rfl (.inl rfl) (.cons rfl .nil) .nil rfl (RunB.lr (run_loadN (.tmp rfl) kd24 sz24 (by repeat (first | exact List.Mem.head _ | apply List.Mem.tail)) (by repeat (first | exact Sub.done | apply Sub.take | apply Sub.skip)))) ?_
      refine .det (B := []) rfl rfl (.inl rfl) (.cons rfl .nil) .nil rfl (RunB.lr (run_loadN (.tmp rfl) kd24 sz24 (by repeat (first | exact List.Mem.head _ | apply List.Mem.tail)) (by repeat (first | exact Sub.done | apply Sub.take | apply Sub.skip)))) ?_
      refine .det (B := []) rfl rfl (.inl rfl) (.cons rfl .nil) .nil rfl (RunB.lr (run_call1 cb32 (.cons (.tmp rfl) .nil) (fun w2 hS => rGroundK (withG g p) (some ⟨gF, 0, none⟩) cF w2 hwl (pitsAt_row (hS.mem (by repeat (first | exact List.Mem.head _ | apply List.Mem.tail))) hF)))) ?_
      refine .det (B := [(3, (_, _))]) rfl rfl (.inl rfl) .nil (.cons rfl .nil) rfl (lr_storeN (.tmp rfl) (.tmp rfl) rfl sz24 rfl (by repeat (first | exact Put.done | apply Put.put | apply Put.skip))) ?_
      refine .det (B := []) rfl rfl (.inl rfl) .nil .nil rfl (RunB.lr (run_assign (.tmp rfl))) ?_
      refine chain_nil (ts := [0, 1, 2, 3, 4, 5]) (.cons rfl (.cons rfl (.cons rfl (.cons rfl (.cons rfl (.cons rfl .nil)))))) (by decide) ?_
      refine xw_then ?_
      refine cw_ret ?_
      refine xw_pick (H' := [(gF, _), (b4, _)]) (by repeat (first | exact Pick.nil | (apply Pick.cons; focus (repeat (first | exact Del.here | apply Del.there))))) ?_
      exact xw_retC2 rfl rfl rfl kd24 sz24 (by repeat (first | exact List.Mem.head _ | apply List.Mem.tail)) (by repeat (first | exact Sub.done | apply Sub.take | apply Sub.skip)) (fun w hS => ⟨(gF, cF, rF), hF, rfl, hS.pick (by repeat (first | exact Pick.nil | (apply Pick.cons; focus (repeat (first | exact Del.here | apply Del.there)))))⟩)
  case some q =>
    obtain ⟨gX, cX, rX⟩ := q
    dsimp only at hk ho2 ⊢
    obtain ⟨hk1, hX⟩ := ho2
    exfalso; omega
set_option maxRecDepth 100000 in
set_option maxHeartbeats 4000000 in
theorem with1K (g : GroundD) (p : PitD) (pb po pc : Nat) (w : World) (hm : g.pits.length ≤ 1000) (hn : 0 < g.pits.length) (hpc : ∀ i p, g.pits[i]? = some p → ∀ j v, (pitC p)[j]? = some v → w.cell? ⟨pb, po + i * 9 + j, none⟩ = some v) : CallsF Try.prog 38 (([.agg [.int .i64 g.long, .int .i64 g.rise, .int .i64 g.change, .slice (some ⟨pb, po, none⟩) g.pits.length pc].toArray, .agg [.int .i64 p.at_, .int .i64 p.hard.lo, .int .i64 p.hard.hi, .int .i64 p.sand.lo, .int .i64 p.sand.hi, .int .i64 p.silt.lo, .int .i64 p.silt.hi, .int .i64 p.clay.lo, .int .i64 p.clay.hi].toArray] : List Value)).toArray w fun e w' => ∃ q : Nat × Nat × List Value, InRow 9 (withG g p).pits.length q.2.1 q.2.2 (pitsC (withG g p).pits) ∧ e = .returned (.tuple #[.agg [.int .i64 g.long, .int .i64 g.rise, .int .i64 g.change, .slice (some ⟨q.1, 0, none⟩) (withG g p).pits.length q.2.1].toArray, .bool (validB (withG g p))]) ∧ St w NoT [(q.1, Obj.cells q.2.2.toArray 55 (0, 0))] w' := by
  refine enter (n := 86) Try.func38 rfl rfl rfl (by repeat (first | exact Fill.nil | apply Fill.cons)) ?_
  refine cw_seq ?_
  refine cw_region ?_
  refine lstep rfl rfl rfl (run_boxN (.tmp rfl)) ?_
  intro b2 _
  refine lstep rfl rfl rfl (run_boxN (.tmp rfl)) ?_
  intro b3 _
  refine lstep rfl rfl rfl (run_alloc zr24) ?_
  intro b4 _
  refine lstepB rfl rfl rfl (run_assign .const) ?_
  refine lnil ?_
  refine xw_then ?_
  refine cw_seq ?_
  refine cw_region ?_
  refine lstepB rfl rfl rfl (run_assign .func) ?_
  refine lnil ?_
  refine xw_then ?_
  refine cw_seq ?_
  refine cw_region ?_
  refine lstepB rfl rfl rfl (run_loadN (.tmp rfl) kd24 sz24 (by repeat (first | exact List.Mem.head _ | apply List.Mem.tail)) (by repeat (first | exact Sub.done | apply Sub.take | apply Sub.skip))) ?_
  refine lstep rfl rfl rfl (run_alloc zr24) ?_
  intro b7 _
  refine lstep0 rfl rfl (run_storeN (.tmp rfl) (.tmp rfl) rfl sz24 rfl (by repeat (first | exact Upd.here | apply Upd.there)) (by repeat (first | exact Put.done | apply Put.put | apply Put.skip))) ?_
  refine lnil ?_
  refine xw_then ?_
  refine cw_seq ?_
  refine cw_region ?_
  refine lstepB rfl rfl rfl (run_fieldAddr (.tmp rfl) fa24_3 (by first | exact Nat.zero_add _ | exact rfl)) ?_
  refine lstep0 rfl rfl (run_store1 (.tmp rfl) .const rfl sz22 (by repeat (first | exact Upd.here | apply Upd.there)) (by repeat (first | exact Put.done | apply Put.put | apply Put.skip))) ?_
  refine lnil ?_
  refine xw_then ?_
  refine cw_seq ?_
  refine cw_region ?_
  refine lstepB rfl rfl rfl (run_assign .const) ?_
  refine lnil ?_
  refine xw_then ?_
  refine cw_seq ?_
  refine cw_seq ?_
  refine cw_region ?_
  refine lstepB rfl rfl rfl (run_fieldAddr (.tmp rfl) fa24_3 (by first | exact Nat.zero_add _ | exact rfl)) ?_
  refine lstepB rfl rfl rfl (run_load1 (.tmp rfl) kd22 (by repeat (first | exact List.Mem.head _ | apply List.Mem.tail)) (by exact rfl)) ?_
  refine lstepB rfl rfl rfl (run_len (.tmp rfl) sl22) ?_
  refine lstepB rfl rfl rfl (run_move .const) ?_
  refine lnil ?_
  refine xw_then ?_
  refine cw_block ?_
  refine cw_loop (S := Nat × Option (Nat × Nat × List Value)) (fun s => [(16, .int .i64 ((s.1 : Nat) : Int)), (8, .bool (foldW p (g.pits.take s.1)).1)]) [(2, _), (3, _), (4, _), (5, _), (6, _), (7, _), (14, _), (15, _)] (fun s => (match s.2 with | none => [(b7, Obj.cells [.int .i64 g.long, .int .i64 g.rise, .int .i64 g.change, .slice none 0 0].toArray 24 (0, 0))] | some q => [(q.1, Obj.cells q.2.2.toArray 55 (0, 0)), (b7, Obj.cells [.int .i64 g.long, .int .i64 g.rise, .int .i64 g.change, (.slice (some ⟨q.1, 0, none⟩) (foldW p (g.pits.take s.1)).2.length q.2.1)].toArray 24 (0, 0))]) ++ [(b4, Obj.cells [.int .i64 0, .int .i64 0, .int .i64 0, .slice none 0 0].toArray 24 (0, 0)), (b3, Obj.cells [.int .i64 p.at_, .int .i64 p.hard.lo, .int .i64 p.hard.hi, .int .i64 p.sand.lo, .int .i64 p.sand.hi, .int .i64 p.silt.lo, .int .i64 p.silt.hi, .int .i64 p.clay.lo, .int .i64 p.clay.hi].toArray 55 (0, 0)), (b2, Obj.cells [.int .i64 g.long, .int .i64 g.rise, .int .i64 g.change, .slice (some ⟨pb, po, none⟩) g.pits.length pc].toArray 24 (0, 0))]) (fun s => s.1 ≤ g.pits.length ∧ match s.2 with | none => s.1 = 0 | some q => 1 ≤ s.1 ∧ InRow 9 (foldW p (g.pits.take s.1)).2.length q.2.1 q.2.2 (pitsC (foldW p (g.pits.take s.1)).2)) (fun s => g.pits.length - s.1) (0, none) ⟨Nat.zero_le _, rfl⟩ (by repeat (first | exact Less.nil | refine Less.cons rfl ?_)) (by repeat (first | exact Pick.nil | (apply Pick.cons; focus (repeat (first | exact Del.here | apply Del.there))))) ?_
  intro s hs
  obtain ⟨k, o⟩ := s
  obtain ⟨hk, ho2⟩ := hs
  cases o
  case none =>
    dsimp only at hk ho2 ⊢
    subst ho2
    refine cw_seq ?_
    refine cw_region ?_
    refine lstepB rfl rfl rfl (run_lss (.tmp rfl) (.tmp rfl) rfl) ?_
    refine lnil ?_
    refine xw_then ?_
    refine cw_seq ?_
    refine cw_cond_p (.tmp rfl) (fun hl => ?_) (fun hl => ?_)
    ·
      obtain ⟨o, hpk⟩ : ∃ o, g.pits[0]? = some o := ⟨_, List.getElem?_eq_getElem (by omega)⟩
      have hsucc := foldW_succ (p := p) hpk
      have hflen := foldW_len p g.pits 0
      
      rw [show (foldW p (g.pits.take 0)).1 = false from rfl]
      rcases Int.lt_trichotomy p.at_ o.at_ with hl2 | hl2 | hl2
      ·
        refine cw_skip ?_
        refine xw_then ?_
        refine cw_seq ?_
        refine cw_block ?_
        refine cw_seq ?_
        refine cw_region ?_
        refine lstepB rfl rfl rfl (run_indexAddr (i := 0) (off' := po + 0 * 9) (.tmp rfl) (.tmp rfl) el22 (by omega) rfl) ?_
        refine lstepB rfl rfl rfl (run_loadN_at (l := [.int .i64 o.at_, .int .i64 o.hard.lo, .int .i64 o.hard.hi, .int .i64 o.sand.lo, .int .i64 o.sand.hi, .int .i64 o.silt.lo, .int .i64 o.silt.hi, .int .i64 o.clay.lo, .int .i64 o.clay.hi]) (.tmp rfl) kd55 sz55 rfl (fun w' hS j v hj => hS.old_cell (fun h => h) (hpc _ o hpk j v hj))) ?_
        refine lstep rfl rfl rfl (run_alloc zr55) ?_
        intro b10 _
        refine lstep0 rfl rfl (run_storeN (.tmp rfl) (.tmp rfl) rfl sz55 rfl (by repeat (first | exact Upd.here | apply Upd.there)) (by repeat (first | exact Put.done | apply Put.put | apply Put.skip))) ?_
        refine lnil ?_
        refine xw_then ?_
        refine cw_seq ?_
        refine cw_seq ?_
        refine cw_region ?_
        refine lstepB rfl rfl rfl (run_move (.tmp rfl)) ?_
        refine lstepB rfl rfl rfl (run_not (.tmp rfl) (by first | exact Bool.not_true | exact Bool.not_false | exact rfl)) ?_
        refine lstepB rfl rfl rfl (run_move (.tmp rfl)) ?_
        first | (refine lyes rfl rfl rfl rfl ?_; refine gstepB rfl rfl (run_fieldAddr (.tmp rfl) fa55_0 (by first | exact Nat.zero_add _ | exact rfl)) ?_) | refine lskip rfl rfl rfl rfl rfl rfl rfl ?_
        first | (refine lyes rfl rfl rfl rfl ?_; refine gstepB rfl rfl (run_load1 (.tmp rfl) kd3 (by repeat (first | exact List.Mem.head _ | apply List.Mem.tail)) (by exact rfl)) ?_) | refine lskip rfl rfl rfl rfl rfl rfl rfl ?_
        first | (refine lyes rfl rfl rfl rfl ?_; refine gstepB rfl rfl (run_fieldAddr (.tmp rfl) fa55_0 (by first | exact Nat.zero_add _ | exact rfl)) ?_) | refine lskip rfl rfl rfl rfl rfl rfl rfl ?_
        first | (refine lyes rfl rfl rfl rfl ?_; refine gstepB rfl rfl (run_load1 (.tmp rfl) kd3 (by repeat (first | exact List.Mem.head _ | apply List.Mem.tail)) (by exact rfl)) ?_) | refine lskip rfl rfl rfl rfl rfl rfl rfl ?_
        first | (refine lyes rfl rfl rfl rfl ?_; refine gstepB rfl rfl (run_gtr (.tmp rfl) (.tmp rfl) (by first | exact decide_eq_true (by omega) | exact decide_eq_false (by omega) | exact rfl)) ?_) | refine lskip rfl rfl rfl rfl rfl rfl rfl ?_
        refine lstepB rfl rfl rfl (by first | exact run_pick_true (.tmp rfl) (.tmp rfl) | exact run_pick_false (.tmp rfl) .const) ?_
        refine lnil ?_
        refine xw_then ?_
        have hst := hsucc.trans (stepA rfl hl2)
        refine cw_cond_true (.tmp rfl) ?_
        refine cw_region ?_
        refine lstepB rfl rfl rfl (run_fieldAddr (.tmp rfl) fa24_3 (by first | exact Nat.zero_add _ | exact rfl)) ?_
        refine lstepB rfl rfl rfl (run_load1 (.tmp rfl) kd22 (by repeat (first | exact List.Mem.head _ | apply List.Mem.tail)) (by exact rfl)) ?_
        refine lstepB rfl rfl rfl (run_loadN (.tmp rfl) kd55 sz55 (by repeat (first | exact List.Mem.head _ | apply List.Mem.tail)) (by repeat (first | exact Sub.done | apply Sub.take | apply Sub.skip))) ?_
        refine lstep rfl rfl rfl (LR.runs (lr_buildSlice_at (.cons (.tmp rfl) .nil) (fun w => bs22_1_0 w)) (by repeat (first | exact Pick.nil | (apply Pick.cons; focus (repeat (first | exact Del.here | apply Del.there))))) (by repeat (first | exact Dels.nil | (apply Dels.cons; focus (repeat (first | exact Del.here | apply Del.there)))))) ?_
        intro b32 _
        refine lstep rfl rfl rfl (LR.runs (R := [(b32, _)]) (A := []) (lr_append_nil ap22 (.tmp rfl) (.tmp rfl) (news := pitC p) rfl (by omega) (by omega) (by decide) (news_own (by repeat (first | exact List.Mem.head _ | apply List.Mem.tail)))) (by repeat (first | exact Pick.nil | (apply Pick.cons; focus (repeat (first | exact Del.here | apply Del.there))))) (by repeat (first | exact Dels.nil | (apply Dels.cons; focus (repeat (first | exact Del.here | apply Del.there)))))) ?_
        intro ⟨gY, cgY, rgY⟩ hgY
        dsimp only at hgY
        refine lstepB rfl rfl rfl (run_fieldAddr (.tmp rfl) fa24_3 (by first | exact Nat.zero_add _ | exact rfl)) ?_
        refine lstep0 rfl rfl (run_store1 (.tmp rfl) (.tmp rfl) rfl sz22 (by repeat (first | exact Upd.here | apply Upd.there)) (by repeat (first | exact Put.done | apply Put.put | apply Put.skip))) ?_
        refine lstepB rfl rfl rfl (run_assign .const) ?_
        refine lnil ?_
        refine xw_then ?_
        refine cw_seq ?_
        refine cw_seq ?_
        refine cw_region ?_
        refine lstepB rfl rfl rfl (run_fieldAddr (.tmp rfl) fa55_0 (by first | exact Nat.zero_add _ | exact rfl)) ?_
        refine lstepB rfl rfl rfl (run_load1 (.tmp rfl) kd3 (by repeat (first | exact List.Mem.head _ | apply List.Mem.tail)) (by exact rfl)) ?_
        refine lstepB rfl rfl rfl (run_fieldAddr (.tmp rfl) fa55_0 (by first | exact Nat.zero_add _ | exact rfl)) ?_
        refine lstepB rfl rfl rfl (run_load1 (.tmp rfl) kd3 (by repeat (first | exact List.Mem.head _ | apply List.Mem.tail)) (by exact rfl)) ?_
        refine lstepB rfl rfl rfl (run_eql (.tmp rfl) (.tmp rfl) (by first | exact decide_eq_true (by omega) | exact decide_eq_false (by omega) | exact rfl)) ?_
        refine lnil ?_
        refine xw_then ?_
        refine cw_cond_false (.tmp rfl) ?_
        refine cw_skip ?_
        refine xw_then ?_
        refine cw_region ?_
        refine lstepB rfl rfl rfl (run_fieldAddr (.tmp rfl) fa24_3 (by first | exact Nat.zero_add _ | exact rfl)) ?_
        refine lstepB rfl rfl rfl (run_load1 (.tmp rfl) kd22 (by repeat (first | exact List.Mem.head _ | apply List.Mem.tail)) (by exact rfl)) ?_
        refine lstepB rfl rfl rfl (run_loadN (.tmp rfl) kd55 sz55 (by repeat (first | exact List.Mem.head _ | apply List.Mem.tail)) (by repeat (first | exact Sub.done | apply Sub.take | apply Sub.skip))) ?_
        refine lstep rfl rfl rfl (LR.runs (lr_buildSlice_at (.cons (.tmp rfl) .nil) (fun w => bs22_1_0 w)) (by repeat (first | exact Pick.nil | (apply Pick.cons; focus (repeat (first | exact Del.here | apply Del.there))))) (by repeat (first | exact Dels.nil | (apply Dels.cons; focus (repeat (first | exact Del.here | apply Del.there)))))) ?_
        intro b71 _
        refine lstep rfl rfl rfl (LR.runs (R := [(b71, _)]) (A := [(gY, _)]) (lr_append_row ap22 (.tmp rfl) hgY (.tmp rfl) (news := pitC o) rfl rfl (by omega) (by unfold maxLen; omega) (news_own (by repeat (first | exact List.Mem.head _ | apply List.Mem.tail)))) (by repeat (first | exact Pick.nil | (apply Pick.cons; focus (repeat (first | exact Del.here | apply Del.there))))) (by repeat (first | exact Dels.nil | (apply Dels.cons; focus (repeat (first | exact Del.here | apply Del.there)))))) ?_
        intro ⟨gW, cgW, rgW⟩ hgW
        have hpw : (foldW p (g.pits.take (0 + 1))).2 = (([] : List PitD) ++ [p]) ++ [o] := by rw [hst]; rfl
        have hlw : 1 + 1 = (foldW p (g.pits.take (0 + 1))).2.length := by rw [hpw]; simp
        have hq : pitsC (foldW p (g.pits.take (0 + 1))).2 = pitC p ++ pitC o := by rw [hpw]; simp [pitsC]
        dsimp only at hgW
        have hrow : InRow 9 (foldW p (g.pits.take (0 + 1))).2.length cgW rgW (pitsC (foldW p (g.pits.take (0 + 1))).2) := by
          rw [hq]
          exact Eq.mp (congrArg (fun n => InRow 9 n cgW rgW _) hlw) hgW
        dsimp only
        rw [(show Value.slice (some ⟨gW, 0, none⟩) (1 + 1) cgW = Value.slice (some ⟨gW, 0, none⟩) (foldW p (g.pits.take (0 + 1))).2.length cgW from congrArg (fun n => Value.slice (some ⟨gW, 0, none⟩) n cgW) hlw)]
        have hb1 : (foldW p (g.pits.take (0 + 1))).1 = true := by rw [hst]
        refine lstepB rfl rfl rfl (run_fieldAddr (.tmp rfl) fa24_3 (by first | exact Nat.zero_add _ | exact rfl)) ?_
        refine lstep0 rfl rfl (run_store1 (.tmp rfl) (.tmp rfl) rfl sz22 (by repeat (first | exact Upd.here | apply Upd.there)) (by repeat (first | exact Put.done | apply Put.put | apply Put.skip))) ?_
        refine lnil ?_
        refine xw_in ?_
        refine xw_then ?_
        refine cw_region ?_
        refine lstepB rfl rfl rfl (run_add (.tmp rfl) .const (by first | exact IntWalk.i64_in _ (by omega) | exact rfl)) ?_
        refine lstepB rfl rfl rfl (run_move (.tmp rfl)) ?_
        refine lnil ?_
        rw [← hb1]
        exact xw_round (0 + 1, some (gW, cgW, rgW)) ⟨by omega, by omega, hrow⟩ (by show g.pits.length - (0 + 1) < g.pits.length - 0; omega) (by repeat (first | exact Less.nil | refine Less.cons rfl ?_)) (by repeat (first | exact Pick.nil | (apply Pick.cons; focus (repeat (first | exact Del.here | apply Del.there)))))
      ·
        refine cw_skip ?_
        refine xw_then ?_
        refine cw_seq ?_
        refine cw_block ?_
        refine cw_seq ?_
        refine cw_region ?_
        refine lstepB rfl rfl rfl (run_indexAddr (i := 0) (off' := po + 0 * 9) (.tmp rfl) (.tmp rfl) el22 (by omega) rfl) ?_
        refine lstepB rfl rfl rfl (run_loadN_at (l := [.int .i64 o.at_, .int .i64 o.hard.lo, .int .i64 o.hard.hi, .int .i64 o.sand.lo, .int .i64 o.sand.hi, .int .i64 o.silt.lo, .int .i64 o.silt.hi, .int .i64 o.clay.lo, .int .i64 o.clay.hi]) (.tmp rfl) kd55 sz55 rfl (fun w' hS j v hj => hS.old_cell (fun h => h) (hpc _ o hpk j v hj))) ?_
        refine lstep rfl rfl rfl (run_alloc zr55) ?_
        intro b10 _
        refine lstep0 rfl rfl (run_storeN (.tmp rfl) (.tmp rfl) rfl sz55 rfl (by repeat (first | exact Upd.here | apply Upd.there)) (by repeat (first | exact Put.done | apply Put.put | apply Put.skip))) ?_
        refine lnil ?_
        refine xw_then ?_
        refine cw_seq ?_
        refine cw_seq ?_
        refine cw_region ?_
        refine lstepB rfl rfl rfl (run_move (.tmp rfl)) ?_
        refine lstepB rfl rfl rfl (run_not (.tmp rfl) (by first | exact Bool.not_true | exact Bool.not_false | exact rfl)) ?_
        refine lstepB rfl rfl rfl (run_move (.tmp rfl)) ?_
        first | (refine lyes rfl rfl rfl rfl ?_; refine gstepB rfl rfl (run_fieldAddr (.tmp rfl) fa55_0 (by first | exact Nat.zero_add _ | exact rfl)) ?_) | refine lskip rfl rfl rfl rfl rfl rfl rfl ?_
        first | (refine lyes rfl rfl rfl rfl ?_; refine gstepB rfl rfl (run_load1 (.tmp rfl) kd3 (by repeat (first | exact List.Mem.head _ | apply List.Mem.tail)) (by exact rfl)) ?_) | refine lskip rfl rfl rfl rfl rfl rfl rfl ?_
        first | (refine lyes rfl rfl rfl rfl ?_; refine gstepB rfl rfl (run_fieldAddr (.tmp rfl) fa55_0 (by first | exact Nat.zero_add _ | exact rfl)) ?_) | refine lskip rfl rfl rfl rfl rfl rfl rfl ?_
        first | (refine lyes rfl rfl rfl rfl ?_; refine gstepB rfl rfl (run_load1 (.tmp rfl) kd3 (by repeat (first | exact List.Mem.head _ | apply List.Mem.tail)) (by exact rfl)) ?_) | refine lskip rfl rfl rfl rfl rfl rfl rfl ?_
        first | (refine lyes rfl rfl rfl rfl ?_; refine gstepB rfl rfl (run_gtr (.tmp rfl) (.tmp rfl) (by first | exact decide_eq_true (by omega) | exact decide_eq_false (by omega) | exact rfl)) ?_) | refine lskip rfl rfl rfl rfl rfl rfl rfl ?_
        refine lstepB rfl rfl rfl (by first | exact run_pick_true (.tmp rfl) (.tmp rfl) | exact run_pick_false (.tmp rfl) .const) ?_
        refine lnil ?_
        refine xw_then ?_
        have hst := hsucc.trans (stepC hl2.symm)
        refine cw_cond_false (.tmp rfl) ?_
        refine cw_skip ?_
        refine xw_then ?_
        refine cw_seq ?_
        refine cw_seq ?_
        refine cw_region ?_
        refine lstepB rfl rfl rfl (run_fieldAddr (.tmp rfl) fa55_0 (by first | exact Nat.zero_add _ | exact rfl)) ?_
        refine lstepB rfl rfl rfl (run_load1 (.tmp rfl) kd3 (by repeat (first | exact List.Mem.head _ | apply List.Mem.tail)) (by exact rfl)) ?_
        refine lstepB rfl rfl rfl (run_fieldAddr (.tmp rfl) fa55_0 (by first | exact Nat.zero_add _ | exact rfl)) ?_
        refine lstepB rfl rfl rfl (run_load1 (.tmp rfl) kd3 (by repeat (first | exact List.Mem.head _ | apply List.Mem.tail)) (by exact rfl)) ?_
        refine lstepB rfl rfl rfl (run_eql (.tmp rfl) (.tmp rfl) (by first | exact decide_eq_true (by omega) | exact decide_eq_false (by omega) | exact rfl)) ?_
        refine lnil ?_
        refine xw_then ?_
        refine cw_cond_true (.tmp rfl) ?_
        refine cw_seq ?_
        refine cw_chain2 (σ := [0, 1, 2, 3, 4, 5, 6, 7, 8, 9, 10, 11, 12, 13, 14, 15, 16, 17, 18, 19, 20, 21, 22, 23, 24, 25, 26, 27, 28, 29, 30, 31]) [⟨0, [], [], [], 0⟩, ⟨0, [], [], [], 0⟩, ⟨0, [0], [], [], 2⟩, ⟨0, [], [], [], 0⟩, ⟨0, [3], [], [], 8⟩, ⟨0, [], [], [], 31⟩, ⟨0, [], [], [], 0⟩, ⟨0, [], [], [], 0⟩, ⟨0, [0], [], [], 128⟩, ⟨0, [], [], [], 0⟩, ⟨0, [3], [], [], 512⟩, ⟨0, [], [], [], 2047⟩, ⟨0, [], [], [], 0⟩, ⟨0, [], [], [], 0⟩, ⟨0, [0], [], [], 8192⟩, ⟨0, [], [], [], 0⟩, ⟨0, [3], [], [], 32768⟩, ⟨0, [], [], [], 131071⟩, ⟨0, [], [], [], 0⟩, ⟨0, [], [], [], 0⟩, ⟨0, [0], [], [], 524288⟩, ⟨0, [], [], [], 0⟩, ⟨0, [3], [], [], 2097152⟩, ⟨0, [], [], [], 8388607⟩, ⟨0, [], [], [], 1597887⟩, ⟨0, [], [0], [0], 33554431⟩, ⟨0, [], [], [], 67108863⟩, ⟨0, [], [0], [0], 134217727⟩, ⟨0, [], [], [], 268435455⟩, ⟨0, [], [0], [0], 536870911⟩, ⟨0, [], [], [], 1073741823⟩, ⟨0, [], [0], [0], 2147483647⟩] [(0, _), (1, _), (2, _), (3, _), (4, _)] (by kernel_rfl) (by kernel_rfl) rfl ?_
        refine .det (B := []) rfl rfl (.inl rfl) .nil .nil rfl (RunB.lr (run_move (.tmp rfl))) ?_
        refine .det (B := []) rfl rfl (.inl rfl) .nil .nil rfl (RunB.lr (run_fieldAddr (.tmp rfl) fa55_1 (by first | exact Nat.zero_add _ | exact rfl))) ?_
        refine .det (B := []) rfl rfl (.inl rfl) (.cons rfl .nil) .nil rfl (RunB.lr (run_loadN (.tmp rfl) kd28 sz28 (by repeat (first | exact List.Mem.head _ | apply List.Mem.tail)) (by repeat (first | exact Sub.done | apply Sub.take | apply Sub.skip)))) ?_
        refine .det (B := []) rfl rfl (.inl rfl) .nil .nil rfl (RunB.lr (run_fieldAddr (.tmp rfl) fa55_1 (by first | exact Nat.zero_add _ | exact rfl))) ?_
        refine .det (B := []) rfl rfl (.inl rfl) (.cons rfl .nil) .nil rfl (RunB.lr (run_loadN (.tmp rfl) kd28 sz28 (by repeat (first | exact List.Mem.head _ | apply List.Mem.tail)) (by repeat (first | exact Sub.done | apply Sub.take | apply Sub.skip)))) ?_
        refine .det (B := []) rfl rfl (.inl rfl) .nil .nil rfl (RunB.lr (run_callv1 cb77 (.tmp rfl) (.cons (.tmp rfl) (.cons (.tmp rfl) .nil)) rfl (fun w _ => bothLK ⟨_, _⟩ ⟨_, _⟩ w))) ?_
        refine .det (B := []) rfl rfl (.inl rfl) .nil .nil rfl (RunB.lr (run_move (.tmp rfl))) ?_
        refine .det (B := []) rfl rfl (.inl rfl) .nil .nil rfl (RunB.lr (run_fieldAddr (.tmp rfl) fa55_2 (by first | exact Nat.zero_add _ | exact rfl))) ?_
        refine .det (B := []) rfl rfl (.inl rfl) (.cons rfl .nil) .nil rfl (RunB.lr (run_loadN (.tmp rfl) kd28 sz28 (by repeat (first | exact List.Mem.head _ | apply List.Mem.tail)) (by repeat (first | exact Sub.done | apply Sub.take | apply Sub.skip)))) ?_
        refine .det (B := []) rfl rfl (.inl rfl) .nil .nil rfl (RunB.lr (run_fieldAddr (.tmp rfl) fa55_2 (by first | exact Nat.zero_add _ | exact rfl))) ?_
        refine .det (B := []) rfl rfl (.inl rfl) (.cons rfl .nil) .nil rfl (RunB.lr (run_loadN (.tmp rfl) kd28 sz28 (by repeat (first | exact List.Mem.head _ | apply List.Mem.tail)) (by repeat (first | exact Sub.done | apply Sub.take | apply Sub.skip)))) ?_
        refine .det (B := []) rfl rfl (.inl rfl) .nil .nil rfl (RunB.lr (run_callv1 cb77 (.tmp rfl) (.cons (.tmp rfl) (.cons (.tmp rfl) .nil)) rfl (fun w _ => bothLK ⟨_, _⟩ ⟨_, _⟩ w))) ?_
        refine .det (B := []) rfl rfl (.inl rfl) .nil .nil rfl (RunB.lr (run_move (.tmp rfl))) ?_
        refine .det (B := []) rfl rfl (.inl rfl) .nil .nil rfl (RunB.lr (run_fieldAddr (.tmp rfl) fa55_3 (by first | exact Nat.zero_add _ | exact rfl))) ?_
        refine .det (B := []) rfl rfl (.inl rfl) (.cons rfl .nil) .nil rfl (RunB.lr (run_loadN (.tmp rfl) kd28 sz28 (by repeat (first | exact List.Mem.head _ | apply List.Mem.tail)) (by repeat (first | exact Sub.done | apply Sub.take | apply Sub.skip)))) ?_
        refine .det (B := []) rfl rfl (.inl rfl) .nil .nil rfl (RunB.lr (run_fieldAddr (.tmp rfl) fa55_3 (by first | exact Nat.zero_add _ | exact rfl))) ?_
        refine .det (B := []) rfl rfl (.inl rfl) (.cons rfl .nil) .nil rfl (RunB.lr (run_loadN (.tmp rfl) kd28 sz28 (by repeat (first | exact List.Mem.head _ | apply List.Mem.tail)) (by repeat (first | exact Sub.done | apply Sub.take | apply Sub.skip)))) ?_
        refine .det (B := []) rfl rfl (.inl rfl) .nil .nil rfl (RunB.lr (run_callv1 cb77 (.tmp rfl) (.cons (.tmp rfl) (.cons (.tmp rfl) .nil)) rfl (fun w _ => bothLK ⟨_, _⟩ ⟨_, _⟩ w))) ?_
        refine .det (B := []) rfl rfl (.inl rfl) .nil .nil rfl (RunB.lr (run_move (.tmp rfl))) ?_
        refine .det (B := []) rfl rfl (.inl rfl) .nil .nil rfl (RunB.lr (run_fieldAddr (.tmp rfl) fa55_4 (by first | exact Nat.zero_add _ | exact rfl))) ?_
        refine .det (B := []) rfl rfl (.inl rfl) (.cons rfl .nil) .nil rfl (RunB.lr (run_loadN (.tmp rfl) kd28 sz28 (by repeat (first | exact List.Mem.head _ | apply List.Mem.tail)) (by repeat (first | exact Sub.done | apply Sub.take | apply Sub.skip)))) ?_
        refine .det (B := []) rfl rfl (.inl rfl) .nil .nil rfl (RunB.lr (run_fieldAddr (.tmp rfl) fa55_4 (by first | exact Nat.zero_add _ | exact rfl))) ?_
        refine .det (B := []) rfl rfl (.inl rfl) (.cons rfl .nil) .nil rfl (RunB.lr (run_loadN (.tmp rfl) kd28 sz28 (by repeat (first | exact List.Mem.head _ | apply List.Mem.tail)) (by repeat (first | exact Sub.done | apply Sub.take | apply Sub.skip)))) ?_
        refine .det (B := []) rfl rfl (.inl rfl) .nil .nil rfl (RunB.lr (run_callv1 cb77 (.tmp rfl) (.cons (.tmp rfl) (.cons (.tmp rfl) .nil)) rfl (fun w _ => bothLK ⟨_, _⟩ ⟨_, _⟩ w))) ?_
        refine .det (B := []) rfl rfl (.inl rfl) .nil .nil rfl (RunB.lr (run_fieldAddr (.tmp rfl) fa55_1 (by first | exact Nat.zero_add _ | exact rfl))) ?_
        refine .det (B := [(0, (_, _))]) rfl rfl (.inl rfl) .nil (.cons rfl .nil) rfl (lr_storeN (.tmp rfl) (.tmp rfl) rfl sz28 rfl (by repeat (first | exact Put.done | apply Put.put | apply Put.skip))) ?_
        refine .det (B := []) rfl rfl (.inl rfl) .nil .nil rfl (RunB.lr (run_fieldAddr (.tmp rfl) fa55_2 (by first | exact Nat.zero_add _ | exact rfl))) ?_
        refine .det (B := [(0, (_, _))]) rfl rfl (.inl rfl) .nil (.cons rfl .nil) rfl (lr_storeN (.tmp rfl) (.tmp rfl) rfl sz28 rfl (by repeat (first | exact Put.done | apply Put.put | apply Put.skip))) ?_
        refine .det (B := []) rfl rfl (.inl rfl) .nil .nil rfl (RunB.lr (run_fieldAddr (.tmp rfl) fa55_3 (by first | exact Nat.zero_add _ | exact rfl))) ?_
        refine .det (B := [(0, (_, _))]) rfl rfl (.inl rfl) .nil (.cons rfl .nil) rfl (lr_storeN (.tmp rfl) (.tmp rfl) rfl sz28 rfl (by repeat (first | exact Put.done | apply Put.put | apply Put.skip))) ?_
        refine .det (B := []) rfl rfl (.inl rfl) .nil .nil rfl (RunB.lr (run_fieldAddr (.tmp rfl) fa55_4 (by first | exact Nat.zero_add _ | exact rfl))) ?_
        refine .det (B := [(0, (_, _))]) rfl rfl (.inl rfl) .nil (.cons rfl .nil) rfl (lr_storeN (.tmp rfl) (.tmp rfl) rfl sz28 rfl (by repeat (first | exact Put.done | apply Put.put | apply Put.skip))) ?_
        refine chain_nil (ts := [0, 1, 2, 3, 4]) (.cons rfl (.cons rfl (.cons rfl (.cons rfl (.cons rfl .nil))))) (by decide) ?_
        refine xw_then ?_
        refine cw_region ?_
        refine lstepB rfl rfl rfl (run_assign .const) ?_
        refine lnil ?_
        refine xw_then ?_
        refine cw_region ?_
        refine lstepB rfl rfl rfl (run_fieldAddr (.tmp rfl) fa24_3 (by first | exact Nat.zero_add _ | exact rfl)) ?_
        refine lstepB rfl rfl rfl (run_load1 (.tmp rfl) kd22 (by repeat (first | exact List.Mem.head _ | apply List.Mem.tail)) (by exact rfl)) ?_
        refine lstepB rfl rfl rfl (run_loadN (.tmp rfl) kd55 sz55 (by repeat (first | exact List.Mem.head _ | apply List.Mem.tail)) (by repeat (first | exact Sub.done | apply Sub.take | apply Sub.skip))) ?_
        refine lstep rfl rfl rfl (LR.runs (lr_buildSlice_at (.cons (.tmp rfl) .nil) (fun w => bs22_1_0 w)) (by repeat (first | exact Pick.nil | (apply Pick.cons; focus (repeat (first | exact Del.here | apply Del.there))))) (by repeat (first | exact Dels.nil | (apply Dels.cons; focus (repeat (first | exact Del.here | apply Del.there)))))) ?_
        intro b71 _
        refine lstep rfl rfl rfl (LR.runs (R := [(b71, _)]) (A := []) (lr_append_nil ap22 (.tmp rfl) (.tmp rfl) (news := pitC (mergeP o p)) rfl (by omega) (by omega) (by decide) (news_own (by repeat (first | exact List.Mem.head _ | apply List.Mem.tail)))) (by repeat (first | exact Pick.nil | (apply Pick.cons; focus (repeat (first | exact Del.here | apply Del.there))))) (by repeat (first | exact Dels.nil | (apply Dels.cons; focus (repeat (first | exact Del.here | apply Del.there)))))) ?_
        intro ⟨gW, cgW, rgW⟩ hgW
        have hpw : (foldW p (g.pits.take (0 + 1))).2 = ([] : List PitD) ++ [mergeP o p] := by rw [hst]; rfl
        have hlw : 1 = (foldW p (g.pits.take (0 + 1))).2.length := by rw [hpw]; simp
        have hq : pitsC (foldW p (g.pits.take (0 + 1))).2 = pitC (mergeP o p) := by rw [hpw]; simp [pitsC]
        dsimp only at hgW
        have hrow : InRow 9 (foldW p (g.pits.take (0 + 1))).2.length cgW rgW (pitsC (foldW p (g.pits.take (0 + 1))).2) := by
          rw [hq]
          exact Eq.mp (congrArg (fun n => InRow 9 n cgW rgW _) hlw) hgW
        dsimp only
        rw [(show Value.slice (some ⟨gW, 0, none⟩) (1) cgW = Value.slice (some ⟨gW, 0, none⟩) (foldW p (g.pits.take (0 + 1))).2.length cgW from congrArg (fun n => Value.slice (some ⟨gW, 0, none⟩) n cgW) hlw)]
        have hb1 : (foldW p (g.pits.take (0 + 1))).1 = true := by rw [hst]
        refine lstepB rfl rfl rfl (run_fieldAddr (.tmp rfl) fa24_3 (by first | exact Nat.zero_add _ | exact rfl)) ?_
        refine lstep0 rfl rfl (run_store1 (.tmp rfl) (.tmp rfl) rfl sz22 (by repeat (first | exact Upd.here | apply Upd.there)) (by repeat (first | exact Put.done | apply Put.put | apply Put.skip))) ?_
        refine lnil ?_
        refine xw_in ?_
        refine xw_then ?_
        refine cw_region ?_
        refine lstepB rfl rfl rfl (run_add (.tmp rfl) .const (by first | exact IntWalk.i64_in _ (by omega) | exact rfl)) ?_
        refine lstepB rfl rfl rfl (run_move (.tmp rfl)) ?_
        refine lnil ?_
        rw [← hb1]
        exact xw_round (0 + 1, some (gW, cgW, rgW)) ⟨by omega, by omega, hrow⟩ (by show g.pits.length - (0 + 1) < g.pits.length - 0; omega) (by repeat (first | exact Less.nil | refine Less.cons rfl ?_)) (by repeat (first | exact Pick.nil | (apply Pick.cons; focus (repeat (first | exact Del.here | apply Del.there)))))
      ·
        refine cw_skip ?_
        refine xw_then ?_
        refine cw_seq ?_
        refine cw_block ?_
        refine cw_seq ?_
        refine cw_region ?_
        refine lstepB rfl rfl rfl (run_indexAddr (i := 0) (off' := po + 0 * 9) (.tmp rfl) (.tmp rfl) el22 (by omega) rfl) ?_
        refine lstepB rfl rfl rfl (run_loadN_at (l := [.int .i64 o.at_, .int .i64 o.hard.lo, .int .i64 o.hard.hi, .int .i64 o.sand.lo, .int .i64 o.sand.hi, .int .i64 o.silt.lo, .int .i64 o.silt.hi, .int .i64 o.clay.lo, .int .i64 o.clay.hi]) (.tmp rfl) kd55 sz55 rfl (fun w' hS j v hj => hS.old_cell (fun h => h) (hpc _ o hpk j v hj))) ?_
        refine lstep rfl rfl rfl (run_alloc zr55) ?_
        intro b10 _
        refine lstep0 rfl rfl (run_storeN (.tmp rfl) (.tmp rfl) rfl sz55 rfl (by repeat (first | exact Upd.here | apply Upd.there)) (by repeat (first | exact Put.done | apply Put.put | apply Put.skip))) ?_
        refine lnil ?_
        refine xw_then ?_
        refine cw_seq ?_
        refine cw_seq ?_
        refine cw_region ?_
        refine lstepB rfl rfl rfl (run_move (.tmp rfl)) ?_
        refine lstepB rfl rfl rfl (run_not (.tmp rfl) (by first | exact Bool.not_true | exact Bool.not_false | exact rfl)) ?_
        refine lstepB rfl rfl rfl (run_move (.tmp rfl)) ?_
        first | (refine lyes rfl rfl rfl rfl ?_; refine gstepB rfl rfl (run_fieldAddr (.tmp rfl) fa55_0 (by first | exact Nat.zero_add _ | exact rfl)) ?_) | refine lskip rfl rfl rfl rfl rfl rfl rfl ?_
        first | (refine lyes rfl rfl rfl rfl ?_; refine gstepB rfl rfl (run_load1 (.tmp rfl) kd3 (by repeat (first | exact List.Mem.head _ | apply List.Mem.tail)) (by exact rfl)) ?_) | refine lskip rfl rfl rfl rfl rfl rfl rfl ?_
        first | (refine lyes rfl rfl rfl rfl ?_; refine gstepB rfl rfl (run_fieldAddr (.tmp rfl) fa55_0 (by first | exact Nat.zero_add _ | exact rfl)) ?_) | refine lskip rfl rfl rfl rfl rfl rfl rfl ?_
        first | (refine lyes rfl rfl rfl rfl ?_; refine gstepB rfl rfl (run_load1 (.tmp rfl) kd3 (by repeat (first | exact List.Mem.head _ | apply List.Mem.tail)) (by exact rfl)) ?_) | refine lskip rfl rfl rfl rfl rfl rfl rfl ?_
        first | (refine lyes rfl rfl rfl rfl ?_; refine gstepB rfl rfl (run_gtr (.tmp rfl) (.tmp rfl) (by first | exact decide_eq_true (by omega) | exact decide_eq_false (by omega) | exact rfl)) ?_) | refine lskip rfl rfl rfl rfl rfl rfl rfl ?_
        refine lstepB rfl rfl rfl (by first | exact run_pick_true (.tmp rfl) (.tmp rfl) | exact run_pick_false (.tmp rfl) .const) ?_
        refine lnil ?_
        refine xw_then ?_
        have hst := hsucc.trans (stepD hl2)
        refine cw_cond_false (.tmp rfl) ?_
        refine cw_skip ?_
        refine xw_then ?_
        refine cw_seq ?_
        refine cw_seq ?_
        refine cw_region ?_
        refine lstepB rfl rfl rfl (run_fieldAddr (.tmp rfl) fa55_0 (by first | exact Nat.zero_add _ | exact rfl)) ?_
        refine lstepB rfl rfl rfl (run_load1 (.tmp rfl) kd3 (by repeat (first | exact List.Mem.head _ | apply List.Mem.tail)) (by exact rfl)) ?_
        refine lstepB rfl rfl rfl (run_fieldAddr (.tmp rfl) fa55_0 (by first | exact Nat.zero_add _ | exact rfl)) ?_
        refine lstepB rfl rfl rfl (run_load1 (.tmp rfl) kd3 (by repeat (first | exact List.Mem.head _ | apply List.Mem.tail)) (by exact rfl)) ?_
        refine lstepB rfl rfl rfl (run_eql (.tmp rfl) (.tmp rfl) (by first | exact decide_eq_true (by omega) | exact decide_eq_false (by omega) | exact rfl)) ?_
        refine lnil ?_
        refine xw_then ?_
        refine cw_cond_false (.tmp rfl) ?_
        refine cw_skip ?_
        refine xw_then ?_
        refine cw_region ?_
        refine lstepB rfl rfl rfl (run_fieldAddr (.tmp rfl) fa24_3 (by first | exact Nat.zero_add _ | exact rfl)) ?_
        refine lstepB rfl rfl rfl (run_load1 (.tmp rfl) kd22 (by repeat (first | exact List.Mem.head _ | apply List.Mem.tail)) (by exact rfl)) ?_
        refine lstepB rfl rfl rfl (run_loadN (.tmp rfl) kd55 sz55 (by repeat (first | exact List.Mem.head _ | apply List.Mem.tail)) (by repeat (first | exact Sub.done | apply Sub.take | apply Sub.skip))) ?_
        refine lstep rfl rfl rfl (LR.runs (lr_buildSlice_at (.cons (.tmp rfl) .nil) (fun w => bs22_1_0 w)) (by repeat (first | exact Pick.nil | (apply Pick.cons; focus (repeat (first | exact Del.here | apply Del.there))))) (by repeat (first | exact Dels.nil | (apply Dels.cons; focus (repeat (first | exact Del.here | apply Del.there)))))) ?_
        intro b71 _
        refine lstep rfl rfl rfl (LR.runs (R := [(b71, _)]) (A := []) (lr_append_nil ap22 (.tmp rfl) (.tmp rfl) (news := pitC o) rfl (by omega) (by omega) (by decide) (news_own (by repeat (first | exact List.Mem.head _ | apply List.Mem.tail)))) (by repeat (first | exact Pick.nil | (apply Pick.cons; focus (repeat (first | exact Del.here | apply Del.there))))) (by repeat (first | exact Dels.nil | (apply Dels.cons; focus (repeat (first | exact Del.here | apply Del.there)))))) ?_
        intro ⟨gW, cgW, rgW⟩ hgW
        have hpw : (foldW p (g.pits.take (0 + 1))).2 = ([] : List PitD) ++ [o] := by rw [hst]; rfl
        have hlw : 1 = (foldW p (g.pits.take (0 + 1))).2.length := by rw [hpw]; simp
        have hq : pitsC (foldW p (g.pits.take (0 + 1))).2 = pitC o := by rw [hpw]; simp [pitsC]
        dsimp only at hgW
        have hrow : InRow 9 (foldW p (g.pits.take (0 + 1))).2.length cgW rgW (pitsC (foldW p (g.pits.take (0 + 1))).2) := by
          rw [hq]
          exact Eq.mp (congrArg (fun n => InRow 9 n cgW rgW _) hlw) hgW
        dsimp only
        rw [(show Value.slice (some ⟨gW, 0, none⟩) (1) cgW = Value.slice (some ⟨gW, 0, none⟩) (foldW p (g.pits.take (0 + 1))).2.length cgW from congrArg (fun n => Value.slice (some ⟨gW, 0, none⟩) n cgW) hlw)]
        have hb1 : (foldW p (g.pits.take (0 + 1))).1 = false := by rw [hst]; rfl
        refine lstepB rfl rfl rfl (run_fieldAddr (.tmp rfl) fa24_3 (by first | exact Nat.zero_add _ | exact rfl)) ?_
        refine lstep0 rfl rfl (run_store1 (.tmp rfl) (.tmp rfl) rfl sz22 (by repeat (first | exact Upd.here | apply Upd.there)) (by repeat (first | exact Put.done | apply Put.put | apply Put.skip))) ?_
        refine lnil ?_
        refine xw_in ?_
        refine xw_then ?_
        refine cw_region ?_
        refine lstepB rfl rfl rfl (run_add (.tmp rfl) .const (by first | exact IntWalk.i64_in _ (by omega) | exact rfl)) ?_
        refine lstepB rfl rfl rfl (run_move (.tmp rfl)) ?_
        refine lnil ?_
        rw [← hb1]
        exact xw_round (0 + 1, some (gW, cgW, rgW)) ⟨by omega, by omega, hrow⟩ (by show g.pits.length - (0 + 1) < g.pits.length - 0; omega) (by repeat (first | exact Less.nil | refine Less.cons rfl ?_)) (by repeat (first | exact Pick.nil | (apply Pick.cons; focus (repeat (first | exact Del.here | apply Del.there)))))
    ·
      exfalso; omega
  case some q =>
    obtain ⟨gX, cX, rX⟩ := q
    dsimp only at hk ho2 ⊢
    obtain ⟨hk1, hX⟩ := ho2
    refine cw_seq ?_
    refine cw_region ?_
    refine lstepB rfl rfl rfl (run_lss (.tmp rfl) (.tmp rfl) rfl) ?_
    refine lnil ?_
    refine xw_then ?_
    refine cw_seq ?_
    refine cw_cond_p (.tmp rfl) (fun hl => ?_) (fun hl => ?_)
    ·
      obtain ⟨o, hpk⟩ : ∃ o, g.pits[k]? = some o := ⟨_, List.getElem?_eq_getElem (by omega)⟩
      have hsucc := foldW_succ (p := p) hpk
      have hflen := foldW_len p g.pits k
      
      cases hput : (foldW p (g.pits.take k)).1
      ·
        rcases Int.lt_trichotomy p.at_ o.at_ with hl2 | hl2 | hl2
        ·
          refine cw_skip ?_
          refine xw_then ?_
          refine cw_seq ?_
          refine cw_block ?_
          refine cw_seq ?_
          refine cw_region ?_
          refine lstepB rfl rfl rfl (run_indexAddr (i := k) (off' := po + k * 9) (.tmp rfl) (.tmp rfl) el22 (by omega) rfl) ?_
          refine lstepB rfl rfl rfl (run_loadN_at (l := [.int .i64 o.at_, .int .i64 o.hard.lo, .int .i64 o.hard.hi, .int .i64 o.sand.lo, .int .i64 o.sand.hi, .int .i64 o.silt.lo, .int .i64 o.silt.hi, .int .i64 o.clay.lo, .int .i64 o.clay.hi]) (.tmp rfl) kd55 sz55 rfl (fun w' hS j v hj => hS.old_cell (fun h => h) (hpc _ o hpk j v hj))) ?_
          refine lstep rfl rfl rfl (run_alloc zr55) ?_
          intro b10 _
          refine lstep0 rfl rfl (run_storeN (.tmp rfl) (.tmp rfl) rfl sz55 rfl (by repeat (first | exact Upd.here | apply Upd.there)) (by repeat (first | exact Put.done | apply Put.put | apply Put.skip))) ?_
          refine lnil ?_
          refine xw_then ?_
          refine cw_seq ?_
          refine cw_seq ?_
          refine cw_region ?_
          refine lstepB rfl rfl rfl (run_move (.tmp rfl)) ?_
          refine lstepB rfl rfl rfl (run_not (.tmp rfl) (by first | exact Bool.not_true | exact Bool.not_false | exact rfl)) ?_
          refine lstepB rfl rfl rfl (run_move (.tmp rfl)) ?_
          first | (refine lyes rfl rfl rfl rfl ?_; refine gstepB rfl rfl (run_fieldAddr (.tmp rfl) fa55_0 (by first | exact Nat.zero_add _ | exact rfl)) ?_) | refine lskip rfl rfl rfl rfl rfl rfl rfl ?_
          first | (refine lyes rfl rfl rfl rfl ?_; refine gstepB rfl rfl (run_load1 (.tmp rfl) kd3 (by repeat (first | exact List.Mem.head _ | apply List.Mem.tail)) (by exact rfl)) ?_) | refine lskip rfl rfl rfl rfl rfl rfl rfl ?_
          first | (refine lyes rfl rfl rfl rfl ?_; refine gstepB rfl rfl (run_fieldAddr (.tmp rfl) fa55_0 (by first | exact Nat.zero_add _ | exact rfl)) ?_) | refine lskip rfl rfl rfl rfl rfl rfl rfl ?_
          first | (refine lyes rfl rfl rfl rfl ?_; refine gstepB rfl rfl (run_load1 (.tmp rfl) kd3 (by repeat (first | exact List.Mem.head _ | apply List.Mem.tail)) (by exact rfl)) ?_) | refine lskip rfl rfl rfl rfl rfl rfl rfl ?_
          first | (refine lyes rfl rfl rfl rfl ?_; refine gstepB rfl rfl (run_gtr (.tmp rfl) (.tmp rfl) (by first | exact decide_eq_true (by omega) | exact decide_eq_false (by omega) | exact rfl)) ?_) | refine lskip rfl rfl rfl rfl rfl rfl rfl ?_
          refine lstepB rfl rfl rfl (by first | exact run_pick_true (.tmp rfl) (.tmp rfl) | exact run_pick_false (.tmp rfl) .const) ?_
          refine lnil ?_
          refine xw_then ?_
          have hst := hsucc.trans (stepA hput hl2)
          refine cw_cond_true (.tmp rfl) ?_
          refine cw_region ?_
          refine lstepB rfl rfl rfl (run_fieldAddr (.tmp rfl) fa24_3 (by first | exact Nat.zero_add _ | exact rfl)) ?_
          refine lstepB rfl rfl rfl (run_load1 (.tmp rfl) kd22 (by repeat (first | exact List.Mem.head _ | apply List.Mem.tail)) (by exact rfl)) ?_
          refine lstepB rfl rfl rfl (run_loadN (.tmp rfl) kd55 sz55 (by repeat (first | exact List.Mem.head _ | apply List.Mem.tail)) (by repeat (first | exact Sub.done | apply Sub.take | apply Sub.skip))) ?_
          refine lstep rfl rfl rfl (LR.runs (lr_buildSlice_at (.cons (.tmp rfl) .nil) (fun w => bs22_1_0 w)) (by repeat (first | exact Pick.nil | (apply Pick.cons; focus (repeat (first | exact Del.here | apply Del.there))))) (by repeat (first | exact Dels.nil | (apply Dels.cons; focus (repeat (first | exact Del.here | apply Del.there)))))) ?_
          intro b32 _
          refine lstep rfl rfl rfl (LR.runs (R := [(b32, _)]) (A := [(gX, _)]) (lr_append_row ap22 (.tmp rfl) hX (.tmp rfl) (news := pitC p) rfl rfl (by omega) (by unfold maxLen; omega) (news_own (by repeat (first | exact List.Mem.head _ | apply List.Mem.tail)))) (by repeat (first | exact Pick.nil | (apply Pick.cons; focus (repeat (first | exact Del.here | apply Del.there))))) (by repeat (first | exact Dels.nil | (apply Dels.cons; focus (repeat (first | exact Del.here | apply Del.there)))))) ?_
          intro ⟨gY, cgY, rgY⟩ hgY
          refine lstepB rfl rfl rfl (run_fieldAddr (.tmp rfl) fa24_3 (by first | exact Nat.zero_add _ | exact rfl)) ?_
          refine lstep0 rfl rfl (run_store1 (.tmp rfl) (.tmp rfl) rfl sz22 (by repeat (first | exact Upd.here | apply Upd.there)) (by repeat (first | exact Put.done | apply Put.put | apply Put.skip))) ?_
          refine lstepB rfl rfl rfl (run_assign .const) ?_
          refine lnil ?_
          refine xw_then ?_
          refine cw_seq ?_
          refine cw_seq ?_
          refine cw_region ?_
          refine lstepB rfl rfl rfl (run_fieldAddr (.tmp rfl) fa55_0 (by first | exact Nat.zero_add _ | exact rfl)) ?_
          refine lstepB rfl rfl rfl (run_load1 (.tmp rfl) kd3 (by repeat (first | exact List.Mem.head _ | apply List.Mem.tail)) (by exact rfl)) ?_
          refine lstepB rfl rfl rfl (run_fieldAddr (.tmp rfl) fa55_0 (by first | exact Nat.zero_add _ | exact rfl)) ?_
          refine lstepB rfl rfl rfl (run_load1 (.tmp rfl) kd3 (by repeat (first | exact List.Mem.head _ | apply List.Mem.tail)) (by exact rfl)) ?_
          refine lstepB rfl rfl rfl (run_eql (.tmp rfl) (.tmp rfl) (by first | exact decide_eq_true (by omega) | exact decide_eq_false (by omega) | exact rfl)) ?_
          refine lnil ?_
          refine xw_then ?_
          refine cw_cond_false (.tmp rfl) ?_
          refine cw_skip ?_
          refine xw_then ?_
          refine cw_region ?_
          refine lstepB rfl rfl rfl (run_fieldAddr (.tmp rfl) fa24_3 (by first | exact Nat.zero_add _ | exact rfl)) ?_
          refine lstepB rfl rfl rfl (run_load1 (.tmp rfl) kd22 (by repeat (first | exact List.Mem.head _ | apply List.Mem.tail)) (by exact rfl)) ?_
          refine lstepB rfl rfl rfl (run_loadN (.tmp rfl) kd55 sz55 (by repeat (first | exact List.Mem.head _ | apply List.Mem.tail)) (by repeat (first | exact Sub.done | apply Sub.take | apply Sub.skip))) ?_
          refine lstep rfl rfl rfl (LR.runs (lr_buildSlice_at (.cons (.tmp rfl) .nil) (fun w => bs22_1_0 w)) (by repeat (first | exact Pick.nil | (apply Pick.cons; focus (repeat (first | exact Del.here | apply Del.there))))) (by repeat (first | exact Dels.nil | (apply Dels.cons; focus (repeat (first | exact Del.here | apply Del.there)))))) ?_
          intro b71 _
          refine lstep rfl rfl rfl (LR.runs (R := [(b71, _)]) (A := [(gY, _)]) (lr_append_row ap22 (.tmp rfl) hgY (.tmp rfl) (news := pitC o) rfl rfl (by omega) (by unfold maxLen; omega) (news_own (by repeat (first | exact List.Mem.head _ | apply List.Mem.tail)))) (by repeat (first | exact Pick.nil | (apply Pick.cons; focus (repeat (first | exact Del.here | apply Del.there))))) (by repeat (first | exact Dels.nil | (apply Dels.cons; focus (repeat (first | exact Del.here | apply Del.there)))))) ?_
          intro ⟨gW, cgW, rgW⟩ hgW
          have hpw : (foldW p (g.pits.take (k + 1))).2 = ((foldW p (g.pits.take k)).2 ++ [p]) ++ [o] := by rw [hst]
          have hlw : (foldW p (g.pits.take k)).2.length + 1 + 1 = (foldW p (g.pits.take (k + 1))).2.length := by rw [hpw]; simp
          have hq : pitsC (foldW p (g.pits.take (k + 1))).2 = pitsC (foldW p (g.pits.take k)).2 ++ pitC p ++ pitC o := by rw [hpw]; simp [pitsC]
          dsimp only at hgW
          have hrow : InRow 9 (foldW p (g.pits.take (k + 1))).2.length cgW rgW (pitsC (foldW p (g.pits.take (k + 1))).2) := by
            rw [hq]
            exact Eq.mp (congrArg (fun n => InRow 9 n cgW rgW _) hlw) hgW
          dsimp only
          rw [(show Value.slice (some ⟨gW, 0, none⟩) ((foldW p (g.pits.take k)).2.length + 1 + 1) cgW = Value.slice (some ⟨gW, 0, none⟩) (foldW p (g.pits.take (k + 1))).2.length cgW from congrArg (fun n => Value.slice (some ⟨gW, 0, none⟩) n cgW) hlw)]
          have hb1 : (foldW p (g.pits.take (k + 1))).1 = true := by rw [hst]
          refine lstepB rfl rfl rfl (run_fieldAddr (.tmp rfl) fa24_3 (by first | exact Nat.zero_add _ | exact rfl)) ?_
          refine lstep0 rfl rfl (run_store1 (.tmp rfl) (.tmp rfl) rfl sz22 (by repeat (first | exact Upd.here | apply Upd.there)) (by repeat (first | exact Put.done | apply Put.put | apply Put.skip))) ?_
          refine lnil ?_
          refine xw_in ?_
          refine xw_then ?_
          refine cw_region ?_
          refine lstepB rfl rfl rfl (run_add (.tmp rfl) .const (by first | exact IntWalk.i64_in _ (by omega) | exact rfl)) ?_
          refine lstepB rfl rfl rfl (run_move (.tmp rfl)) ?_
          refine lnil ?_
          rw [← hb1]
          exact xw_round (k + 1, some (gW, cgW, rgW)) ⟨by omega, by omega, hrow⟩ (by show g.pits.length - (k + 1) < g.pits.length - k; omega) (by repeat (first | exact Less.nil | refine Less.cons rfl ?_)) (by repeat (first | exact Pick.nil | (apply Pick.cons; focus (repeat (first | exact Del.here | apply Del.there)))))
        ·
          refine cw_skip ?_
          refine xw_then ?_
          refine cw_seq ?_
          refine cw_block ?_
          refine cw_seq ?_
          refine cw_region ?_
          refine lstepB rfl rfl rfl (run_indexAddr (i := k) (off' := po + k * 9) (.tmp rfl) (.tmp rfl) el22 (by omega) rfl) ?_
          refine lstepB rfl rfl rfl (run_loadN_at (l := [.int .i64 o.at_, .int .i64 o.hard.lo, .int .i64 o.hard.hi, .int .i64 o.sand.lo, .int .i64 o.sand.hi, .int .i64 o.silt.lo, .int .i64 o.silt.hi, .int .i64 o.clay.lo, .int .i64 o.clay.hi]) (.tmp rfl) kd55 sz55 rfl (fun w' hS j v hj => hS.old_cell (fun h => h) (hpc _ o hpk j v hj))) ?_
          refine lstep rfl rfl rfl (run_alloc zr55) ?_
          intro b10 _
          refine lstep0 rfl rfl (run_storeN (.tmp rfl) (.tmp rfl) rfl sz55 rfl (by repeat (first | exact Upd.here | apply Upd.there)) (by repeat (first | exact Put.done | apply Put.put | apply Put.skip))) ?_
          refine lnil ?_
          refine xw_then ?_
          refine cw_seq ?_
          refine cw_seq ?_
          refine cw_region ?_
          refine lstepB rfl rfl rfl (run_move (.tmp rfl)) ?_
          refine lstepB rfl rfl rfl (run_not (.tmp rfl) (by first | exact Bool.not_true | exact Bool.not_false | exact rfl)) ?_
          refine lstepB rfl rfl rfl (run_move (.tmp rfl)) ?_
          first | (refine lyes rfl rfl rfl rfl ?_; refine gstepB rfl rfl (run_fieldAddr (.tmp rfl) fa55_0 (by first | exact Nat.zero_add _ | exact rfl)) ?_) | refine lskip rfl rfl rfl rfl rfl rfl rfl ?_
          first | (refine lyes rfl rfl rfl rfl ?_; refine gstepB rfl rfl (run_load1 (.tmp rfl) kd3 (by repeat (first | exact List.Mem.head _ | apply List.Mem.tail)) (by exact rfl)) ?_) | refine lskip rfl rfl rfl rfl rfl rfl rfl ?_
          first | (refine lyes rfl rfl rfl rfl ?_; refine gstepB rfl rfl (run_fieldAddr (.tmp rfl) fa55_0 (by first | exact Nat.zero_add _ | exact rfl)) ?_) | refine lskip rfl rfl rfl rfl rfl rfl rfl ?_
          first | (refine lyes rfl rfl rfl rfl ?_; refine gstepB rfl rfl (run_load1 (.tmp rfl) kd3 (by repeat (first | exact List.Mem.head _ | apply List.Mem.tail)) (by exact rfl)) ?_) | refine lskip rfl rfl rfl rfl rfl rfl rfl ?_
          first | (refine lyes rfl rfl rfl rfl ?_; refine gstepB rfl rfl (run_gtr (.tmp rfl) (.tmp rfl) (by first | exact decide_eq_true (by omega) | exact decide_eq_false (by omega) | exact rfl)) ?_) | refine lskip rfl rfl rfl rfl rfl rfl rfl ?_
          refine lstepB rfl rfl rfl (by first | exact run_pick_true (.tmp rfl) (.tmp rfl) | exact run_pick_false (.tmp rfl) .const) ?_
          refine lnil ?_
          refine xw_then ?_
          have hst := hsucc.trans (stepC hl2.symm)
          refine cw_cond_false (.tmp rfl) ?_
          refine cw_skip ?_
          refine xw_then ?_
          refine cw_seq ?_
          refine cw_seq ?_
          refine cw_region ?_
          refine lstepB rfl rfl rfl (run_fieldAddr (.tmp rfl) fa55_0 (by first | exact Nat.zero_add _ | exact rfl)) ?_
          refine lstepB rfl rfl rfl (run_load1 (.tmp rfl) kd3 (by repeat (first | exact List.Mem.head _ | apply List.Mem.tail)) (by exact rfl)) ?_
          refine lstepB rfl rfl rfl (run_fieldAddr (.tmp rfl) fa55_0 (by first | exact Nat.zero_add _ | exact rfl)) ?_
          refine lstepB rfl rfl rfl (run_load1 (.tmp rfl) kd3 (by repeat (first | exact List.Mem.head _ | apply List.Mem.tail)) (by exact rfl)) ?_
          refine lstepB rfl rfl rfl (run_eql (.tmp rfl) (.tmp rfl) (by first | exact decide_eq_true (by omega) | exact decide_eq_false (by omega) | exact rfl)) ?_
          refine lnil ?_
          refine xw_then ?_
          refine cw_cond_true (.tmp rfl) ?_
          refine cw_seq ?_
          refine cw_chain2 (σ := [0, 1, 2, 3, 4, 5, 6, 7, 8, 9, 10, 11, 12, 13, 14, 15, 16, 17, 18, 19, 20, 21, 22, 23, 24, 25, 26, 27, 28, 29, 30, 31]) [⟨0, [], [], [], 0⟩, ⟨0, [], [], [], 0⟩, ⟨0, [0], [], [], 2⟩, ⟨0, [], [], [], 0⟩, ⟨0, [4], [], [], 8⟩, ⟨0, [], [], [], 31⟩, ⟨0, [], [], [], 0⟩, ⟨0, [], [], [], 0⟩, ⟨0, [0], [], [], 128⟩, ⟨0, [], [], [], 0⟩, ⟨0, [4], [], [], 512⟩, ⟨0, [], [], [], 2047⟩, ⟨0, [], [], [], 0⟩, ⟨0, [], [], [], 0⟩, ⟨0, [0], [], [], 8192⟩, ⟨0, [], [], [], 0⟩, ⟨0, [4], [], [], 32768⟩, ⟨0, [], [], [], 131071⟩, ⟨0, [], [], [], 0⟩, ⟨0, [], [], [], 0⟩, ⟨0, [0], [], [], 524288⟩, ⟨0, [], [], [], 0⟩, ⟨0, [4], [], [], 2097152⟩, ⟨0, [], [], [], 8388607⟩, ⟨0, [], [], [], 1597887⟩, ⟨0, [], [0], [0], 33554431⟩, ⟨0, [], [], [], 67108863⟩, ⟨0, [], [0], [0], 134217727⟩, ⟨0, [], [], [], 268435455⟩, ⟨0, [], [0], [0], 536870911⟩, ⟨0, [], [], [], 1073741823⟩, ⟨0, [], [0], [0], 2147483647⟩] [(0, _), (1, _), (2, _), (3, _), (4, _), (5, _)] (by kernel_rfl) (by kernel_rfl) rfl ?_
          refine .det (B := []) rfl rfl (.inl rfl) .nil .nil rfl (RunB.lr (run_move (.tmp rfl))) ?_
          refine .det (B := []) rfl rfl (.inl rfl) .nil .nil rfl (RunB.lr (run_fieldAddr (.tmp rfl) fa55_1 (by first | exact Nat.zero_add _ | exact rfl))) ?_
          refine .det (B := []) rfl rfl (.inl rfl) (.cons rfl .nil) .nil rfl (RunB.lr (run_loadN (.tmp rfl) kd28 sz28 (by repeat (first | exact List.Mem.head _ | apply List.Mem.tail)) (by repeat (first | exact Sub.done | apply Sub.take | apply Sub.skip)))) ?_
          refine .det (B := []) rfl rfl (.inl rfl) .nil .nil rfl (RunB.lr (run_fieldAddr (.tmp rfl) fa55_1 (by first | exact Nat.zero_add _ | exact rfl))) ?_
          refine .det (B := []) rfl rfl (.inl rfl) (.cons rfl .nil) .nil rfl (RunB.lr (run_loadN (.tmp rfl) kd28 sz28 (by repeat (first | exact List.Mem.head _ | apply List.Mem.tail)) (by repeat (first | exact Sub.done | apply Sub.take | apply Sub.skip)))) ?_
          refine .det (B := []) rfl rfl (.inl rfl) .nil .nil rfl (RunB.lr (run_callv1 cb77 (.tmp rfl) (.cons (.tmp rfl) (.cons (.tmp rfl) .nil)) rfl (fun w _ => bothLK ⟨_, _⟩ ⟨_, _⟩ w))) ?_
          refine .det (B := []) rfl rfl (.inl rfl) .nil .nil rfl (RunB.lr (run_move (.tmp rfl))) ?_
          refine .det (B := []) rfl rfl (.inl rfl) .nil .nil rfl (RunB.lr (run_fieldAddr (.tmp rfl) fa55_2 (by first | exact Nat.zero_add _ | exact rfl))) ?_
          refine .det (B := []) rfl rfl (.inl rfl) (.cons rfl .nil) .nil rfl (RunB.lr (run_loadN (.tmp rfl) kd28 sz28 (by repeat (first | exact List.Mem.head _ | apply List.Mem.tail)) (by repeat (first | exact Sub.done | apply Sub.take | apply Sub.skip)))) ?_
          refine .det (B := []) rfl rfl (.inl rfl) .nil .nil rfl (RunB.lr (run_fieldAddr (.tmp rfl) fa55_2 (by first | exact Nat.zero_add _ | exact rfl))) ?_
          refine .det (B := []) rfl rfl (.inl rfl) (.cons rfl .nil) .nil rfl (RunB.lr (run_loadN (.tmp rfl) kd28 sz28 (by repeat (first | exact List.Mem.head _ | apply List.Mem.tail)) (by repeat (first | exact Sub.done | apply Sub.take | apply Sub.skip)))) ?_
          refine .det (B := []) rfl rfl (.inl rfl) .nil .nil rfl (RunB.lr (run_callv1 cb77 (.tmp rfl) (.cons (.tmp rfl) (.cons (.tmp rfl) .nil)) rfl (fun w _ => bothLK ⟨_, _⟩ ⟨_, _⟩ w))) ?_
          refine .det (B := []) rfl rfl (.inl rfl) .nil .nil rfl (RunB.lr (run_move (.tmp rfl))) ?_
          refine .det (B := []) rfl rfl (.inl rfl) .nil .nil rfl (RunB.lr (run_fieldAddr (.tmp rfl) fa55_3 (by first | exact Nat.zero_add _ | exact rfl))) ?_
          refine .det (B := []) rfl rfl (.inl rfl) (.cons rfl .nil) .nil rfl (RunB.lr (run_loadN (.tmp rfl) kd28 sz28 (by repeat (first | exact List.Mem.head _ | apply List.Mem.tail)) (by repeat (first | exact Sub.done | apply Sub.take | apply Sub.skip)))) ?_
          refine .det (B := []) rfl rfl (.inl rfl) .nil .nil rfl (RunB.lr (run_fieldAddr (.tmp rfl) fa55_3 (by first | exact Nat.zero_add _ | exact rfl))) ?_
          refine .det (B := []) rfl rfl (.inl rfl) (.cons rfl .nil) .nil rfl (RunB.lr (run_loadN (.tmp rfl) kd28 sz28 (by repeat (first | exact List.Mem.head _ | apply List.Mem.tail)) (by repeat (first | exact Sub.done | apply Sub.take | apply Sub.skip)))) ?_
          refine .det (B := []) rfl rfl (.inl rfl) .nil .nil rfl (RunB.lr (run_callv1 cb77 (.tmp rfl) (.cons (.tmp rfl) (.cons (.tmp rfl) .nil)) rfl (fun w _ => bothLK ⟨_, _⟩ ⟨_, _⟩ w))) ?_
          refine .det (B := []) rfl rfl (.inl rfl) .nil .nil rfl (RunB.lr (run_move (.tmp rfl))) ?_
          refine .det (B := []) rfl rfl (.inl rfl) .nil .nil rfl (RunB.lr (run_fieldAddr (.tmp rfl) fa55_4 (by first | exact Nat.zero_add _ | exact rfl))) ?_
          refine .det (B := []) rfl rfl (.inl rfl) (.cons rfl .nil) .nil rfl (RunB.lr (run_loadN (.tmp rfl) kd28 sz28 (by repeat (first | exact List.Mem.head _ | apply List.Mem.tail)) (by repeat (first | exact Sub.done | apply Sub.take | apply Sub.skip)))) ?_
          refine .det (B := []) rfl rfl (.inl rfl) .nil .nil rfl (RunB.lr (run_fieldAddr (.tmp rfl) fa55_4 (by first | exact Nat.zero_add _ | exact rfl))) ?_
          refine .det (B := []) rfl rfl (.inl rfl) (.cons rfl .nil) .nil rfl (RunB.lr (run_loadN (.tmp rfl) kd28 sz28 (by repeat (first | exact List.Mem.head _ | apply List.Mem.tail)) (by repeat (first | exact Sub.done | apply Sub.take | apply Sub.skip)))) ?_
          refine .det (B := []) rfl rfl (.inl rfl) .nil .nil rfl (RunB.lr (run_callv1 cb77 (.tmp rfl) (.cons (.tmp rfl) (.cons (.tmp rfl) .nil)) rfl (fun w _ => bothLK ⟨_, _⟩ ⟨_, _⟩ w))) ?_
          refine .det (B := []) rfl rfl (.inl rfl) .nil .nil rfl (RunB.lr (run_fieldAddr (.tmp rfl) fa55_1 (by first | exact Nat.zero_add _ | exact rfl))) ?_
          refine .det (B := [(0, (_, _))]) rfl rfl (.inl rfl) .nil (.cons rfl .nil) rfl (lr_storeN (.tmp rfl) (.tmp rfl) rfl sz28 rfl (by repeat (first | exact Put.done | apply Put.put | apply Put.skip))) ?_
          refine .det (B := []) rfl rfl (.inl rfl) .nil .nil rfl (RunB.lr (run_fieldAddr (.tmp rfl) fa55_2 (by first | exact Nat.zero_add _ | exact rfl))) ?_
          refine .det (B := [(0, (_, _))]) rfl rfl (.inl rfl) .nil (.cons rfl .nil) rfl (lr_storeN (.tmp rfl) (.tmp rfl) rfl sz28 rfl (by repeat (first | exact Put.done | apply Put.put | apply Put.skip))) ?_
          refine .det (B := []) rfl rfl (.inl rfl) .nil .nil rfl (RunB.lr (run_fieldAddr (.tmp rfl) fa55_3 (by first | exact Nat.zero_add _ | exact rfl))) ?_
          refine .det (B := [(0, (_, _))]) rfl rfl (.inl rfl) .nil (.cons rfl .nil) rfl (lr_storeN (.tmp rfl) (.tmp rfl) rfl sz28 rfl (by repeat (first | exact Put.done | apply Put.put | apply Put.skip))) ?_
          refine .det (B := []) rfl rfl (.inl rfl) .nil .nil rfl (RunB.lr (run_fieldAddr (.tmp rfl) fa55_4 (by first | exact Nat.zero_add _ | exact rfl))) ?_
          refine .det (B := [(0, (_, _))]) rfl rfl (.inl rfl) .nil (.cons rfl .nil) rfl (lr_storeN (.tmp rfl) (.tmp rfl) rfl sz28 rfl (by repeat (first | exact Put.done | apply Put.put | apply Put.skip))) ?_
          refine chain_nil (ts := [0, 1, 2, 3, 4, 5]) (.cons rfl (.cons rfl (.cons rfl (.cons rfl (.cons rfl (.cons rfl .nil)))))) (by decide) ?_
          refine xw_then ?_
          refine cw_region ?_
          refine lstepB rfl rfl rfl (run_assign .const) ?_
          refine lnil ?_
          refine xw_then ?_
          refine cw_region ?_
          refine lstepB rfl rfl rfl (run_fieldAddr (.tmp rfl) fa24_3 (by first | exact Nat.zero_add _ | exact rfl)) ?_
          refine lstepB rfl rfl rfl (run_load1 (.tmp rfl) kd22 (by repeat (first | exact List.Mem.head _ | apply List.Mem.tail)) (by exact rfl)) ?_
          refine lstepB rfl rfl rfl (run_loadN (.tmp rfl) kd55 sz55 (by repeat (first | exact List.Mem.head _ | apply List.Mem.tail)) (by repeat (first | exact Sub.done | apply Sub.take | apply Sub.skip))) ?_
          refine lstep rfl rfl rfl (LR.runs (lr_buildSlice_at (.cons (.tmp rfl) .nil) (fun w => bs22_1_0 w)) (by repeat (first | exact Pick.nil | (apply Pick.cons; focus (repeat (first | exact Del.here | apply Del.there))))) (by repeat (first | exact Dels.nil | (apply Dels.cons; focus (repeat (first | exact Del.here | apply Del.there)))))) ?_
          intro b71 _
          refine lstep rfl rfl rfl (LR.runs (R := [(b71, _)]) (A := [(gX, _)]) (lr_append_row ap22 (.tmp rfl) hX (.tmp rfl) (news := pitC (mergeP o p)) rfl rfl (by omega) (by unfold maxLen; omega) (news_own (by repeat (first | exact List.Mem.head _ | apply List.Mem.tail)))) (by repeat (first | exact Pick.nil | (apply Pick.cons; focus (repeat (first | exact Del.here | apply Del.there))))) (by repeat (first | exact Dels.nil | (apply Dels.cons; focus (repeat (first | exact Del.here | apply Del.there)))))) ?_
          intro ⟨gW, cgW, rgW⟩ hgW
          have hpw : (foldW p (g.pits.take (k + 1))).2 = (foldW p (g.pits.take k)).2 ++ [mergeP o p] := by rw [hst]
          have hlw : (foldW p (g.pits.take k)).2.length + 1 = (foldW p (g.pits.take (k + 1))).2.length := by rw [hpw]; simp
          have hq : pitsC (foldW p (g.pits.take (k + 1))).2 = pitsC (foldW p (g.pits.take k)).2 ++ pitC (mergeP o p) := by rw [hpw]; simp [pitsC]
          dsimp only at hgW
          have hrow : InRow 9 (foldW p (g.pits.take (k + 1))).2.length cgW rgW (pitsC (foldW p (g.pits.take (k + 1))).2) := by
            rw [hq]
            exact Eq.mp (congrArg (fun n => InRow 9 n cgW rgW _) hlw) hgW
          dsimp only
          rw [(show Value.slice (some ⟨gW, 0, none⟩) ((foldW p (g.pits.take k)).2.length + 1) cgW = Value.slice (some ⟨gW, 0, none⟩) (foldW p (g.pits.take (k + 1))).2.length cgW from congrArg (fun n => Value.slice (some ⟨gW, 0, none⟩) n cgW) hlw)]
          have hb1 : (foldW p (g.pits.take (k + 1))).1 = true := by rw [hst]
          refine lstepB rfl rfl rfl (run_fieldAddr (.tmp rfl) fa24_3 (by first | exact Nat.zero_add _ | exact rfl)) ?_
          refine lstep0 rfl rfl (run_store1 (.tmp rfl) (.tmp rfl) rfl sz22 (by repeat (first | exact Upd.here | apply Upd.there)) (by repeat (first | exact Put.done | apply Put.put | apply Put.skip))) ?_
          refine lnil ?_
          refine xw_in ?_
          refine xw_then ?_
          refine cw_region ?_
          refine lstepB rfl rfl rfl (run_add (.tmp rfl) .const (by first | exact IntWalk.i64_in _ (by omega) | exact rfl)) ?_
          refine lstepB rfl rfl rfl (run_move (.tmp rfl)) ?_
          refine lnil ?_
          rw [← hb1]
          exact xw_round (k + 1, some (gW, cgW, rgW)) ⟨by omega, by omega, hrow⟩ (by show g.pits.length - (k + 1) < g.pits.length - k; omega) (by repeat (first | exact Less.nil | refine Less.cons rfl ?_)) (by repeat (first | exact Pick.nil | (apply Pick.cons; focus (repeat (first | exact Del.here | apply Del.there)))))
        ·
          refine cw_skip ?_
          refine xw_then ?_
          refine cw_seq ?_
          refine cw_block ?_
          refine cw_seq ?_
          refine cw_region ?_
          refine lstepB rfl rfl rfl (run_indexAddr (i := k) (off' := po + k * 9) (.tmp rfl) (.tmp rfl) el22 (by omega) rfl) ?_
          refine lstepB rfl rfl rfl (run_loadN_at (l := [.int .i64 o.at_, .int .i64 o.hard.lo, .int .i64 o.hard.hi, .int .i64 o.sand.lo, .int .i64 o.sand.hi, .int .i64 o.silt.lo, .int .i64 o.silt.hi, .int .i64 o.clay.lo, .int .i64 o.clay.hi]) (.tmp rfl) kd55 sz55 rfl (fun w' hS j v hj => hS.old_cell (fun h => h) (hpc _ o hpk j v hj))) ?_
          refine lstep rfl rfl rfl (run_alloc zr55) ?_
          intro b10 _
          refine lstep0 rfl rfl (run_storeN (.tmp rfl) (.tmp rfl) rfl sz55 rfl (by repeat (first | exact Upd.here | apply Upd.there)) (by repeat (first | exact Put.done | apply Put.put | apply Put.skip))) ?_
          refine lnil ?_
          refine xw_then ?_
          refine cw_seq ?_
          refine cw_seq ?_
          refine cw_region ?_
          refine lstepB rfl rfl rfl (run_move (.tmp rfl)) ?_
          refine lstepB rfl rfl rfl (run_not (.tmp rfl) (by first | exact Bool.not_true | exact Bool.not_false | exact rfl)) ?_
          refine lstepB rfl rfl rfl (run_move (.tmp rfl)) ?_
          first | (refine lyes rfl rfl rfl rfl ?_; refine gstepB rfl rfl (run_fieldAddr (.tmp rfl) fa55_0 (by first | exact Nat.zero_add _ | exact rfl)) ?_) | refine lskip rfl rfl rfl rfl rfl rfl rfl ?_
          first | (refine lyes rfl rfl rfl rfl ?_; refine gstepB rfl rfl (run_load1 (.tmp rfl) kd3 (by repeat (first | exact List.Mem.head _ | apply List.Mem.tail)) (by exact rfl)) ?_) | refine lskip rfl rfl rfl rfl rfl rfl rfl ?_
          first | (refine lyes rfl rfl rfl rfl ?_; refine gstepB rfl rfl (run_fieldAddr (.tmp rfl) fa55_0 (by first | exact Nat.zero_add _ | exact rfl)) ?_) | refine lskip rfl rfl rfl rfl rfl rfl rfl ?_
          first | (refine lyes rfl rfl rfl rfl ?_; refine gstepB rfl rfl (run_load1 (.tmp rfl) kd3 (by repeat (first | exact List.Mem.head _ | apply List.Mem.tail)) (by exact rfl)) ?_) | refine lskip rfl rfl rfl rfl rfl rfl rfl ?_
          first | (refine lyes rfl rfl rfl rfl ?_; refine gstepB rfl rfl (run_gtr (.tmp rfl) (.tmp rfl) (by first | exact decide_eq_true (by omega) | exact decide_eq_false (by omega) | exact rfl)) ?_) | refine lskip rfl rfl rfl rfl rfl rfl rfl ?_
          refine lstepB rfl rfl rfl (by first | exact run_pick_true (.tmp rfl) (.tmp rfl) | exact run_pick_false (.tmp rfl) .const) ?_
          refine lnil ?_
          refine xw_then ?_
          have hst := hsucc.trans (stepD hl2)
          refine cw_cond_false (.tmp rfl) ?_
          refine cw_skip ?_
          refine xw_then ?_
          refine cw_seq ?_
          refine cw_seq ?_
          refine cw_region ?_
          refine lstepB rfl rfl rfl (run_fieldAddr (.tmp rfl) fa55_0 (by first | exact Nat.zero_add _ | exact rfl)) ?_
          refine lstepB rfl rfl rfl (run_load1 (.tmp rfl) kd3 (by repeat (first | exact List.Mem.head _ | apply List.Mem.tail)) (by exact rfl)) ?_
          refine lstepB rfl rfl rfl (run_fieldAddr (.tmp rfl) fa55_0 (by first | exact Nat.zero_add _ | exact rfl)) ?_
          refine lstepB rfl rfl rfl (run_load1 (.tmp rfl) kd3 (by repeat (first | exact List.Mem.head _ | apply List.Mem.tail)) (by exact rfl)) ?_
          refine lstepB rfl rfl rfl (run_eql (.tmp rfl) (.tmp rfl) (by first | exact decide_eq_true (by omega) | exact decide_eq_false (by omega) | exact rfl)) ?_
          refine lnil ?_
          refine xw_then ?_
          refine cw_cond_false (.tmp rfl) ?_
          refine cw_skip ?_
          refine xw_then ?_
          refine cw_region ?_
          refine lstepB rfl rfl rfl (run_fieldAddr (.tmp rfl) fa24_3 (by first | exact Nat.zero_add _ | exact rfl)) ?_
          refine lstepB rfl rfl rfl (run_load1 (.tmp rfl) kd22 (by repeat (first | exact List.Mem.head _ | apply List.Mem.tail)) (by exact rfl)) ?_
          refine lstepB rfl rfl rfl (run_loadN (.tmp rfl) kd55 sz55 (by repeat (first | exact List.Mem.head _ | apply List.Mem.tail)) (by repeat (first | exact Sub.done | apply Sub.take | apply Sub.skip))) ?_
          refine lstep rfl rfl rfl (LR.runs (lr_buildSlice_at (.cons (.tmp rfl) .nil) (fun w => bs22_1_0 w)) (by repeat (first | exact Pick.nil | (apply Pick.cons; focus (repeat (first | exact Del.here | apply Del.there))))) (by repeat (first | exact Dels.nil | (apply Dels.cons; focus (repeat (first | exact Del.here | apply Del.there)))))) ?_
          intro b71 _
          refine lstep rfl rfl rfl (LR.runs (R := [(b71, _)]) (A := [(gX, _)]) (lr_append_row ap22 (.tmp rfl) hX (.tmp rfl) (news := pitC o) rfl rfl (by omega) (by unfold maxLen; omega) (news_own (by repeat (first | exact List.Mem.head _ | apply List.Mem.tail)))) (by repeat (first | exact Pick.nil | (apply Pick.cons; focus (repeat (first | exact Del.here | apply Del.there))))) (by repeat (first | exact Dels.nil | (apply Dels.cons; focus (repeat (first | exact Del.here | apply Del.there)))))) ?_
          intro ⟨gW, cgW, rgW⟩ hgW
          have hpw : (foldW p (g.pits.take (k + 1))).2 = (foldW p (g.pits.take k)).2 ++ [o] := by rw [hst]
          have hlw : (foldW p (g.pits.take k)).2.length + 1 = (foldW p (g.pits.take (k + 1))).2.length := by rw [hpw]; simp
          have hq : pitsC (foldW p (g.pits.take (k + 1))).2 = pitsC (foldW p (g.pits.take k)).2 ++ pitC o := by rw [hpw]; simp [pitsC]
          dsimp only at hgW
          have hrow : InRow 9 (foldW p (g.pits.take (k + 1))).2.length cgW rgW (pitsC (foldW p (g.pits.take (k + 1))).2) := by
            rw [hq]
            exact Eq.mp (congrArg (fun n => InRow 9 n cgW rgW _) hlw) hgW
          dsimp only
          rw [(show Value.slice (some ⟨gW, 0, none⟩) ((foldW p (g.pits.take k)).2.length + 1) cgW = Value.slice (some ⟨gW, 0, none⟩) (foldW p (g.pits.take (k + 1))).2.length cgW from congrArg (fun n => Value.slice (some ⟨gW, 0, none⟩) n cgW) hlw)]
          have hb1 : (foldW p (g.pits.take (k + 1))).1 = false := by rw [hst]; exact hput
          refine lstepB rfl rfl rfl (run_fieldAddr (.tmp rfl) fa24_3 (by first | exact Nat.zero_add _ | exact rfl)) ?_
          refine lstep0 rfl rfl (run_store1 (.tmp rfl) (.tmp rfl) rfl sz22 (by repeat (first | exact Upd.here | apply Upd.there)) (by repeat (first | exact Put.done | apply Put.put | apply Put.skip))) ?_
          refine lnil ?_
          refine xw_in ?_
          refine xw_then ?_
          refine cw_region ?_
          refine lstepB rfl rfl rfl (run_add (.tmp rfl) .const (by first | exact IntWalk.i64_in _ (by omega) | exact rfl)) ?_
          refine lstepB rfl rfl rfl (run_move (.tmp rfl)) ?_
          refine lnil ?_
          rw [← hb1]
          exact xw_round (k + 1, some (gW, cgW, rgW)) ⟨by omega, by omega, hrow⟩ (by show g.pits.length - (k + 1) < g.pits.length - k; omega) (by repeat (first | exact Less.nil | refine Less.cons rfl ?_)) (by repeat (first | exact Pick.nil | (apply Pick.cons; focus (repeat (first | exact Del.here | apply Del.there)))))
      ·
        rcases Int.lt_trichotomy p.at_ o.at_ with hl2 | hl2 | hl2
        ·
          refine cw_skip ?_
          refine xw_then ?_
          refine cw_seq ?_
          refine cw_block ?_
          refine cw_seq ?_
          refine cw_region ?_
          refine lstepB rfl rfl rfl (run_indexAddr (i := k) (off' := po + k * 9) (.tmp rfl) (.tmp rfl) el22 (by omega) rfl) ?_
          refine lstepB rfl rfl rfl (run_loadN_at (l := [.int .i64 o.at_, .int .i64 o.hard.lo, .int .i64 o.hard.hi, .int .i64 o.sand.lo, .int .i64 o.sand.hi, .int .i64 o.silt.lo, .int .i64 o.silt.hi, .int .i64 o.clay.lo, .int .i64 o.clay.hi]) (.tmp rfl) kd55 sz55 rfl (fun w' hS j v hj => hS.old_cell (fun h => h) (hpc _ o hpk j v hj))) ?_
          refine lstep rfl rfl rfl (run_alloc zr55) ?_
          intro b10 _
          refine lstep0 rfl rfl (run_storeN (.tmp rfl) (.tmp rfl) rfl sz55 rfl (by repeat (first | exact Upd.here | apply Upd.there)) (by repeat (first | exact Put.done | apply Put.put | apply Put.skip))) ?_
          refine lnil ?_
          refine xw_then ?_
          refine cw_seq ?_
          refine cw_seq ?_
          refine cw_region ?_
          refine lstepB rfl rfl rfl (run_move (.tmp rfl)) ?_
          refine lstepB rfl rfl rfl (run_not (.tmp rfl) (by first | exact Bool.not_true | exact Bool.not_false | exact rfl)) ?_
          refine lstepB rfl rfl rfl (run_move (.tmp rfl)) ?_
          first | (refine lyes rfl rfl rfl rfl ?_; refine gstepB rfl rfl (run_fieldAddr (.tmp rfl) fa55_0 (by first | exact Nat.zero_add _ | exact rfl)) ?_) | refine lskip rfl rfl rfl rfl rfl rfl rfl ?_
          first | (refine lyes rfl rfl rfl rfl ?_; refine gstepB rfl rfl (run_load1 (.tmp rfl) kd3 (by repeat (first | exact List.Mem.head _ | apply List.Mem.tail)) (by exact rfl)) ?_) | refine lskip rfl rfl rfl rfl rfl rfl rfl ?_
          first | (refine lyes rfl rfl rfl rfl ?_; refine gstepB rfl rfl (run_fieldAddr (.tmp rfl) fa55_0 (by first | exact Nat.zero_add _ | exact rfl)) ?_) | refine lskip rfl rfl rfl rfl rfl rfl rfl ?_
          first | (refine lyes rfl rfl rfl rfl ?_; refine gstepB rfl rfl (run_load1 (.tmp rfl) kd3 (by repeat (first | exact List.Mem.head _ | apply List.Mem.tail)) (by exact rfl)) ?_) | refine lskip rfl rfl rfl rfl rfl rfl rfl ?_
          first | (refine lyes rfl rfl rfl rfl ?_; refine gstepB rfl rfl (run_gtr (.tmp rfl) (.tmp rfl) (by first | exact decide_eq_true (by omega) | exact decide_eq_false (by omega) | exact rfl)) ?_) | refine lskip rfl rfl rfl rfl rfl rfl rfl ?_
          refine lstepB rfl rfl rfl (by first | exact run_pick_true (.tmp rfl) (.tmp rfl) | exact run_pick_false (.tmp rfl) .const) ?_
          refine lnil ?_
          refine xw_then ?_
          have hst := hsucc.trans (stepB hput hl2)
          refine cw_cond_false (.tmp rfl) ?_
          refine cw_skip ?_
          refine xw_then ?_
          refine cw_seq ?_
          refine cw_seq ?_
          refine cw_region ?_
          refine lstepB rfl rfl rfl (run_fieldAddr (.tmp rfl) fa55_0 (by first | exact Nat.zero_add _ | exact rfl)) ?_
          refine lstepB rfl rfl rfl (run_load1 (.tmp rfl) kd3 (by repeat (first | exact List.Mem.head _ | apply List.Mem.tail)) (by exact rfl)) ?_
          refine lstepB rfl rfl rfl (run_fieldAddr (.tmp rfl) fa55_0 (by first | exact Nat.zero_add _ | exact rfl)) ?_
          refine lstepB rfl rfl rfl (run_load1 (.tmp rfl) kd3 (by repeat (first | exact List.Mem.head _ | apply List.Mem.tail)) (by exact rfl)) ?_
          refine lstepB rfl rfl rfl (run_eql (.tmp rfl) (.tmp rfl) (by first | exact decide_eq_true (by omega) | exact decide_eq_false (by omega) | exact rfl)) ?_
          refine lnil ?_
          refine xw_then ?_
          refine cw_cond_false (.tmp rfl) ?_
          refine cw_skip ?_
          refine xw_then ?_
          refine cw_region ?_
          refine lstepB rfl rfl rfl (run_fieldAddr (.tmp rfl) fa24_3 (by first | exact Nat.zero_add _ | exact rfl)) ?_
          refine lstepB rfl rfl rfl (run_load1 (.tmp rfl) kd22 (by repeat (first | exact List.Mem.head _ | apply List.Mem.tail)) (by exact rfl)) ?_
          refine lstepB rfl rfl rfl (run_loadN (.tmp rfl) kd55 sz55 (by repeat (first | exact List.Mem.head _ | apply List.Mem.tail)) (by repeat (first | exact Sub.done | apply Sub.take | apply Sub.skip))) ?_
          refine lstep rfl rfl rfl (LR.runs (lr_buildSlice_at (.cons (.tmp rfl) .nil) (fun w => bs22_1_0 w)) (by repeat (first | exact Pick.nil | (apply Pick.cons; focus (repeat (first | exact Del.here | apply Del.there))))) (by repeat (first | exact Dels.nil | (apply Dels.cons; focus (repeat (first | exact Del.here | apply Del.there)))))) ?_
          intro b71 _
          refine lstep rfl rfl rfl (LR.runs (R := [(b71, _)]) (A := [(gX, _)]) (lr_append_row ap22 (.tmp rfl) hX (.tmp rfl) (news := pitC o) rfl rfl (by omega) (by unfold maxLen; omega) (news_own (by repeat (first | exact List.Mem.head _ | apply List.Mem.tail)))) (by repeat (first | exact Pick.nil | (apply Pick.cons; focus (repeat (first | exact Del.here | apply Del.there))))) (by repeat (first | exact Dels.nil | (apply Dels.cons; focus (repeat (first | exact Del.here | apply Del.there)))))) ?_
          intro ⟨gW, cgW, rgW⟩ hgW
          have hpw : (foldW p (g.pits.take (k + 1))).2 = (foldW p (g.pits.take k)).2 ++ [o] := by rw [hst]
          have hlw : (foldW p (g.pits.take k)).2.length + 1 = (foldW p (g.pits.take (k + 1))).2.length := by rw [hpw]; simp
          have hq : pitsC (foldW p (g.pits.take (k + 1))).2 = pitsC (foldW p (g.pits.take k)).2 ++ pitC o := by rw [hpw]; simp [pitsC]
          dsimp only at hgW
          have hrow : InRow 9 (foldW p (g.pits.take (k + 1))).2.length cgW rgW (pitsC (foldW p (g.pits.take (k + 1))).2) := by
            rw [hq]
            exact Eq.mp (congrArg (fun n => InRow 9 n cgW rgW _) hlw) hgW
          dsimp only
          rw [(show Value.slice (some ⟨gW, 0, none⟩) ((foldW p (g.pits.take k)).2.length + 1) cgW = Value.slice (some ⟨gW, 0, none⟩) (foldW p (g.pits.take (k + 1))).2.length cgW from congrArg (fun n => Value.slice (some ⟨gW, 0, none⟩) n cgW) hlw)]
          have hb1 : (foldW p (g.pits.take (k + 1))).1 = true := by rw [hst]
          refine lstepB rfl rfl rfl (run_fieldAddr (.tmp rfl) fa24_3 (by first | exact Nat.zero_add _ | exact rfl)) ?_
          refine lstep0 rfl rfl (run_store1 (.tmp rfl) (.tmp rfl) rfl sz22 (by repeat (first | exact Upd.here | apply Upd.there)) (by repeat (first | exact Put.done | apply Put.put | apply Put.skip))) ?_
          refine lnil ?_
          refine xw_in ?_
          refine xw_then ?_
          refine cw_region ?_
          refine lstepB rfl rfl rfl (run_add (.tmp rfl) .const (by first | exact IntWalk.i64_in _ (by omega) | exact rfl)) ?_
          refine lstepB rfl rfl rfl (run_move (.tmp rfl)) ?_
          refine lnil ?_
          rw [← hb1]
          exact xw_round (k + 1, some (gW, cgW, rgW)) ⟨by omega, by omega, hrow⟩ (by show g.pits.length - (k + 1) < g.pits.length - k; omega) (by repeat (first | exact Less.nil | refine Less.cons rfl ?_)) (by repeat (first | exact Pick.nil | (apply Pick.cons; focus (repeat (first | exact Del.here | apply Del.there)))))
        ·
          refine cw_skip ?_
          refine xw_then ?_
          refine cw_seq ?_
          refine cw_block ?_
          refine cw_seq ?_
          refine cw_region ?_
          refine lstepB rfl rfl rfl (run_indexAddr (i := k) (off' := po + k * 9) (.tmp rfl) (.tmp rfl) el22 (by omega) rfl) ?_
          refine lstepB rfl rfl rfl (run_loadN_at (l := [.int .i64 o.at_, .int .i64 o.hard.lo, .int .i64 o.hard.hi, .int .i64 o.sand.lo, .int .i64 o.sand.hi, .int .i64 o.silt.lo, .int .i64 o.silt.hi, .int .i64 o.clay.lo, .int .i64 o.clay.hi]) (.tmp rfl) kd55 sz55 rfl (fun w' hS j v hj => hS.old_cell (fun h => h) (hpc _ o hpk j v hj))) ?_
          refine lstep rfl rfl rfl (run_alloc zr55) ?_
          intro b10 _
          refine lstep0 rfl rfl (run_storeN (.tmp rfl) (.tmp rfl) rfl sz55 rfl (by repeat (first | exact Upd.here | apply Upd.there)) (by repeat (first | exact Put.done | apply Put.put | apply Put.skip))) ?_
          refine lnil ?_
          refine xw_then ?_
          refine cw_seq ?_
          refine cw_seq ?_
          refine cw_region ?_
          refine lstepB rfl rfl rfl (run_move (.tmp rfl)) ?_
          refine lstepB rfl rfl rfl (run_not (.tmp rfl) (by first | exact Bool.not_true | exact Bool.not_false | exact rfl)) ?_
          refine lstepB rfl rfl rfl (run_move (.tmp rfl)) ?_
          first | (refine lyes rfl rfl rfl rfl ?_; refine gstepB rfl rfl (run_fieldAddr (.tmp rfl) fa55_0 (by first | exact Nat.zero_add _ | exact rfl)) ?_) | refine lskip rfl rfl rfl rfl rfl rfl rfl ?_
          first | (refine lyes rfl rfl rfl rfl ?_; refine gstepB rfl rfl (run_load1 (.tmp rfl) kd3 (by repeat (first | exact List.Mem.head _ | apply List.Mem.tail)) (by exact rfl)) ?_) | refine lskip rfl rfl rfl rfl rfl rfl rfl ?_
          first | (refine lyes rfl rfl rfl rfl ?_; refine gstepB rfl rfl (run_fieldAddr (.tmp rfl) fa55_0 (by first | exact Nat.zero_add _ | exact rfl)) ?_) | refine lskip rfl rfl rfl rfl rfl rfl rfl ?_
          first | (refine lyes rfl rfl rfl rfl ?_; refine gstepB rfl rfl (run_load1 (.tmp rfl) kd3 (by repeat (first | exact List.Mem.head _ | apply List.Mem.tail)) (by exact rfl)) ?_) | refine lskip rfl rfl rfl rfl rfl rfl rfl ?_
          first | (refine lyes rfl rfl rfl rfl ?_; refine gstepB rfl rfl (run_gtr (.tmp rfl) (.tmp rfl) (by first | exact decide_eq_true (by omega) | exact decide_eq_false (by omega) | exact rfl)) ?_) | refine lskip rfl rfl rfl rfl rfl rfl rfl ?_
          refine lstepB rfl rfl rfl (by first | exact run_pick_true (.tmp rfl) (.tmp rfl) | exact run_pick_false (.tmp rfl) .const) ?_
          refine lnil ?_
          refine xw_then ?_
          have hst := hsucc.trans (stepC hl2.symm)
          refine cw_cond_false (.tmp rfl) ?_
          refine cw_skip ?_
          refine xw_then ?_
          refine cw_seq ?_
          refine cw_seq ?_
          refine cw_region ?_
          refine lstepB rfl rfl rfl (run_fieldAddr (.tmp rfl) fa55_0 (by first | exact Nat.zero_add _ | exact rfl)) ?_
          refine lstepB rfl rfl rfl (run_load1 (.tmp rfl) kd3 (by repeat (first | exact List.Mem.head _ | apply List.Mem.tail)) (by exact rfl)) ?_
          refine lstepB rfl rfl rfl (run_fieldAddr (.tmp rfl) fa55_0 (by first | exact Nat.zero_add _ | exact rfl)) ?_
          refine lstepB rfl rfl rfl (run_load1 (.tmp rfl) kd3 (by repeat (first | exact List.Mem.head _ | apply List.Mem.tail)) (by exact rfl)) ?_
          refine lstepB rfl rfl rfl (run_eql (.tmp rfl) (.tmp rfl) (by first | exact decide_eq_true (by omega) | exact decide_eq_false (by omega) | exact rfl)) ?_
          refine lnil ?_
          refine xw_then ?_
          refine cw_cond_true (.tmp rfl) ?_
          refine cw_seq ?_
          refine cw_chain2 (σ := [0, 1, 2, 3, 4, 5, 6, 7, 8, 9, 10, 11, 12, 13, 14, 15, 16, 17, 18, 19, 20, 21, 22, 23, 24, 25, 26, 27, 28, 29, 30, 31]) [⟨0, [], [], [], 0⟩, ⟨0, [], [], [], 0⟩, ⟨0, [0], [], [], 2⟩, ⟨0, [], [], [], 0⟩, ⟨0, [4], [], [], 8⟩, ⟨0, [], [], [], 31⟩, ⟨0, [], [], [], 0⟩, ⟨0, [], [], [], 0⟩, ⟨0, [0], [], [], 128⟩, ⟨0, [], [], [], 0⟩, ⟨0, [4], [], [], 512⟩, ⟨0, [], [], [], 2047⟩, ⟨0, [], [], [], 0⟩, ⟨0, [], [], [], 0⟩, ⟨0, [0], [], [], 8192⟩, ⟨0, [], [], [], 0⟩, ⟨0, [4], [], [], 32768⟩, ⟨0, [], [], [], 131071⟩, ⟨0, [], [], [], 0⟩, ⟨0, [], [], [], 0⟩, ⟨0, [0], [], [], 524288⟩, ⟨0, [], [], [], 0⟩, ⟨0, [4], [], [], 2097152⟩, ⟨0, [], [], [], 8388607⟩, ⟨0, [], [], [], 1597887⟩, ⟨0, [], [0], [0], 33554431⟩, ⟨0, [], [], [], 67108863⟩, ⟨0, [], [0], [0], 134217727⟩, ⟨0, [], [], [], 268435455⟩, ⟨0, [], [0], [0], 536870911⟩, ⟨0, [], [], [], 1073741823⟩, ⟨0, [], [0], [0], 2147483647⟩] [(0, _), (1, _), (2, _), (3, _), (4, _), (5, _)] (by kernel_rfl) (by kernel_rfl) rfl ?_
          refine .det (B := []) rfl rfl (.inl rfl) .nil .nil rfl (RunB.lr (run_move (.tmp rfl))) ?_
          refine .det (B := []) rfl rfl (.inl rfl) .nil .nil rfl (RunB.lr (run_fieldAddr (.tmp rfl) fa55_1 (by first | exact Nat.zero_add _ | exact rfl))) ?_
          refine .det (B := []) rfl rfl (.inl rfl) (.cons rfl .nil) .nil rfl (RunB.lr (run_loadN (.tmp rfl) kd28 sz28 (by repeat (first | exact List.Mem.head _ | apply List.Mem.tail)) (by repeat (first | exact Sub.done | apply Sub.take | apply Sub.skip)))) ?_
          refine .det (B := []) rfl rfl (.inl rfl) .nil .nil rfl (RunB.lr (run_fieldAddr (.tmp rfl) fa55_1 (by first | exact Nat.zero_add _ | exact rfl))) ?_
          refine .det (B := []) rfl rfl (.inl rfl) (.cons rfl .nil) .nil rfl (RunB.lr (run_loadN (.tmp rfl) kd28 sz28 (by repeat (first | exact List.Mem.head _ | apply List.Mem.tail)) (by repeat (first | exact Sub.done | apply Sub.take | apply Sub.skip)))) ?_
          refine .det (B := []) rfl rfl (.inl rfl) .nil .nil rfl (RunB.lr (run_callv1 cb77 (.tmp rfl) (.cons (.tmp rfl) (.cons (.tmp rfl) .nil)) rfl (fun w _ => bothLK ⟨_, _⟩ ⟨_, _⟩ w))) ?_
          refine .det (B := []) rfl rfl (.inl rfl) .nil .nil rfl (RunB.lr (run_move (.tmp rfl))) ?_
          refine .det (B := []) rfl rfl (.inl rfl) .nil .nil rfl (RunB.lr (run_fieldAddr (.tmp rfl) fa55_2 (by first | exact Nat.zero_add _ | exact rfl))) ?_
          refine .det (B := []) rfl rfl (.inl rfl) (.cons rfl .nil) .nil rfl (RunB.lr (run_loadN (.tmp rfl) kd28 sz28 (by repeat (first | exact List.Mem.head _ | apply List.Mem.tail)) (by repeat (first | exact Sub.done | apply Sub.take | apply Sub.skip)))) ?_
          refine .det (B := []) rfl rfl (.inl rfl) .nil .nil rfl (RunB.lr (run_fieldAddr (.tmp rfl) fa55_2 (by first | exact Nat.zero_add _ | exact rfl))) ?_
          refine .det (B := []) rfl rfl (.inl rfl) (.cons rfl .nil) .nil rfl (RunB.lr (run_loadN (.tmp rfl) kd28 sz28 (by repeat (first | exact List.Mem.head _ | apply List.Mem.tail)) (by repeat (first | exact Sub.done | apply Sub.take | apply Sub.skip)))) ?_
          refine .det (B := []) rfl rfl (.inl rfl) .nil .nil rfl (RunB.lr (run_callv1 cb77 (.tmp rfl) (.cons (.tmp rfl) (.cons (.tmp rfl) .nil)) rfl (fun w _ => bothLK ⟨_, _⟩ ⟨_, _⟩ w))) ?_
          refine .det (B := []) rfl rfl (.inl rfl) .nil .nil rfl (RunB.lr (run_move (.tmp rfl))) ?_
          refine .det (B := []) rfl rfl (.inl rfl) .nil .nil rfl (RunB.lr (run_fieldAddr (.tmp rfl) fa55_3 (by first | exact Nat.zero_add _ | exact rfl))) ?_
          refine .det (B := []) rfl rfl (.inl rfl) (.cons rfl .nil) .nil rfl (RunB.lr (run_loadN (.tmp rfl) kd28 sz28 (by repeat (first | exact List.Mem.head _ | apply List.Mem.tail)) (by repeat (first | exact Sub.done | apply Sub.take | apply Sub.skip)))) ?_
          refine .det (B := []) rfl rfl (.inl rfl) .nil .nil rfl (RunB.lr (run_fieldAddr (.tmp rfl) fa55_3 (by first | exact Nat.zero_add _ | exact rfl))) ?_
          refine .det (B := []) rfl rfl (.inl rfl) (.cons rfl .nil) .nil rfl (RunB.lr (run_loadN (.tmp rfl) kd28 sz28 (by repeat (first | exact List.Mem.head _ | apply List.Mem.tail)) (by repeat (first | exact Sub.done | apply Sub.take | apply Sub.skip)))) ?_
          refine .det (B := []) rfl rfl (.inl rfl) .nil .nil rfl (RunB.lr (run_callv1 cb77 (.tmp rfl) (.cons (.tmp rfl) (.cons (.tmp rfl) .nil)) rfl (fun w _ => bothLK ⟨_, _⟩ ⟨_, _⟩ w))) ?_
          refine .det (B := []) rfl rfl (.inl rfl) .nil .nil rfl (RunB.lr (run_move (.tmp rfl))) ?_
          refine .det (B := []) rfl rfl (.inl rfl) .nil .nil rfl (RunB.lr (run_fieldAddr (.tmp rfl) fa55_4 (by first | exact Nat.zero_add _ | exact rfl))) ?_
          refine .det (B := []) rfl rfl (.inl rfl) (.cons rfl .nil) .nil rfl (RunB.lr (run_loadN (.tmp rfl) kd28 sz28 (by repeat (first | exact List.Mem.head _ | apply List.Mem.tail)) (by repeat (first | exact Sub.done | apply Sub.take | apply Sub.skip)))) ?_
          refine .det (B := []) rfl rfl (.inl rfl) .nil .nil rfl (RunB.lr (run_fieldAddr (.tmp rfl) fa55_4 (by first | exact Nat.zero_add _ | exact rfl))) ?_
          refine .det (B := []) rfl rfl (.inl rfl) (.cons rfl .nil) .nil rfl (RunB.lr (run_loadN (.tmp rfl) kd28 sz28 (by repeat (first | exact List.Mem.head _ | apply List.Mem.tail)) (by repeat (first | exact Sub.done | apply Sub.take | apply Sub.skip)))) ?_
          refine .det (B := []) rfl rfl (.inl rfl) .nil .nil rfl (RunB.lr (run_callv1 cb77 (.tmp rfl) (.cons (.tmp rfl) (.cons (.tmp rfl) .nil)) rfl (fun w _ => bothLK ⟨_, _⟩ ⟨_, _⟩ w))) ?_
          refine .det (B := []) rfl rfl (.inl rfl) .nil .nil rfl (RunB.lr (run_fieldAddr (.tmp rfl) fa55_1 (by first | exact Nat.zero_add _ | exact rfl))) ?_
          refine .det (B := [(0, (_, _))]) rfl rfl (.inl rfl) .nil (.cons rfl .nil) rfl (lr_storeN (.tmp rfl) (.tmp rfl) rfl sz28 rfl (by repeat (first | exact Put.done | apply Put.put | apply Put.skip))) ?_
          refine .det (B := []) rfl rfl (.inl rfl) .nil .nil rfl (RunB.lr (run_fieldAddr (.tmp rfl) fa55_2 (by first | exact Nat.zero_add _ | exact rfl))) ?_
          refine .det (B := [(0, (_, _))]) rfl rfl (.inl rfl) .nil (.cons rfl .nil) rfl (lr_storeN (.tmp rfl) (.tmp rfl) rfl sz28 rfl (by repeat (first | exact Put.done | apply Put.put | apply Put.skip))) ?_
          refine .det (B := []) rfl rfl (.inl rfl) .nil .nil rfl (RunB.lr (run_fieldAddr (.tmp rfl) fa55_3 (by first | exact Nat.zero_add _ | exact rfl))) ?_
          refine .det (B := [(0, (_, _))]) rfl rfl (.inl rfl) .nil (.cons rfl .nil) rfl (lr_storeN (.tmp rfl) (.tmp rfl) rfl sz28 rfl (by repeat (first | exact Put.done | apply Put.put | apply Put.skip))) ?_
          refine .det (B := []) rfl rfl (.inl rfl) .nil .nil rfl (RunB.lr (run_fieldAddr (.tmp rfl) fa55_4 (by first | exact Nat.zero_add _ | exact rfl))) ?_
          refine .det (B := [(0, (_, _))]) rfl rfl (.inl rfl) .nil (.cons rfl .nil) rfl (lr_storeN (.tmp rfl) (.tmp rfl) rfl sz28 rfl (by repeat (first | exact Put.done | apply Put.put | apply Put.skip))) ?_
          refine chain_nil (ts := [0, 1, 2, 3, 4, 5]) (.cons rfl (.cons rfl (.cons rfl (.cons rfl (.cons rfl (.cons rfl .nil)))))) (by decide) ?_
          refine xw_then ?_
          refine cw_region ?_
          refine lstepB rfl rfl rfl (run_assign .const) ?_
          refine lnil ?_
          refine xw_then ?_
          refine cw_region ?_
          refine lstepB rfl rfl rfl (run_fieldAddr (.tmp rfl) fa24_3 (by first | exact Nat.zero_add _ | exact rfl)) ?_
          refine lstepB rfl rfl rfl (run_load1 (.tmp rfl) kd22 (by repeat (first | exact List.Mem.head _ | apply List.Mem.tail)) (by exact rfl)) ?_
          refine lstepB rfl rfl rfl (run_loadN (.tmp rfl) kd55 sz55 (by repeat (first | exact List.Mem.head _ | apply List.Mem.tail)) (by repeat (first | exact Sub.done | apply Sub.take | apply Sub.skip))) ?_
          refine lstep rfl rfl rfl (LR.runs (lr_buildSlice_at (.cons (.tmp rfl) .nil) (fun w => bs22_1_0 w)) (by repeat (first | exact Pick.nil | (apply Pick.cons; focus (repeat (first | exact Del.here | apply Del.there))))) (by repeat (first | exact Dels.nil | (apply Dels.cons; focus (repeat (first | exact Del.here | apply Del.there)))))) ?_
          intro b71 _
          refine lstep rfl rfl rfl (LR.runs (R := [(b71, _)]) (A := [(gX, _)]) (lr_append_row ap22 (.tmp rfl) hX (.tmp rfl) (news := pitC (mergeP o p)) rfl rfl (by omega) (by unfold maxLen; omega) (news_own (by repeat (first | exact List.Mem.head _ | apply List.Mem.tail)))) (by repeat (first | exact Pick.nil | (apply Pick.cons; focus (repeat (first | exact Del.here | apply Del.there))))) (by repeat (first | exact Dels.nil | (apply Dels.cons; focus (repeat (first | exact Del.here | apply Del.there)))))) ?_
          intro ⟨gW, cgW, rgW⟩ hgW
          have hpw : (foldW p (g.pits.take (k + 1))).2 = (foldW p (g.pits.take k)).2 ++ [mergeP o p] := by rw [hst]
          have hlw : (foldW p (g.pits.take k)).2.length + 1 = (foldW p (g.pits.take (k + 1))).2.length := by rw [hpw]; simp
          have hq : pitsC (foldW p (g.pits.take (k + 1))).2 = pitsC (foldW p (g.pits.take k)).2 ++ pitC (mergeP o p) := by rw [hpw]; simp [pitsC]
          dsimp only at hgW
          have hrow : InRow 9 (foldW p (g.pits.take (k + 1))).2.length cgW rgW (pitsC (foldW p (g.pits.take (k + 1))).2) := by
            rw [hq]
            exact Eq.mp (congrArg (fun n => InRow 9 n cgW rgW _) hlw) hgW
          dsimp only
          rw [(show Value.slice (some ⟨gW, 0, none⟩) ((foldW p (g.pits.take k)).2.length + 1) cgW = Value.slice (some ⟨gW, 0, none⟩) (foldW p (g.pits.take (k + 1))).2.length cgW from congrArg (fun n => Value.slice (some ⟨gW, 0, none⟩) n cgW) hlw)]
          have hb1 : (foldW p (g.pits.take (k + 1))).1 = true := by rw [hst]
          refine lstepB rfl rfl rfl (run_fieldAddr (.tmp rfl) fa24_3 (by first | exact Nat.zero_add _ | exact rfl)) ?_
          refine lstep0 rfl rfl (run_store1 (.tmp rfl) (.tmp rfl) rfl sz22 (by repeat (first | exact Upd.here | apply Upd.there)) (by repeat (first | exact Put.done | apply Put.put | apply Put.skip))) ?_
          refine lnil ?_
          refine xw_in ?_
          refine xw_then ?_
          refine cw_region ?_
          refine lstepB rfl rfl rfl (run_add (.tmp rfl) .const (by first | exact IntWalk.i64_in _ (by omega) | exact rfl)) ?_
          refine lstepB rfl rfl rfl (run_move (.tmp rfl)) ?_
          refine lnil ?_
          rw [← hb1]
          exact xw_round (k + 1, some (gW, cgW, rgW)) ⟨by omega, by omega, hrow⟩ (by show g.pits.length - (k + 1) < g.pits.length - k; omega) (by repeat (first | exact Less.nil | refine Less.cons rfl ?_)) (by repeat (first | exact Pick.nil | (apply Pick.cons; focus (repeat (first | exact Del.here | apply Del.there)))))
        ·
          refine cw_skip ?_
          refine xw_then ?_
          refine cw_seq ?_
          refine cw_block ?_
          refine cw_seq ?_
          refine cw_region ?_
          refine lstepB rfl rfl rfl (run_indexAddr (i := k) (off' := po + k * 9) (.tmp rfl) (.tmp rfl) el22 (by omega) rfl) ?_
          refine lstepB rfl rfl rfl (run_loadN_at (l := [.int .i64 o.at_, .int .i64 o.hard.lo, .int .i64 o.hard.hi, .int .i64 o.sand.lo, .int .i64 o.sand.hi, .int .i64 o.silt.lo, .int .i64 o.silt.hi, .int .i64 o.clay.lo, .int .i64 o.clay.hi]) (.tmp rfl) kd55 sz55 rfl (fun w' hS j v hj => hS.old_cell (fun h => h) (hpc _ o hpk j v hj))) ?_
          refine lstep rfl rfl rfl (run_alloc zr55) ?_
          intro b10 _
          refine lstep0 rfl rfl (run_storeN (.tmp rfl) (.tmp rfl) rfl sz55 rfl (by repeat (first | exact Upd.here | apply Upd.there)) (by repeat (first | exact Put.done | apply Put.put | apply Put.skip))) ?_
          refine lnil ?_
          refine xw_then ?_
          refine cw_seq ?_
          refine cw_seq ?_
          refine cw_region ?_
          refine lstepB rfl rfl rfl (run_move (.tmp rfl)) ?_
          refine lstepB rfl rfl rfl (run_not (.tmp rfl) (by first | exact Bool.not_true | exact Bool.not_false | exact rfl)) ?_
          refine lstepB rfl rfl rfl (run_move (.tmp rfl)) ?_
          first | (refine lyes rfl rfl rfl rfl ?_; refine gstepB rfl rfl (run_fieldAddr (.tmp rfl) fa55_0 (by first | exact Nat.zero_add _ | exact rfl)) ?_) | refine lskip rfl rfl rfl rfl rfl rfl rfl ?_
          first | (refine lyes rfl rfl rfl rfl ?_; refine gstepB rfl rfl (run_load1 (.tmp rfl) kd3 (by repeat (first | exact List.Mem.head _ | apply List.Mem.tail)) (by exact rfl)) ?_) | refine lskip rfl rfl rfl rfl rfl rfl rfl ?_
          first | (refine lyes rfl rfl rfl rfl ?_; refine gstepB rfl rfl (run_fieldAddr (.tmp rfl) fa55_0 (by first | exact Nat.zero_add _ | exact rfl)) ?_) | refine lskip rfl rfl rfl rfl rfl rfl rfl ?_
          first | (refine lyes rfl rfl rfl rfl ?_; refine gstepB rfl rfl (run_load1 (.tmp rfl) kd3 (by repeat (first | exact List.Mem.head _ | apply List.Mem.tail)) (by exact rfl)) ?_) | refine lskip rfl rfl rfl rfl rfl rfl rfl ?_
          first | (refine lyes rfl rfl rfl rfl ?_; refine gstepB rfl rfl (run_gtr (.tmp rfl) (.tmp rfl) (by first | exact decide_eq_true (by omega) | exact decide_eq_false (by omega) | exact rfl)) ?_) | refine lskip rfl rfl rfl rfl rfl rfl rfl ?_
          refine lstepB rfl rfl rfl (by first | exact run_pick_true (.tmp rfl) (.tmp rfl) | exact run_pick_false (.tmp rfl) .const) ?_
          refine lnil ?_
          refine xw_then ?_
          have hst := hsucc.trans (stepD hl2)
          refine cw_cond_false (.tmp rfl) ?_
          refine cw_skip ?_
          refine xw_then ?_
          refine cw_seq ?_
          refine cw_seq ?_
          refine cw_region ?_
          refine lstepB rfl rfl rfl (run_fieldAddr (.tmp rfl) fa55_0 (by first | exact Nat.zero_add _ | exact rfl)) ?_
          refine lstepB rfl rfl rfl (run_load1 (.tmp rfl) kd3 (by repeat (first | exact List.Mem.head _ | apply List.Mem.tail)) (by exact rfl)) ?_
          refine lstepB rfl rfl rfl (run_fieldAddr (.tmp rfl) fa55_0 (by first | exact Nat.zero_add _ | exact rfl)) ?_
          refine lstepB rfl rfl rfl (run_load1 (.tmp rfl) kd3 (by repeat (first | exact List.Mem.head _ | apply List.Mem.tail)) (by exact rfl)) ?_
          refine lstepB rfl rfl rfl (run_eql (.tmp rfl) (.tmp rfl) (by first | exact decide_eq_true (by omega) | exact decide_eq_false (by omega) | exact rfl)) ?_
          refine lnil ?_
          refine xw_then ?_
          refine cw_cond_false (.tmp rfl) ?_
          refine cw_skip ?_
          refine xw_then ?_
          refine cw_region ?_
          refine lstepB rfl rfl rfl (run_fieldAddr (.tmp rfl) fa24_3 (by first | exact Nat.zero_add _ | exact rfl)) ?_
          refine lstepB rfl rfl rfl (run_load1 (.tmp rfl) kd22 (by repeat (first | exact List.Mem.head _ | apply List.Mem.tail)) (by exact rfl)) ?_
          refine lstepB rfl rfl rfl (run_loadN (.tmp rfl) kd55 sz55 (by repeat (first | exact List.Mem.head _ | apply List.Mem.tail)) (by repeat (first | exact Sub.done | apply Sub.take | apply Sub.skip))) ?_
          refine lstep rfl rfl rfl (LR.runs (lr_buildSlice_at (.cons (.tmp rfl) .nil) (fun w => bs22_1_0 w)) (by repeat (first | exact Pick.nil | (apply Pick.cons; focus (repeat (first | exact Del.here | apply Del.there))))) (by repeat (first | exact Dels.nil | (apply Dels.cons; focus (repeat (first | exact Del.here | apply Del.there)))))) ?_
          intro b71 _
          refine lstep rfl rfl rfl (LR.runs (R := [(b71, _)]) (A := [(gX, _)]) (lr_append_row ap22 (.tmp rfl) hX (.tmp rfl) (news := pitC o) rfl rfl (by omega) (by unfold maxLen; omega) (news_own (by repeat (first | exact List.Mem.head _ | apply List.Mem.tail)))) (by repeat (first | exact Pick.nil | (apply Pick.cons; focus (repeat (first | exact Del.here | apply Del.there))))) (by repeat (first | exact Dels.nil | (apply Dels.cons; focus (repeat (first | exact Del.here | apply Del.there)))))) ?_
          intro ⟨gW, cgW, rgW⟩ hgW
          have hpw : (foldW p (g.pits.take (k + 1))).2 = (foldW p (g.pits.take k)).2 ++ [o] := by rw [hst]
          have hlw : (foldW p (g.pits.take k)).2.length + 1 = (foldW p (g.pits.take (k + 1))).2.length := by rw [hpw]; simp
          have hq : pitsC (foldW p (g.pits.take (k + 1))).2 = pitsC (foldW p (g.pits.take k)).2 ++ pitC o := by rw [hpw]; simp [pitsC]
          dsimp only at hgW
          have hrow : InRow 9 (foldW p (g.pits.take (k + 1))).2.length cgW rgW (pitsC (foldW p (g.pits.take (k + 1))).2) := by
            rw [hq]
            exact Eq.mp (congrArg (fun n => InRow 9 n cgW rgW _) hlw) hgW
          dsimp only
          rw [(show Value.slice (some ⟨gW, 0, none⟩) ((foldW p (g.pits.take k)).2.length + 1) cgW = Value.slice (some ⟨gW, 0, none⟩) (foldW p (g.pits.take (k + 1))).2.length cgW from congrArg (fun n => Value.slice (some ⟨gW, 0, none⟩) n cgW) hlw)]
          have hb1 : (foldW p (g.pits.take (k + 1))).1 = true := by rw [hst]; exact hput
          refine lstepB rfl rfl rfl (run_fieldAddr (.tmp rfl) fa24_3 (by first | exact Nat.zero_add _ | exact rfl)) ?_
          refine lstep0 rfl rfl (run_store1 (.tmp rfl) (.tmp rfl) rfl sz22 (by repeat (first | exact Upd.here | apply Upd.there)) (by repeat (first | exact Put.done | apply Put.put | apply Put.skip))) ?_
          refine lnil ?_
          refine xw_in ?_
          refine xw_then ?_
          refine cw_region ?_
          refine lstepB rfl rfl rfl (run_add (.tmp rfl) .const (by first | exact IntWalk.i64_in _ (by omega) | exact rfl)) ?_
          refine lstepB rfl rfl rfl (run_move (.tmp rfl)) ?_
          refine lnil ?_
          rw [← hb1]
          exact xw_round (k + 1, some (gW, cgW, rgW)) ⟨by omega, by omega, hrow⟩ (by show g.pits.length - (k + 1) < g.pits.length - k; omega) (by repeat (first | exact Less.nil | refine Less.cons rfl ?_)) (by repeat (first | exact Pick.nil | (apply Pick.cons; focus (repeat (first | exact Del.here | apply Del.there)))))
    ·
      obtain rfl : k = g.pits.length := by omega
      rw [List.take_length] at hX ⊢
      have hflen := foldW_len p g.pits g.pits.length
      rw [List.take_length] at hflen
      cases hput : (foldW p g.pits).1
      ·
        refine cw_exit ?_
        refine xw_then_exit ?_
        refine xw_then_exit ?_
        refine xw_in_exit ?_
        refine xw_then ?_
        refine cw_seq ?_
        refine cw_seq ?_
        refine cw_region ?_
        refine lstepB rfl rfl rfl (run_move (.tmp rfl)) ?_
        refine lstepB rfl rfl rfl (run_not (.tmp rfl) (by first | exact Bool.not_true | exact Bool.not_false | exact rfl)) ?_
        refine lnil ?_
        refine xw_then ?_
        refine cw_cond_true (.tmp rfl) ?_
        refine cw_region ?_
        refine lstepB rfl rfl rfl (run_fieldAddr (.tmp rfl) fa24_3 (by first | exact Nat.zero_add _ | exact rfl)) ?_
        refine lstepB rfl rfl rfl (run_load1 (.tmp rfl) kd22 (by repeat (first | exact List.Mem.head _ | apply List.Mem.tail)) (by exact rfl)) ?_
        refine lstepB rfl rfl rfl (run_loadN (.tmp rfl) kd55 sz55 (by repeat (first | exact List.Mem.head _ | apply List.Mem.tail)) (by repeat (first | exact Sub.done | apply Sub.take | apply Sub.skip))) ?_
        refine lstep rfl rfl rfl (LR.runs (lr_buildSlice_at (.cons (.tmp rfl) .nil) (fun w => bs22_1_0 w)) (by repeat (first | exact Pick.nil | (apply Pick.cons; focus (repeat (first | exact Del.here | apply Del.there))))) (by repeat (first | exact Dels.nil | (apply Dels.cons; focus (repeat (first | exact Del.here | apply Del.there)))))) ?_
        intro b80 _
        refine lstep rfl rfl rfl (LR.runs (R := [(b80, _)]) (A := [(gX, _)]) (lr_append_row ap22 (.tmp rfl) hX (.tmp rfl) (news := pitC p) rfl rfl (by omega) (by unfold maxLen; omega) (news_own (by repeat (first | exact List.Mem.head _ | apply List.Mem.tail)))) (by repeat (first | exact Pick.nil | (apply Pick.cons; focus (repeat (first | exact Del.here | apply Del.there))))) (by repeat (first | exact Dels.nil | (apply Dels.cons; focus (repeat (first | exact Del.here | apply Del.there)))))) ?_
        intro ⟨gF, cgF, rgF⟩ hgF
        have hwp : (withG g p).pits = (foldW p g.pits).2 ++ [p] := by simp [withG, hput]
        have hl1 : (foldW p g.pits).2.length + 1 = (withG g p).pits.length := by rw [hwp]; simp
        have hwl : (withG g p).pits.length ≤ 1000000 := by omega
        dsimp only at hgF
        rw [hl1] at hgF ⊢
        have hF : InRow 9 (withG g p).pits.length cgF rgF (pitsC (withG g p).pits) := by
          rw [hwp]
          rw [hwp] at hgF
          simpa [pitsC_append, pitsC] using hgF
        obtain ⟨cF, hcF⟩ : ∃ c, cgF = c := ⟨_, rfl⟩
        obtain ⟨rF, hrF⟩ : ∃ c, rgF = c := ⟨_, rfl⟩
        rw [hcF, hrF] at hF
        rw [hcF, hrF]
        refine lstepB rfl rfl rfl (run_fieldAddr (.tmp rfl) fa24_3 (by first | exact Nat.zero_add _ | exact rfl)) ?_
        refine lstep0 rfl rfl (run_store1 (.tmp rfl) (.tmp rfl) rfl sz22 (by repeat (first | exact Upd.here | apply Upd.there)) (by repeat (first | exact Put.done | apply Put.put | apply Put.skip))) ?_
        refine lnil ?_
        refine xw_then ?_
        refine cw_seq ?_
        refine cw_chain2 (σ := [0, 1, 2, 3, 4]) [⟨0, [2], [], [], 0⟩, ⟨0, [2], [], [], 0⟩, ⟨0, [0], [], [], 2⟩, ⟨0, [], [3], [3], 7⟩, ⟨0, [], [], [], 15⟩] [(0, _), (1, _), (2, _), (3, _), (4, _), (5, _)] (by kernel_rfl) (by kernel_rfl) rfl ?_
        refine .det (B := []) rfl rfl (.inl rfl) (.cons rfl .nil) .nil rfl (RunB.lr (run_loadN (.tmp rfl) kd24 sz24 (by repeat (first | exact List.Mem.head _ | apply List.Mem.tail)) (by repeat (first | exact Sub.done | apply Sub.take | apply Sub.skip)))) ?_
        refine .det (B := []) rfl rfl (.inl rfl) (.cons rfl .nil) .nil rfl (RunB.lr (run_loadN (.tmp rfl) kd24 sz24 (by repeat (first | exact List.Mem.head _ | apply List.Mem.tail)) (by repeat (first | exact Sub.done | apply Sub.take | apply Sub.skip)))) ?_
        refine .det (B := []) rfl rfl (.inl rfl) (.cons rfl .nil) .nil rfl (RunB.lr (run_call1 cb32 (.cons (.tmp rfl) .nil) (fun w2 hS => rGroundK (withG g p) (some ⟨gF, 0, none⟩) cF w2 hwl (pitsAt_row (hS.mem (by repeat (first | exact List.Mem.head _ | apply List.Mem.tail))) hF)))) ?_
        refine .det (B := [(3, (_, _))]) rfl rfl (.inl rfl) .nil (.cons rfl .nil) rfl (lr_storeN (.tmp rfl) (.tmp rfl) rfl sz24 rfl (by repeat (first | exact Put.done | apply Put.put | apply Put.skip))) ?_
        refine .det (B := []) rfl rfl (.inl rfl) .nil .nil rfl (RunB.lr (run_assign (.tmp rfl))) ?_
        refine chain_nil (ts := [0, 1, 2, 3, 4, 5]) (.cons rfl (.cons rfl (.cons rfl (.cons rfl (.cons rfl (.cons rfl .nil)))))) (by decide) ?_
        refine xw_then ?_
        refine cw_ret ?_
        refine xw_pick (H' := [(gF, _), (b4, _)]) (by repeat (first | exact Pick.nil | (apply Pick.cons; focus (repeat (first | exact Del.here | apply Del.there))))) ?_
        exact xw_retC2 rfl rfl rfl kd24 sz24 (by repeat (first | exact List.Mem.head _ | apply List.Mem.tail)) (by repeat (first | exact Sub.done | apply Sub.take | apply Sub.skip)) (fun w hS => ⟨(gF, cF, rF), hF, rfl, hS.pick (by repeat (first | exact Pick.nil | (apply Pick.cons; focus (repeat (first | exact Del.here | apply Del.there)))))⟩)
      ·
        refine cw_exit ?_
        refine xw_then_exit ?_
        refine xw_then_exit ?_
        refine xw_in_exit ?_
        refine xw_then ?_
        refine cw_seq ?_
        refine cw_seq ?_
        refine cw_region ?_
        refine lstepB rfl rfl rfl (run_move (.tmp rfl)) ?_
        refine lstepB rfl rfl rfl (run_not (.tmp rfl) (by first | exact Bool.not_true | exact Bool.not_false | exact rfl)) ?_
        refine lnil ?_
        refine xw_then ?_
        refine cw_cond_false (.tmp rfl) ?_
        have hwp : (withG g p).pits = (foldW p g.pits).2 := by simp [withG, hput]
        have hwl : (withG g p).pits.length ≤ 1000000 := by rw [hwp]; omega
        obtain ⟨gF, hgF⟩ : ∃ c, gX = c := ⟨_, rfl⟩
        obtain ⟨cF, hcF⟩ : ∃ c, cX = c := ⟨_, rfl⟩
        obtain ⟨rF, hrF⟩ : ∃ c, rX = c := ⟨_, rfl⟩
        have hF : InRow 9 (withG g p).pits.length cF rF (pitsC (withG g p).pits) := by rw [hwp, ← hcF, ← hrF]; exact hX
        rw [hgF, hcF, hrF, show (foldW p g.pits).2.length = (withG g p).pits.length by rw [hwp]]
        refine cw_skip ?_
        refine xw_then ?_
        refine cw_seq ?_
        refine cw_chain2 (σ := [0, 1, 2, 3, 4]) [⟨0, [1], [], [], 0⟩, ⟨0, [1], [], [], 0⟩, ⟨0, [0], [], [], 2⟩, ⟨0, [], [2], [2], 7⟩, ⟨0, [], [], [], 15⟩] [(0, _), (1, _), (2, _), (3, _), (4, _)] (by kernel_rfl) (by kernel_rfl) rfl ?_
        refine .det (B := []) rfl rfl (.inl rfl) (.cons rfl .nil) .nil rfl (RunB.lr (run_loadN (.tmp rfl) kd24 sz24 (by repeat (first | exact List.Mem.head _ | apply List.Mem.tail)) (by repeat (first | exact Sub.done | apply Sub.take | apply Sub.skip)))) ?_
        refine .det (B := []) rfl rfl (.inl rfl) (.cons rfl .nil) .nil rfl (RunB.lr (run_loadN (.tmp rfl) kd24 sz24 (by repeat (first | exact List.Mem.head _ | apply List.Mem.tail)) (by repeat (first | exact Sub.done | apply Sub.take | apply Sub.skip)))) ?_
        refine .det (B := []) rfl rfl (.inl rfl) (.cons rfl .nil) .nil rfl (RunB.lr (run_call1 cb32 (.cons (.tmp rfl) .nil) (fun w2 hS => rGroundK (withG g p) (some ⟨gF, 0, none⟩) cF w2 hwl (pitsAt_row (hS.mem (by repeat (first | exact List.Mem.head _ | apply List.Mem.tail))) hF)))) ?_
        refine .det (B := [(2, (_, _))]) rfl rfl (.inl rfl) .nil (.cons rfl .nil) rfl (lr_storeN (.tmp rfl) (.tmp rfl) rfl sz24 rfl (by repeat (first | exact Put.done | apply Put.put | apply Put.skip))) ?_
        refine .det (B := []) rfl rfl (.inl rfl) .nil .nil rfl (RunB.lr (run_assign (.tmp rfl))) ?_
        refine chain_nil (ts := [0, 1, 2, 3, 4]) (.cons rfl (.cons rfl (.cons rfl (.cons rfl (.cons rfl .nil))))) (by decide) ?_
        refine xw_then ?_
        refine cw_ret ?_
        refine xw_pick (H' := [(gF, _), (b4, _)]) (by repeat (first | exact Pick.nil | (apply Pick.cons; focus (repeat (first | exact Del.here | apply Del.there))))) ?_
        exact xw_retC2 rfl rfl rfl kd24 sz24 (by repeat (first | exact List.Mem.head _ | apply List.Mem.tail)) (by repeat (first | exact Sub.done | apply Sub.take | apply Sub.skip)) (fun w hS => ⟨(gF, cF, rF), hF, rfl, hS.pick (by repeat (first | exact Pick.nil | (apply Pick.cons; focus (repeat (first | exact Del.here | apply Del.there)))))⟩)
end Go.Proofs.Ytfmbnobkenngaaa
