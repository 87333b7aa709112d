/- Package soil: Stretch. -/
import Derived.Test.YtfmbnobkenngaaaGY
import Derived.Test.YtfmbnobkenngaaaET
namespace Go.Proofs.Ytfmbnobkenngaaa
open Go.RowKit En

theorem row_mix {w : World} {b : Nat} {te : TypeId} {fr : Nat × Nat} {L : List MixD} (h : w.heap[b]? = some (.cells (mixesC L).toArray te fr)) : ∀ i m, L[i]? = some m → ∀ j v, (mixC m)[j]? = some v → w.cell? ⟨b, 0 + i * 6 + j, none⟩ = some v := fun i m hi j v hj => by
  have := (sub_mix L i m hi).spec.2 j v hj
  rw [Nat.zero_add]
  simp [World.cell?, h, this]
def longG (g : GroundD) (c : Nat) : LS := longF (sureB (soilsL g) c) (placesN g)
def stretchE (g : GroundD) (c : Int) : Option Int := match checkE g [] with | some n => some n | none => if c < 0 ∨ 4 ≤ c then some 2 else if lookOk g then (if 0 < (longG g c.toNat).2.2 then none else some 4) else some 10
def stretchS (g : GroundD) (c : Int) : Int × Int := if stretchE g c = none then ((longG g c.toNat).1, (longG g c.toNat).2.1) else (0, 0)
theorem stretchE_cases (g : GroundD) (c : Int) : (∃ n, checkE g [] = some n ∧ stretchE g c = some n) ∨ (checkE g [] = none ∧ c < 0 ∧ stretchE g c = some 2) ∨ (checkE g [] = none ∧ ¬ c < 0 ∧ 4 ≤ c ∧ stretchE g c = some 2) ∨ (checkE g [] = none ∧ (0 ≤ c ∧ c < 4) ∧ lookOk g = false ∧ stretchE g c = some 10) ∨
    (checkE g [] = none ∧ (0 ≤ c ∧ c < 4) ∧ lookOk g = true ∧ ¬ 0 < (longG g c.toNat).2.2 ∧ stretchE g c = some 4) ∨ (checkE g [] = none ∧ (0 ≤ c ∧ c < 4) ∧ lookOk g = true ∧ 0 < (longG g c.toNat).2.2 ∧ stretchE g c = none) := by
  unfold stretchE
  cases hc : checkE g [] with
  | some n => exact .inl ⟨n, rfl, rfl⟩
  | none =>
    by_cases h1 : c < 0
    · exact .inr (.inl ⟨rfl, h1, by simp [h1]⟩)
    by_cases h2 : 4 ≤ c
    · exact .inr (.inr (.inl ⟨rfl, h1, h2, by simp [h2]⟩))
    have h3 : 0 ≤ c ∧ c < 4 := by omega
    cases ho : lookOk g with
    | false => exact .inr (.inr (.inr (.inl ⟨rfl, h3, rfl, by simp [h1, h2]⟩)))
    | true =>
      by_cases h4 : 0 < (longG g c.toNat).2.2
      · exact .inr (.inr (.inr (.inr (.inr ⟨rfl, h3, rfl, h4, by simp [h1, h2, h4]⟩))))
      · exact .inr (.inr (.inr (.inr (.inl ⟨rfl, h3, rfl, h4, by simp [h1, h2, h4]⟩))))
set_option maxRecDepth 100000 in
set_option maxHeartbeats 4000000 in
theorem find61_check {n : Int} {g : GroundD} {c : Int} {pa : Option Addr} {pc b1 b2 : Nat} {w : World} (hm : g.pits.length ≤ 1000000) (hp : PitsAt w pa g.pits) (hG : GroundIn w b1 g pa pc) (hC : w.cell? ⟨b2, 0, none⟩ = some (.int .i64 c)) (hc : checkE g [] = some n) : Pans Try.prog 61 [.pointer (some ⟨b1, 0, none⟩), .pointer (some ⟨b2, 0, none⟩)] w [errP n] := by
  refine enter (n := 25) Try.func61 rfl rfl rfl (by repeat (first | exact Fill.nil | apply Fill.cons)) ?_
  refine cw_seq ?_
  refine cw_region ?_
  refine lstep rfl rfl rfl (run_alloc zr28) ?_
  intro b2 _
  refine lnil ?_
  refine xw_then ?_
  refine cw_seq ?_
  refine cw_region ?_
  refine lstepB rfl rfl rfl (run_loadN_at (l := [.int .i64 g.long, .int .i64 g.rise, .int .i64 g.change, .slice pa g.pits.length pc]) (.tmp rfl) kd24 sz24 rfl (fun w' hS j v hj => hS.old_cell (fun h => h) (hG j v hj))) ?_
  refine lpans rfl cb44 (.cons (.tmp rfl) (.cons .const .nil)) (fun w2 hS => pans_of (checkK g [] pa none pc 0 w2 hm (by simp) (hp.kept hS.kept) ints0) hc) ?_
  refine xw_then_panic ?_
  refine xw_panic (fun w hS => ⟨rfl, hS.kept⟩)
set_option maxRecDepth 100000 in
set_option maxHeartbeats 4000000 in
theorem find61_neg {g : GroundD} {c : Int} {pa : Option Addr} {pc b1 b2 : Nat} {w : World} (hm : g.pits.length ≤ 1000000) (hp : PitsAt w pa g.pits) (hG : GroundIn w b1 g pa pc) (hC : w.cell? ⟨b2, 0, none⟩ = some (.int .i64 c)) (hc : checkE g [] = none) (hl : c < 0) : Pans Try.prog 61 [.pointer (some ⟨b1, 0, none⟩), .pointer (some ⟨b2, 0, none⟩)] w [errP 2] := by
  obtain ⟨hg, _⟩ := check_valid hc
  have hlong := hg.long
  refine enter (n := 25) Try.func61 rfl rfl rfl (by repeat (first | exact Fill.nil | apply Fill.cons)) ?_
  refine cw_seq ?_
  refine cw_region ?_
  refine lstep rfl rfl rfl (run_alloc zr28) ?_
  intro b2 _
  refine lnil ?_
  refine xw_then ?_
  refine cw_seq ?_
  refine cw_region ?_
  refine lstepB rfl rfl rfl (run_loadN_at (l := [.int .i64 g.long, .int .i64 g.rise, .int .i64 g.change, .slice pa g.pits.length pc]) (.tmp rfl) kd24 sz24 rfl (fun w' hS j v hj => hS.old_cell (fun h => h) (hG j v hj))) ?_
  refine lstepB rfl rfl rfl (run_call1 cb44 (.cons (.tmp rfl) (.cons .const .nil)) (fun w2 hS => gives_of (checkK g [] pa none pc 0 w2 hm (by simp) (hp.kept hS.kept) ints0) hc)) ?_
  refine lnil ?_
  refine xw_then ?_
  refine cw_seq ?_
  refine cw_seq ?_
  refine cw_region ?_
  refine lstepB rfl rfl rfl (run_load1_at (.tmp rfl) kd3 (fun w' hS => hS.old_cell (fun h => h) hC)) ?_
  refine lstepB rfl rfl rfl (run_lss (.tmp rfl) .const (by first | exact decide_eq_true (by omega) | exact decide_eq_false (by omega) | exact rfl)) ?_
  refine lstepB rfl rfl rfl (run_move (.tmp rfl)) ?_
  refine lskip rfl rfl rfl rfl rfl rfl rfl ?_
  refine lskip rfl rfl rfl rfl rfl rfl rfl ?_
  refine lstepB rfl rfl rfl (by first | exact run_pick_true (.tmp rfl) .const | exact run_pick_false (.tmp rfl) (.tmp rfl)) ?_
  refine lnil ?_
  refine xw_then ?_
  refine cw_cond_true (.tmp rfl) ?_
  refine cw_region ?_
  refine lstepB rfl rfl rfl (En.run_makeInterface .const if29) ?_
  refine lpanic (.tmp rfl) (fun w => rfl) ?_
  refine xw_then_panic ?_
  refine xw_panic (fun w hS => ⟨rfl, hS.kept⟩)
set_option maxRecDepth 100000 in
set_option maxHeartbeats 4000000 in
theorem find61_big {g : GroundD} {c : Int} {pa : Option Addr} {pc b1 b2 : Nat} {w : World} (hm : g.pits.length ≤ 1000000) (hp : PitsAt w pa g.pits) (hG : GroundIn w b1 g pa pc) (hC : w.cell? ⟨b2, 0, none⟩ = some (.int .i64 c)) (hc : checkE g [] = none) (hl : ¬ c < 0) (hl4 : 4 ≤ c) : Pans Try.prog 61 [.pointer (some ⟨b1, 0, none⟩), .pointer (some ⟨b2, 0, none⟩)] w [errP 2] := by
  obtain ⟨hg, _⟩ := check_valid hc
  have hlong := hg.long
  refine enter (n := 25) Try.func61 rfl rfl rfl (by repeat (first | exact Fill.nil | apply Fill.cons)) ?_
  refine cw_seq ?_
  refine cw_region ?_
  refine lstep rfl rfl rfl (run_alloc zr28) ?_
  intro b2 _
  refine lnil ?_
  refine xw_then ?_
  refine cw_seq ?_
  refine cw_region ?_
  refine lstepB rfl rfl rfl (run_loadN_at (l := [.int .i64 g.long, .int .i64 g.rise, .int .i64 g.change, .slice pa g.pits.length pc]) (.tmp rfl) kd24 sz24 rfl (fun w' hS j v hj => hS.old_cell (fun h => h) (hG j v hj))) ?_
  refine lstepB rfl rfl rfl (run_call1 cb44 (.cons (.tmp rfl) (.cons .const .nil)) (fun w2 hS => gives_of (checkK g [] pa none pc 0 w2 hm (by simp) (hp.kept hS.kept) ints0) hc)) ?_
  refine lnil ?_
  refine xw_then ?_
  refine cw_seq ?_
  refine cw_seq ?_
  refine cw_region ?_
  refine lstepB rfl rfl rfl (run_load1_at (.tmp rfl) kd3 (fun w' hS => hS.old_cell (fun h => h) hC)) ?_
  refine lstepB rfl rfl rfl (run_lss (.tmp rfl) .const (by first | exact decide_eq_true (by omega) | exact decide_eq_false (by omega) | exact rfl)) ?_
  refine lstepB rfl rfl rfl (run_move (.tmp rfl)) ?_
  refine lyes rfl rfl rfl rfl ?_
  refine gstepB rfl rfl (run_load1_at (.tmp rfl) kd3 (fun w' hS => hS.old_cell (fun h => h) hC)) ?_
  refine lyes rfl rfl rfl rfl ?_
  refine gstepB rfl rfl (run_geq (.tmp rfl) .const (by first | exact decide_eq_true (by omega) | exact decide_eq_false (by omega) | exact rfl)) ?_
  refine lstepB rfl rfl rfl (by first | exact run_pick_true (.tmp rfl) .const | exact run_pick_false (.tmp rfl) (.tmp rfl)) ?_
  refine lnil ?_
  refine xw_then ?_
  refine cw_cond_true (.tmp rfl) ?_
  refine cw_region ?_
  refine lstepB rfl rfl rfl (En.run_makeInterface .const if29) ?_
  refine lpanic (.tmp rfl) (fun w => rfl) ?_
  refine xw_then_panic ?_
  refine xw_panic (fun w hS => ⟨rfl, hS.kept⟩)
set_option maxRecDepth 100000 in
set_option maxHeartbeats 4000000 in
theorem find61_clash {g : GroundD} {c : Int} {pa : Option Addr} {pc b1 b2 : Nat} {w : World} (hm : g.pits.length ≤ 1000000) (hp : PitsAt w pa g.pits) (hG : GroundIn w b1 g pa pc) (hC : w.cell? ⟨b2, 0, none⟩ = some (.int .i64 c)) (hc : checkE g [] = none) (hc4 : 0 ≤ c ∧ c < 4) (ho : lookOk g = false) : Pans Try.prog 61 [.pointer (some ⟨b1, 0, none⟩), .pointer (some ⟨b2, 0, none⟩)] w [errP 10] := by
  obtain ⟨hg, _⟩ := check_valid hc
  have hlong := hg.long
  refine enter (n := 25) Try.func61 rfl rfl rfl (by repeat (first | exact Fill.nil | apply Fill.cons)) ?_
  refine cw_seq ?_
  refine cw_region ?_
  refine lstep rfl rfl rfl (run_alloc zr28) ?_
  intro b2 _
  refine lnil ?_
  refine xw_then ?_
  refine cw_seq ?_
  refine cw_region ?_
  refine lstepB rfl rfl rfl (run_loadN_at (l := [.int .i64 g.long, .int .i64 g.rise, .int .i64 g.change, .slice pa g.pits.length pc]) (.tmp rfl) kd24 sz24 rfl (fun w' hS j v hj => hS.old_cell (fun h => h) (hG j v hj))) ?_
  refine lstepB rfl rfl rfl (run_call1 cb44 (.cons (.tmp rfl) (.cons .const .nil)) (fun w2 hS => gives_of (checkK g [] pa none pc 0 w2 hm (by simp) (hp.kept hS.kept) ints0) hc)) ?_
  refine lnil ?_
  refine xw_then ?_
  refine cw_seq ?_
  refine cw_seq ?_
  refine cw_region ?_
  refine lstepB rfl rfl rfl (run_load1_at (.tmp rfl) kd3 (fun w' hS => hS.old_cell (fun h => h) hC)) ?_
  refine lstepB rfl rfl rfl (run_lss (.tmp rfl) .const (by first | exact decide_eq_true (by omega) | exact decide_eq_false (by omega) | exact rfl)) ?_
  refine lstepB rfl rfl rfl (run_move (.tmp rfl)) ?_
  refine lyes rfl rfl rfl rfl ?_
  refine gstepB rfl rfl (run_load1_at (.tmp rfl) kd3 (fun w' hS => hS.old_cell (fun h => h) hC)) ?_
  refine lyes rfl rfl rfl rfl ?_
  refine gstepB rfl rfl (run_geq (.tmp rfl) .const (by first | exact decide_eq_true (by omega) | exact decide_eq_false (by omega) | exact rfl)) ?_
  refine lstepB rfl rfl rfl (by first | exact run_pick_true (.tmp rfl) .const | exact run_pick_false (.tmp rfl) (.tmp rfl)) ?_
  refine lnil ?_
  refine xw_then ?_
  refine cw_cond_false (.tmp rfl) ?_
  refine cw_skip ?_
  refine xw_then ?_
  refine cw_seq ?_
  have hb : ∀ w2, Below w.heap.size w w2 → Pans Try.prog 45 [.agg [.int .i64 g.long, .int .i64 g.rise, .int .i64 g.change, .slice pa g.pits.length pc].toArray] w2 [errP 10] := fun w2 hB => look_bad hg (hp.kept hB) ho
  refine cw_anyP2 (j := 1) [⟨0, [], [], [], 0⟩, ⟨0, [], [], [], 1⟩, ⟨0, [], [], [], 0⟩, ⟨0, [], [], [], 7⟩, ⟨0, [], [], [], 15⟩, ⟨0, [], [], [], 31⟩, ⟨0, [], [], [], 31⟩, ⟨0, [], [], [], 0⟩, ⟨0, [], [], [], 191⟩, ⟨0, [], [], [], 511⟩] [(0, 15, .agg [.int .i64 g.long, .int .i64 g.rise, .int .i64 g.change, .slice pa g.pits.length pc].toArray), (2, 17, .int .i64 c)] [(7, 3)] (by kernel_rfl) (by kernel_rfl) (.cons ⟨[], _, rfl, rfl, rfl, rfl, run_loadN_at (l := [.int .i64 g.long, .int .i64 g.rise, .int .i64 g.change, .slice pa g.pits.length pc]) (.tmp rfl) kd24 sz24 rfl (fun w' hS j v hj => hS.old_cell (fun h => h) (hG j v hj))⟩ (.cons ⟨[], _, rfl, rfl, rfl, rfl, run_load1_at (.tmp rfl) kd3 (fun w' hS => hS.old_cell (fun h => h) hC)⟩ .nil)) (allA_one rfl rfl rfl (run_alloc zr28) (fun _ => List.sublist_cons_self _ _)) ?_
  refine panJ [0] rfl (by kernel_rfl) cb45 (.cons (.tmp rfl) .nil) (fun w2 hS => hb w2 hS.kept) ?_
  refine xw_then_panic ?_
  refine xw_panic (fun w hS => ⟨rfl, hS.kept⟩)
set_option maxRecDepth 100000 in
set_option maxHeartbeats 4000000 in
theorem find61_none {g : GroundD} {c : Int} {pa : Option Addr} {pc b1 b2 : Nat} {w : World} (hm : g.pits.length ≤ 1000000) (hp : PitsAt w pa g.pits) (hG : GroundIn w b1 g pa pc) (hC : w.cell? ⟨b2, 0, none⟩ = some (.int .i64 c)) (hc : checkE g [] = none) (hc4 : 0 ≤ c ∧ c < 4) (ho : lookOk g = true) (hz : ¬ 0 < (longG g c.toNat).2.2) : Pans Try.prog 61 [.pointer (some ⟨b1, 0, none⟩), .pointer (some ⟨b2, 0, none⟩)] w [errP 4] := by
  obtain ⟨hg, _⟩ := check_valid hc
  have hlong := hg.long
  refine enter (n := 25) Try.func61 rfl rfl rfl (by repeat (first | exact Fill.nil | apply Fill.cons)) ?_
  refine cw_seq ?_
  refine cw_region ?_
  refine lstep rfl rfl rfl (run_alloc zr28) ?_
  intro b2 _
  refine lnil ?_
  refine xw_then ?_
  refine cw_seq ?_
  refine cw_region ?_
  refine lstepB rfl rfl rfl (run_loadN_at (l := [.int .i64 g.long, .int .i64 g.rise, .int .i64 g.change, .slice pa g.pits.length pc]) (.tmp rfl) kd24 sz24 rfl (fun w' hS j v hj => hS.old_cell (fun h => h) (hG j v hj))) ?_
  refine lstepB rfl rfl rfl (run_call1 cb44 (.cons (.tmp rfl) (.cons .const .nil)) (fun w2 hS => gives_of (checkK g [] pa none pc 0 w2 hm (by simp) (hp.kept hS.kept) ints0) hc)) ?_
  refine lnil ?_
  refine xw_then ?_
  refine cw_seq ?_
  refine cw_seq ?_
  refine cw_region ?_
  refine lstepB rfl rfl rfl (run_load1_at (.tmp rfl) kd3 (fun w' hS => hS.old_cell (fun h => h) hC)) ?_
  refine lstepB rfl rfl rfl (run_lss (.tmp rfl) .const (by first | exact decide_eq_true (by omega) | exact decide_eq_false (by omega) | exact rfl)) ?_
  refine lstepB rfl rfl rfl (run_move (.tmp rfl)) ?_
  refine lyes rfl rfl rfl rfl ?_
  refine gstepB rfl rfl (run_load1_at (.tmp rfl) kd3 (fun w' hS => hS.old_cell (fun h => h) hC)) ?_
  refine lyes rfl rfl rfl rfl ?_
  refine gstepB rfl rfl (run_geq (.tmp rfl) .const (by first | exact decide_eq_true (by omega) | exact decide_eq_false (by omega) | exact rfl)) ?_
  refine lstepB rfl rfl rfl (by first | exact run_pick_true (.tmp rfl) .const | exact run_pick_false (.tmp rfl) (.tmp rfl)) ?_
  refine lnil ?_
  refine xw_then ?_
  refine cw_cond_false (.tmp rfl) ?_
  refine cw_skip ?_
  refine xw_then ?_
  refine cw_seq ?_
  have hdec : decide ((0 : Int) < (((longG g c.toNat).2.2 : Nat) : Int)) = false := by first | exact decide_eq_true (by omega) | exact decide_eq_false (by omega)
  refine cw_chain2 (σ := [0, 2, 1, 3, 4, 5, 6, 7, 8, 9]) [⟨0, [], [], [], 0⟩, ⟨1, [], [], [1, 2], 1⟩, ⟨0, [], [], [], 0⟩, ⟨0, [2], [], [], 7⟩, ⟨0, [], [], [], 15⟩, ⟨0, [], [], [], 31⟩, ⟨0, [], [], [], 31⟩, ⟨2, [], [], [3], 0⟩, ⟨0, [], [3], [3], 191⟩, ⟨0, [], [], [], 511⟩] [(0, _)] (by kernel_rfl) (by kernel_rfl) rfl ?_
  refine .det (B := []) rfl rfl (.inl rfl) .nil .nil rfl (RunB.lr (run_loadN_at (l := [.int .i64 g.long, .int .i64 g.rise, .int .i64 g.change, .slice pa g.pits.length pc]) (.tmp rfl) kd24 sz24 rfl (fun w' hS j v hj => hS.old_cell (fun h => h) (hG j v hj)))) ?_
  refine .det (B := []) rfl rfl (.inl rfl) .nil .nil rfl (RunB.lr (run_load1_at (v := .int .i64 ((c.toNat : Nat) : Int)) (.tmp rfl) kd3 (fun w' hS => by rw [Int.toNat_of_nonneg hc4.1]; exact hS.old_cell (fun h => h) hC))) ?_
  refine .ext (B := fun q => [(1, (q.1, _)), (2, (q.2.2.2, _))]) rfl rfl (.inl rfl) .nil .nil (fun _ => rfl) (look_ne g hg) (lr_gives cb45 (.cons (.tmp rfl) .nil) (fun w2 hS => look_ok hg (hp.kept hS.kept) ho)) ?_
  rintro ⟨gH, cH, rH, gM⟩ hH
  refine .det (B := []) rfl rfl (.inl rfl) (.cons rfl .nil) .nil rfl (RunB.lr (run_call1 cb62 (.cons (.tmp rfl) (.cons (.tmp rfl) .nil)) (fun w hS => by have := longestK g (soilsL g) c.toNat gM 0 (placesN g) g.pits.length pc (.int .i64 g.rise) (.int .i64 g.change) (.slice (some ⟨gH, 0, none⟩) (hardL g).length cH) pa w hg (by omega) (soilsL_length g) (soilsL_in20 hg) (hS.lt (by repeat (first | exact List.Mem.head _ | apply List.Mem.tail))) (row_mix (hS.mem (by repeat (first | exact List.Mem.head _ | apply List.Mem.tail)))); rw [soilsL_length] at this; exact this.as (congrArg (fun z => Value.tuple #[.agg [.int .i64 (longG g c.toNat).1, .int .i64 (longG g c.toNat).2.1].toArray, .bool z]) hdec)))) ?_
  refine .det (B := []) rfl rfl (.inl rfl) .nil .nil rfl (RunB.lr (run_move (.tmp rfl))) ?_
  refine .det (B := []) rfl rfl (.inl rfl) .nil .nil rfl (RunB.lr (run_extract (.tmp rfl) rfl)) ?_
  refine .det (B := []) rfl rfl (.inl rfl) .nil .nil rfl (RunB.lr (run_extract (.tmp rfl) rfl)) ?_
  refine .flo rfl rfl rfl (.alloc rfl zr28) trivial rfl rfl rfl ?_
  intro b3
  refine .det (B := [(3, (_, _))]) rfl rfl (.inl rfl) .nil (.cons rfl .nil) rfl (lr_storeN (.tmp rfl) (.tmp rfl) rfl sz28 rfl (by repeat (first | exact Put.done | apply Put.put | apply Put.skip))) ?_
  refine .det (B := []) rfl rfl (.inl rfl) .nil .nil rfl (RunB.lr (run_assign (.tmp rfl))) ?_
  refine chain_nil (ts := [3, 2, 1, 0]) (.cons rfl (.cons rfl (.cons rfl (.cons rfl .nil)))) (by decide) ?_
  refine xw_then ?_
  refine cw_seq ?_
  refine cw_seq ?_
  refine cw_region ?_
  refine lstepB rfl rfl rfl (run_move (.tmp rfl)) ?_
  refine lstepB rfl rfl rfl (run_not (.tmp rfl) (by first | exact Bool.not_true | exact Bool.not_false | exact rfl)) ?_
  refine lnil ?_
  refine xw_then ?_
  refine cw_cond_true (.tmp rfl) ?_
  refine cw_region ?_
  refine lstepB rfl rfl rfl (En.run_makeInterface .const if29) ?_
  refine lpanic (.tmp rfl) (fun w => rfl) ?_
  refine xw_then_panic ?_
  refine xw_panic (fun w hS => ⟨rfl, hS.kept⟩)
set_option maxRecDepth 100000 in
set_option maxHeartbeats 4000000 in
theorem find61_ok {g : GroundD} {c : Int} {pa : Option Addr} {pc b1 b2 : Nat} {w : World} (hm : g.pits.length ≤ 1000000) (hp : PitsAt w pa g.pits) (hG : GroundIn w b1 g pa pc) (hC : w.cell? ⟨b2, 0, none⟩ = some (.int .i64 c)) (hc : checkE g [] = none) (hc4 : 0 ≤ c ∧ c < 4) (ho : lookOk g = true) (hz : 0 < (longG g c.toNat).2.2) : Gives Try.prog 61 [.pointer (some ⟨b1, 0, none⟩), .pointer (some ⟨b2, 0, none⟩)] w (.agg [.int .i64 (longG g c.toNat).1, .int .i64 (longG g c.toNat).2.1].toArray) := by
  obtain ⟨hg, _⟩ := check_valid hc
  have hlong := hg.long
  refine .mk <| enter (n := 25) Try.func61 rfl rfl rfl (by repeat (first | exact Fill.nil | apply Fill.cons)) ?_
  refine cw_seq ?_
  refine cw_region ?_
  refine lstep rfl rfl rfl (run_alloc zr28) ?_
  intro b2 _
  refine lnil ?_
  refine xw_then ?_
  refine cw_seq ?_
  refine cw_region ?_
  refine lstepB rfl rfl rfl (run_loadN_at (l := [.int .i64 g.long, .int .i64 g.rise, .int .i64 g.change, .slice pa g.pits.length pc]) (.tmp rfl) kd24 sz24 rfl (fun w' hS j v hj => hS.old_cell (fun h => h) (hG j v hj))) ?_
  refine lstepB rfl rfl rfl (run_call1 cb44 (.cons (.tmp rfl) (.cons .const .nil)) (fun w2 hS => gives_of (checkK g [] pa none pc 0 w2 hm (by simp) (hp.kept hS.kept) ints0) hc)) ?_
  refine lnil ?_
  refine xw_then ?_
  refine cw_seq ?_
  refine cw_seq ?_
  refine cw_region ?_
  refine lstepB rfl rfl rfl (run_load1_at (.tmp rfl) kd3 (fun w' hS => hS.old_cell (fun h => h) hC)) ?_
  refine lstepB rfl rfl rfl (run_lss (.tmp rfl) .const (by first | exact decide_eq_true (by omega) | exact decide_eq_false (by omega) | exact rfl)) ?_
  refine lstepB rfl rfl rfl (run_move (.tmp rfl)) ?_
  refine lyes rfl rfl rfl rfl ?_
  refine gstepB rfl rfl (run_load1_at (.tmp rfl) kd3 (fun w' hS => hS.old_cell (fun h => h) hC)) ?_
  refine lyes rfl rfl rfl rfl ?_
  refine gstepB rfl rfl (run_geq (.tmp rfl) .const (by first | exact decide_eq_true (by omega) | exact decide_eq_false (by omega) | exact rfl)) ?_
  refine lstepB rfl rfl rfl (by first | exact run_pick_true (.tmp rfl) .const | exact run_pick_false (.tmp rfl) (.tmp rfl)) ?_
  refine lnil ?_
  refine xw_then ?_
  refine cw_cond_false (.tmp rfl) ?_
  refine cw_skip ?_
  refine xw_then ?_
  refine cw_seq ?_
  have hdec : decide ((0 : Int) < (((longG g c.toNat).2.2 : Nat) : Int)) = true := by first | exact decide_eq_true (by omega) | exact decide_eq_false (by omega)
  refine cw_chain2 (σ := [0, 2, 1, 3, 4, 5, 6, 7, 8, 9]) [⟨0, [], [], [], 0⟩, ⟨1, [], [], [1, 2], 1⟩, ⟨0, [], [], [], 0⟩, ⟨0, [2], [], [], 7⟩, ⟨0, [], [], [], 15⟩, ⟨0, [], [], [], 31⟩, ⟨0, [], [], [], 31⟩, ⟨2, [], [], [3], 0⟩, ⟨0, [], [3], [3], 191⟩, ⟨0, [], [], [], 511⟩] [(0, _)] (by kernel_rfl) (by kernel_rfl) rfl ?_
  refine .det (B := []) rfl rfl (.inl rfl) .nil .nil rfl (RunB.lr (run_loadN_at (l := [.int .i64 g.long, .int .i64 g.rise, .int .i64 g.change, .slice pa g.pits.length pc]) (.tmp rfl) kd24 sz24 rfl (fun w' hS j v hj => hS.old_cell (fun h => h) (hG j v hj)))) ?_
  refine .det (B := []) rfl rfl (.inl rfl) .nil .nil rfl (RunB.lr (run_load1_at (v := .int .i64 ((c.toNat : Nat) : Int)) (.tmp rfl) kd3 (fun w' hS => by rw [Int.toNat_of_nonneg hc4.1]; exact hS.old_cell (fun h => h) hC))) ?_
  refine .ext (B := fun q => [(1, (q.1, _)), (2, (q.2.2.2, _))]) rfl rfl (.inl rfl) .nil .nil (fun _ => rfl) (look_ne g hg) (lr_gives cb45 (.cons (.tmp rfl) .nil) (fun w2 hS => look_ok hg (hp.kept hS.kept) ho)) ?_
  rintro ⟨gH, cH, rH, gM⟩ hH
  refine .det (B := []) rfl rfl (.inl rfl) (.cons rfl .nil) .nil rfl (RunB.lr (run_call1 cb62 (.cons (.tmp rfl) (.cons (.tmp rfl) .nil)) (fun w hS => by have := longestK g (soilsL g) c.toNat gM 0 (placesN g) g.pits.length pc (.int .i64 g.rise) (.int .i64 g.change) (.slice (some ⟨gH, 0, none⟩) (hardL g).length cH) pa w hg (by omega) (soilsL_length g) (soilsL_in20 hg) (hS.lt (by repeat (first | exact List.Mem.head _ | apply List.Mem.tail))) (row_mix (hS.mem (by repeat (first | exact List.Mem.head _ | apply List.Mem.tail)))); rw [soilsL_length] at this; exact this.as (congrArg (fun z => Value.tuple #[.agg [.int .i64 (longG g c.toNat).1, .int .i64 (longG g c.toNat).2.1].toArray, .bool z]) hdec)))) ?_
  refine .det (B := []) rfl rfl (.inl rfl) .nil .nil rfl (RunB.lr (run_move (.tmp rfl))) ?_
  refine .det (B := []) rfl rfl (.inl rfl) .nil .nil rfl (RunB.lr (run_extract (.tmp rfl) rfl)) ?_
  refine .det (B := []) rfl rfl (.inl rfl) .nil .nil rfl (RunB.lr (run_extract (.tmp rfl) rfl)) ?_
  refine .flo rfl rfl rfl (.alloc rfl zr28) trivial rfl rfl rfl ?_
  intro b3
  refine .det (B := [(3, (_, _))]) rfl rfl (.inl rfl) .nil (.cons rfl .nil) rfl (lr_storeN (.tmp rfl) (.tmp rfl) rfl sz28 rfl (by repeat (first | exact Put.done | apply Put.put | apply Put.skip))) ?_
  refine .det (B := []) rfl rfl (.inl rfl) .nil .nil rfl (RunB.lr (run_assign (.tmp rfl))) ?_
  refine chain_nil (ts := [3, 2, 1, 0]) (.cons rfl (.cons rfl (.cons rfl (.cons rfl .nil)))) (by decide) ?_
  refine xw_then ?_
  refine cw_seq ?_
  refine cw_seq ?_
  refine cw_region ?_
  refine lstepB rfl rfl rfl (run_move (.tmp rfl)) ?_
  refine lstepB rfl rfl rfl (run_not (.tmp rfl) (by first | exact Bool.not_true | exact Bool.not_false | exact rfl)) ?_
  refine lnil ?_
  refine xw_then ?_
  refine cw_cond_false (.tmp rfl) ?_
  refine cw_skip ?_
  refine xw_then ?_
  refine cw_seq ?_
  refine cw_region ?_
  refine lstepB rfl rfl rfl (run_loadN (.tmp rfl) kd28 sz28 (by repeat (first | exact List.Mem.head _ | apply List.Mem.tail)) (by repeat (first | exact Sub.done | apply Sub.take | apply Sub.skip))) ?_
  refine lstep0 rfl rfl (run_storeN (.tmp rfl) (.tmp rfl) rfl sz28 rfl (by repeat (first | exact Upd.here | apply Upd.there)) (by repeat (first | exact Put.done | apply Put.put | apply Put.skip))) ?_
  refine lnil ?_
  refine xw_then ?_
  refine cw_ret ?_
  refine xw_retC1 rfl rfl kd28 sz28 (by repeat (first | exact List.Mem.head _ | apply List.Mem.tail)) (by repeat (first | exact Sub.done | apply Sub.take | apply Sub.skip)) (fun w hS => ⟨rfl, hS.kept⟩)
set_option maxRecDepth 100000 in
set_option maxHeartbeats 4000000 in
theorem stretchK (g : GroundD) (c : Int) (pa : Option Addr) (pc : Nat) (w : World) (hm : g.pits.length ≤ 1000000) (hp : PitsAt w pa g.pits) : Gives Try.prog 21 [.agg [.int .i64 g.long, .int .i64 g.rise, .int .i64 g.change, .slice pa g.pits.length pc].toArray, .int .i64 c] w (.tuple #[.int .i64 (stretchS g c).1, .int .i64 (stretchS g c).2, .int .i64 (errN (stretchE g c))]) := by
  refine .mk <| enter (n := 18) Try.func21 rfl rfl rfl (by repeat (first | exact Fill.nil | apply Fill.cons)) ?_
  have hG : ∀ {b : Nat} {w2 : World}, w2.heap[b]? = some (Obj.cells [.int .i64 g.long, .int .i64 g.rise, .int .i64 g.change, .slice pa g.pits.length pc].toArray 24 (0, 0)) → GroundIn w2 b g pa pc := fun h j v hj => by
    rw [Nat.zero_add]
    simp only [World.cell?, h]
    simpa using hj
  have hA : ∀ {b : Nat} {w2 : World} {n : Int}, w2.heap[b]? = some (Obj.cells [.int .i64 n].toArray 3 (0, 0)) → w2.cell? ⟨b, 0, none⟩ = some (.int .i64 n) := fun h => by simp [World.cell?, h]
  rcases stretchE_cases g c with ⟨n, hc, he⟩ | ⟨hc, hl, he⟩ | ⟨hc, hl, hl4, he⟩ | ⟨hc, hc4, ho, he⟩ | ⟨hc, hc4, ho, hz, he⟩ | ⟨hc, hc4, ho, hz, he⟩
  ·
    refine cw_seq ?_
    refine cw_region ?_
    refine lstep rfl rfl rfl (run_boxN (.tmp rfl)) ?_
    intro b2 _
    refine lstep rfl rfl rfl (run_box1 (.tmp rfl) rfl) ?_
    intro b3 _
    refine lstepB rfl rfl rfl (run_assign .const) ?_
    refine lstepB rfl rfl rfl (run_assign .const) ?_
    refine lstepB rfl rfl rfl (run_assign .const) ?_
    refine lnil ?_
    refine xw_then ?_
    refine cw_seq ?_
    refine cw_region ?_
    refine lstepB rfl rfl rfl (En.run_makeFunc .nil (.cons (.tmp rfl) (.cons (.tmp rfl) .nil))) ?_
    refine lstepB rfl rfl rfl (run_call1 cb42 (.cons (.tmp rfl) .nil) (fun w hS => told42_bad cb61 (fun w2 hB => find61_check hm ((hp.kept hS.kept).kept hB) (hG ((hB.block _ (hS.lt (by repeat (first | exact List.Mem.head _ | apply List.Mem.tail)))).trans (hS.mem (by repeat (first | exact List.Mem.head _ | apply List.Mem.tail))))) (hA ((hB.block _ (hS.lt (by repeat (first | exact List.Mem.head _ | apply List.Mem.tail)))).trans (hS.mem (by repeat (first | exact List.Mem.head _ | apply List.Mem.tail))))) hc))) ?_
    refine lstepB rfl rfl rfl (run_move (.tmp rfl)) ?_
    refine lstepB rfl rfl rfl (run_extract (.tmp rfl) rfl) ?_
    refine lstepB rfl rfl rfl (run_extract (.tmp rfl) rfl) ?_
    refine lstep rfl rfl rfl (run_alloc zr28) ?_
    intro b7 _
    refine lstep0 rfl rfl (run_storeN (.tmp rfl) (.tmp rfl) rfl sz28 rfl (by repeat (first | exact Upd.here | apply Upd.there)) (by repeat (first | exact Put.done | apply Put.put | apply Put.skip))) ?_
    refine lstepB rfl rfl rfl (run_assign (.tmp rfl)) ?_
    refine lnil ?_
    refine xw_then ?_
    refine cw_seq ?_
    refine cw_chain2 (σ := [0, 1, 2, 3, 4, 5, 6, 7]) [⟨0, [], [], [], 0⟩, ⟨0, [0], [], [], 1⟩, ⟨0, [], [], [], 0⟩, ⟨0, [0], [], [], 4⟩, ⟨0, [], [], [], 0⟩, ⟨0, [], [], [], 3⟩, ⟨0, [], [], [], 47⟩, ⟨0, [], [], [], 127⟩] [(0, _), (1, _), (2, _)] (by kernel_rfl) (by kernel_rfl) rfl ?_
    refine .det (B := []) rfl rfl (.inl rfl) .nil .nil rfl (RunB.lr (run_fieldAddr (.tmp rfl) fa28_0 (by first | exact Nat.zero_add _ | exact rfl))) ?_
    refine .det (B := []) rfl rfl (.inl rfl) (.cons rfl .nil) .nil rfl (RunB.lr (run_load1 (.tmp rfl) kd3 (by repeat (first | exact List.Mem.head _ | apply List.Mem.tail)) (by exact rfl))) ?_
    refine .det (B := []) rfl rfl (.inl rfl) .nil .nil rfl (RunB.lr (run_fieldAddr (.tmp rfl) fa28_1 (by first | exact Nat.zero_add _ | exact rfl))) ?_
    refine .det (B := []) rfl rfl (.inl rfl) (.cons rfl .nil) .nil rfl (RunB.lr (run_load1 (.tmp rfl) kd3 (by repeat (first | exact List.Mem.head _ | apply List.Mem.tail)) (by exact rfl))) ?_
    refine .det (B := []) rfl rfl (.inl rfl) .nil .nil rfl (RunB.lr (run_move (.tmp rfl))) ?_
    refine .det (B := []) rfl rfl (.inl rfl) .nil .nil rfl (RunB.lr (run_assign (.tmp rfl))) ?_
    refine .det (B := []) rfl rfl (.inl rfl) .nil .nil rfl (RunB.lr (run_assign (.tmp rfl))) ?_
    refine .det (B := []) rfl rfl (.inl rfl) .nil .nil rfl (RunB.lr (run_assign (.tmp rfl))) ?_
    refine chain_nil (ts := [0, 1, 2]) (.cons rfl (.cons rfl (.cons rfl .nil))) (by decide) ?_
    refine xw_then ?_
    refine cw_ret ?_
    refine xw_ret3 Try.results21 rfl rfl rfl (fun w hS => ⟨?_, hS.kept⟩)
    simp [stretchS, he, errN]
  ·
    refine cw_seq ?_
    refine cw_region ?_
    refine lstep rfl rfl rfl (run_boxN (.tmp rfl)) ?_
    intro b2 _
    refine lstep rfl rfl rfl (run_box1 (.tmp rfl) rfl) ?_
    intro b3 _
    refine lstepB rfl rfl rfl (run_assign .const) ?_
    refine lstepB rfl rfl rfl (run_assign .const) ?_
    refine lstepB rfl rfl rfl (run_assign .const) ?_
    refine lnil ?_
    refine xw_then ?_
    refine cw_seq ?_
    refine cw_region ?_
    refine lstepB rfl rfl rfl (En.run_makeFunc .nil (.cons (.tmp rfl) (.cons (.tmp rfl) .nil))) ?_
    refine lstepB rfl rfl rfl (run_call1 cb42 (.cons (.tmp rfl) .nil) (fun w hS => told42_bad cb61 (fun w2 hB => find61_neg hm ((hp.kept hS.kept).kept hB) (hG ((hB.block _ (hS.lt (by repeat (first | exact List.Mem.head _ | apply List.Mem.tail)))).trans (hS.mem (by repeat (first | exact List.Mem.head _ | apply List.Mem.tail))))) (hA ((hB.block _ (hS.lt (by repeat (first | exact List.Mem.head _ | apply List.Mem.tail)))).trans (hS.mem (by repeat (first | exact List.Mem.head _ | apply List.Mem.tail))))) hc hl))) ?_
    refine lstepB rfl rfl rfl (run_move (.tmp rfl)) ?_
    refine lstepB rfl rfl rfl (run_extract (.tmp rfl) rfl) ?_
    refine lstepB rfl rfl rfl (run_extract (.tmp rfl) rfl) ?_
    refine lstep rfl rfl rfl (run_alloc zr28) ?_
    intro b7 _
    refine lstep0 rfl rfl (run_storeN (.tmp rfl) (.tmp rfl) rfl sz28 rfl (by repeat (first | exact Upd.here | apply Upd.there)) (by repeat (first | exact Put.done | apply Put.put | apply Put.skip))) ?_
    refine lstepB rfl rfl rfl (run_assign (.tmp rfl)) ?_
    refine lnil ?_
    refine xw_then ?_
    refine cw_seq ?_
    refine cw_chain2 (σ := [0, 1, 2, 3, 4, 5, 6, 7]) [⟨0, [], [], [], 0⟩, ⟨0, [0], [], [], 1⟩, ⟨0, [], [], [], 0⟩, ⟨0, [0], [], [], 4⟩, ⟨0, [], [], [], 0⟩, ⟨0, [], [], [], 3⟩, ⟨0, [], [], [], 47⟩, ⟨0, [], [], [], 127⟩] [(0, _), (1, _), (2, _)] (by kernel_rfl) (by kernel_rfl) rfl ?_
    refine .det (B := []) rfl rfl (.inl rfl) .nil .nil rfl (RunB.lr (run_fieldAddr (.tmp rfl) fa28_0 (by first | exact Nat.zero_add _ | exact rfl))) ?_
    refine .det (B := []) rfl rfl (.inl rfl) (.cons rfl .nil) .nil rfl (RunB.lr (run_load1 (.tmp rfl) kd3 (by repeat (first | exact List.Mem.head _ | apply List.Mem.tail)) (by exact rfl))) ?_
    refine .det (B := []) rfl rfl (.inl rfl) .nil .nil rfl (RunB.lr (run_fieldAddr (.tmp rfl) fa28_1 (by first | exact Nat.zero_add _ | exact rfl))) ?_
    refine .det (B := []) rfl rfl (.inl rfl) (.cons rfl .nil) .nil rfl (RunB.lr (run_load1 (.tmp rfl) kd3 (by repeat (first | exact List.Mem.head _ | apply List.Mem.tail)) (by exact rfl))) ?_
    refine .det (B := []) rfl rfl (.inl rfl) .nil .nil rfl (RunB.lr (run_move (.tmp rfl))) ?_
    refine .det (B := []) rfl rfl (.inl rfl) .nil .nil rfl (RunB.lr (run_assign (.tmp rfl))) ?_
    refine .det (B := []) rfl rfl (.inl rfl) .nil .nil rfl (RunB.lr (run_assign (.tmp rfl))) ?_
    refine .det (B := []) rfl rfl (.inl rfl) .nil .nil rfl (RunB.lr (run_assign (.tmp rfl))) ?_
    refine chain_nil (ts := [0, 1, 2]) (.cons rfl (.cons rfl (.cons rfl .nil))) (by decide) ?_
    refine xw_then ?_
    refine cw_ret ?_
    refine xw_ret3 Try.results21 rfl rfl rfl (fun w hS => ⟨?_, hS.kept⟩)
    simp [stretchS, he, errN]
  ·
    refine cw_seq ?_
    refine cw_region ?_
    refine lstep rfl rfl rfl (run_boxN (.tmp rfl)) ?_
    intro b2 _
    refine lstep rfl rfl rfl (run_box1 (.tmp rfl) rfl) ?_
    intro b3 _
    refine lstepB rfl rfl rfl (run_assign .const) ?_
    refine lstepB rfl rfl rfl (run_assign .const) ?_
    refine lstepB rfl rfl rfl (run_assign .const) ?_
    refine lnil ?_
    refine xw_then ?_
    refine cw_seq ?_
    refine cw_region ?_
    refine lstepB rfl rfl rfl (En.run_makeFunc .nil (.cons (.tmp rfl) (.cons (.tmp rfl) .nil))) ?_
    refine lstepB rfl rfl rfl (run_call1 cb42 (.cons (.tmp rfl) .nil) (fun w hS => told42_bad cb61 (fun w2 hB => find61_big hm ((hp.kept hS.kept).kept hB) (hG ((hB.block _ (hS.lt (by repeat (first | exact List.Mem.head _ | apply List.Mem.tail)))).trans (hS.mem (by repeat (first | exact List.Mem.head _ | apply List.Mem.tail))))) (hA ((hB.block _ (hS.lt (by repeat (first | exact List.Mem.head _ | apply List.Mem.tail)))).trans (hS.mem (by repeat (first | exact List.Mem.head _ | apply List.Mem.tail))))) hc hl hl4))) ?_
    refine lstepB rfl rfl rfl (run_move (.tmp rfl)) ?_
    refine lstepB rfl rfl rfl (run_extract (.tmp rfl) rfl) ?_
    refine lstepB rfl rfl rfl (run_extract (.tmp rfl) rfl) ?_
    refine lstep rfl rfl rfl (run_alloc zr28) ?_
    intro b7 _
    refine lstep0 rfl rfl (run_storeN (.tmp rfl) (.tmp rfl) rfl sz28 rfl (by repeat (first | exact Upd.here | apply Upd.there)) (by repeat (first | exact Put.done | apply Put.put | apply Put.skip))) ?_
    refine lstepB rfl rfl rfl (run_assign (.tmp rfl)) ?_
    refine lnil ?_
    refine xw_then ?_
    refine cw_seq ?_
    refine cw_chain2 (σ := [0, 1, 2, 3, 4, 5, 6, 7]) [⟨0, [], [], [], 0⟩, ⟨0, [0], [], [], 1⟩, ⟨0, [], [], [], 0⟩, ⟨0, [0], [], [], 4⟩, ⟨0, [], [], [], 0⟩, ⟨0, [], [], [], 3⟩, ⟨0, [], [], [], 47⟩, ⟨0, [], [], [], 127⟩] [(0, _), (1, _), (2, _)] (by kernel_rfl) (by kernel_rfl) rfl ?_
    refine .det (B := []) rfl rfl (.inl rfl) .nil .nil rfl (RunB.lr (run_fieldAddr (.tmp rfl) fa28_0 (by first | exact Nat.zero_add _ | exact rfl))) ?_
    refine .det (B := []) rfl rfl (.inl rfl) (.cons rfl .nil) .nil rfl (RunB.lr (run_load1 (.tmp rfl) kd3 (by repeat (first | exact List.Mem.head _ | apply List.Mem.tail)) (by exact rfl))) ?_
    refine .det (B := []) rfl rfl (.inl rfl) .nil .nil rfl (RunB.lr (run_fieldAddr (.tmp rfl) fa28_1 (by first | exact Nat.zero_add _ | exact rfl))) ?_
    refine .det (B := []) rfl rfl (.inl rfl) (.cons rfl .nil) .nil rfl (RunB.lr (run_load1 (.tmp rfl) kd3 (by repeat (first | exact List.Mem.head _ | apply List.Mem.tail)) (by exact rfl))) ?_
    refine .det (B := []) rfl rfl (.inl rfl) .nil .nil rfl (RunB.lr (run_move (.tmp rfl))) ?_
    refine .det (B := []) rfl rfl (.inl rfl) .nil .nil rfl (RunB.lr (run_assign (.tmp rfl))) ?_
    refine .det (B := []) rfl rfl (.inl rfl) .nil .nil rfl (RunB.lr (run_assign (.tmp rfl))) ?_
    refine .det (B := []) rfl rfl (.inl rfl) .nil .nil rfl (RunB.lr (run_assign (.tmp rfl))) ?_
    refine chain_nil (ts := [0, 1, 2]) (.cons rfl (.cons rfl (.cons rfl .nil))) (by decide) ?_
    refine xw_then ?_
    refine cw_ret ?_
    refine xw_ret3 Try.results21 rfl rfl rfl (fun w hS => ⟨?_, hS.kept⟩)
    simp [stretchS, he, errN]
  ·
    refine cw_seq ?_
    refine cw_region ?_
    refine lstep rfl rfl rfl (run_boxN (.tmp rfl)) ?_
    intro b2 _
    refine lstep rfl rfl rfl (run_box1 (.tmp rfl) rfl) ?_
    intro b3 _
    refine lstepB rfl rfl rfl (run_assign .const) ?_
    refine lstepB rfl rfl rfl (run_assign .const) ?_
    refine lstepB rfl rfl rfl (run_assign .const) ?_
    refine lnil ?_
    refine xw_then ?_
    refine cw_seq ?_
    refine cw_region ?_
    refine lstepB rfl rfl rfl (En.run_makeFunc .nil (.cons (.tmp rfl) (.cons (.tmp rfl) .nil))) ?_
    refine lstepB rfl rfl rfl (run_call1 cb42 (.cons (.tmp rfl) .nil) (fun w hS => told42_bad cb61 (fun w2 hB => find61_clash hm ((hp.kept hS.kept).kept hB) (hG ((hB.block _ (hS.lt (by repeat (first | exact List.Mem.head _ | apply List.Mem.tail)))).trans (hS.mem (by repeat (first | exact List.Mem.head _ | apply List.Mem.tail))))) (hA ((hB.block _ (hS.lt (by repeat (first | exact List.Mem.head _ | apply List.Mem.tail)))).trans (hS.mem (by repeat (first | exact List.Mem.head _ | apply List.Mem.tail))))) hc hc4 ho))) ?_
    refine lstepB rfl rfl rfl (run_move (.tmp rfl)) ?_
    refine lstepB rfl rfl rfl (run_extract (.tmp rfl) rfl) ?_
    refine lstepB rfl rfl rfl (run_extract (.tmp rfl) rfl) ?_
    refine lstep rfl rfl rfl (run_alloc zr28) ?_
    intro b7 _
    refine lstep0 rfl rfl (run_storeN (.tmp rfl) (.tmp rfl) rfl sz28 rfl (by repeat (first | exact Upd.here | apply Upd.there)) (by repeat (first | exact Put.done | apply Put.put | apply Put.skip))) ?_
    refine lstepB rfl rfl rfl (run_assign (.tmp rfl)) ?_
    refine lnil ?_
    refine xw_then ?_
    refine cw_seq ?_
    refine cw_chain2 (σ := [0, 1, 2, 3, 4, 5, 6, 7]) [⟨0, [], [], [], 0⟩, ⟨0, [0], [], [], 1⟩, ⟨0, [], [], [], 0⟩, ⟨0, [0], [], [], 4⟩, ⟨0, [], [], [], 0⟩, ⟨0, [], [], [], 3⟩, ⟨0, [], [], [], 47⟩, ⟨0, [], [], [], 127⟩] [(0, _), (1, _), (2, _)] (by kernel_rfl) (by kernel_rfl) rfl ?_
    refine .det (B := []) rfl rfl (.inl rfl) .nil .nil rfl (RunB.lr (run_fieldAddr (.tmp rfl) fa28_0 (by first | exact Nat.zero_add _ | exact rfl))) ?_
    refine .det (B := []) rfl rfl (.inl rfl) (.cons rfl .nil) .nil rfl (RunB.lr (run_load1 (.tmp rfl) kd3 (by repeat (first | exact List.Mem.head _ | apply List.Mem.tail)) (by exact rfl))) ?_
    refine .det (B := []) rfl rfl (.inl rfl) .nil .nil rfl (RunB.lr (run_fieldAddr (.tmp rfl) fa28_1 (by first | exact Nat.zero_add _ | exact rfl))) ?_
    refine .det (B := []) rfl rfl (.inl rfl) (.cons rfl .nil) .nil rfl (RunB.lr (run_load1 (.tmp rfl) kd3 (by repeat (first | exact List.Mem.head _ | apply List.Mem.tail)) (by exact rfl))) ?_
    refine .det (B := []) rfl rfl (.inl rfl) .nil .nil rfl (RunB.lr (run_move (.tmp rfl))) ?_
    refine .det (B := []) rfl rfl (.inl rfl) .nil .nil rfl (RunB.lr (run_assign (.tmp rfl))) ?_
    refine .det (B := []) rfl rfl (.inl rfl) .nil .nil rfl (RunB.lr (run_assign (.tmp rfl))) ?_
    refine .det (B := []) rfl rfl (.inl rfl) .nil .nil rfl (RunB.lr (run_assign (.tmp rfl))) ?_
    refine chain_nil (ts := [0, 1, 2]) (.cons rfl (.cons rfl (.cons rfl .nil))) (by decide) ?_
    refine xw_then ?_
    refine cw_ret ?_
    refine xw_ret3 Try.results21 rfl rfl rfl (fun w hS => ⟨?_, hS.kept⟩)
    simp [stretchS, he, errN]
  ·
    refine cw_seq ?_
    refine cw_region ?_
    refine lstep rfl rfl rfl (run_boxN (.tmp rfl)) ?_
    intro b2 _
    refine lstep rfl rfl rfl (run_box1 (.tmp rfl) rfl) ?_
    intro b3 _
    refine lstepB rfl rfl rfl (run_assign .const) ?_
    refine lstepB rfl rfl rfl (run_assign .const) ?_
    refine lstepB rfl rfl rfl (run_assign .const) ?_
    refine lnil ?_
    refine xw_then ?_
    refine cw_seq ?_
    refine cw_region ?_
    refine lstepB rfl rfl rfl (En.run_makeFunc .nil (.cons (.tmp rfl) (.cons (.tmp rfl) .nil))) ?_
    refine lstepB rfl rfl rfl (run_call1 cb42 (.cons (.tmp rfl) .nil) (fun w hS => told42_bad cb61 (fun w2 hB => find61_none hm ((hp.kept hS.kept).kept hB) (hG ((hB.block _ (hS.lt (by repeat (first | exact List.Mem.head _ | apply List.Mem.tail)))).trans (hS.mem (by repeat (first | exact List.Mem.head _ | apply List.Mem.tail))))) (hA ((hB.block _ (hS.lt (by repeat (first | exact List.Mem.head _ | apply List.Mem.tail)))).trans (hS.mem (by repeat (first | exact List.Mem.head _ | apply List.Mem.tail))))) hc hc4 ho hz))) ?_
    refine lstepB rfl rfl rfl (run_move (.tmp rfl)) ?_
    refine lstepB rfl rfl rfl (run_extract (.tmp rfl) rfl) ?_
    refine lstepB rfl rfl rfl (run_extract (.tmp rfl) rfl) ?_
    refine lstep rfl rfl rfl (run_alloc zr28) ?_
    intro b7 _
    refine lstep0 rfl rfl (run_storeN (.tmp rfl) (.tmp rfl) rfl sz28 rfl (by repeat (first | exact Upd.here | apply Upd.there)) (by repeat (first | exact Put.done | apply Put.put | apply Put.skip))) ?_
    refine lstepB rfl rfl rfl (run_assign (.tmp rfl)) ?_
    refine lnil ?_
    refine xw_then ?_
    refine cw_seq ?_
    refine cw_chain2 (σ := [0, 1, 2, 3, 4, 5, 6, 7]) [⟨0, [], [], [], 0⟩, ⟨0, [0], [], [], 1⟩, ⟨0, [], [], [], 0⟩, ⟨0, [0], [], [], 4⟩, ⟨0, [], [], [], 0⟩, ⟨0, [], [], [], 3⟩, ⟨0, [], [], [], 47⟩, ⟨0, [], [], [], 127⟩] [(0, _), (1, _), (2, _)] (by kernel_rfl) (by kernel_rfl) rfl ?_
    refine .det (B := []) rfl rfl (.inl rfl) .nil .nil rfl (RunB.lr (run_fieldAddr (.tmp rfl) fa28_0 (by first | exact Nat.zero_add _ | exact rfl))) ?_
    refine .det (B := []) rfl rfl (.inl rfl) (.cons rfl .nil) .nil rfl (RunB.lr (run_load1 (.tmp rfl) kd3 (by repeat (first | exact List.Mem.head _ | apply List.Mem.tail)) (by exact rfl))) ?_
    refine .det (B := []) rfl rfl (.inl rfl) .nil .nil rfl (RunB.lr (run_fieldAddr (.tmp rfl) fa28_1 (by first | exact Nat.zero_add _ | exact rfl))) ?_
    refine .det (B := []) rfl rfl (.inl rfl) (.cons rfl .nil) .nil rfl (RunB.lr (run_load1 (.tmp rfl) kd3 (by repeat (first | exact List.Mem.head _ | apply List.Mem.tail)) (by exact rfl))) ?_
    refine .det (B := []) rfl rfl (.inl rfl) .nil .nil rfl (RunB.lr (run_move (.tmp rfl))) ?_
    refine .det (B := []) rfl rfl (.inl rfl) .nil .nil rfl (RunB.lr (run_assign (.tmp rfl))) ?_
    refine .det (B := []) rfl rfl (.inl rfl) .nil .nil rfl (RunB.lr (run_assign (.tmp rfl))) ?_
    refine .det (B := []) rfl rfl (.inl rfl) .nil .nil rfl (RunB.lr (run_assign (.tmp rfl))) ?_
    refine chain_nil (ts := [0, 1, 2]) (.cons rfl (.cons rfl (.cons rfl .nil))) (by decide) ?_
    refine xw_then ?_
    refine cw_ret ?_
    refine xw_ret3 Try.results21 rfl rfl rfl (fun w hS => ⟨?_, hS.kept⟩)
    simp [stretchS, he, errN]
  ·
    refine cw_seq ?_
    refine cw_region ?_
    refine lstep rfl rfl rfl (run_boxN (.tmp rfl)) ?_
    intro b2 _
    refine lstep rfl rfl rfl (run_box1 (.tmp rfl) rfl) ?_
    intro b3 _
    refine lstepB rfl rfl rfl (run_assign .const) ?_
    refine lstepB rfl rfl rfl (run_assign .const) ?_
    refine lstepB rfl rfl rfl (run_assign .const) ?_
    refine lnil ?_
    refine xw_then ?_
    refine cw_seq ?_
    refine cw_region ?_
    refine lstepB rfl rfl rfl (En.run_makeFunc .nil (.cons (.tmp rfl) (.cons (.tmp rfl) .nil))) ?_
    refine lstepB rfl rfl rfl (run_call1 cb42 (.cons (.tmp rfl) .nil) (fun w hS => told42_ok cb61 (fun w2 hB => find61_ok hm ((hp.kept hS.kept).kept hB) (hG ((hB.block _ (hS.lt (by repeat (first | exact List.Mem.head _ | apply List.Mem.tail)))).trans (hS.mem (by repeat (first | exact List.Mem.head _ | apply List.Mem.tail))))) (hA ((hB.block _ (hS.lt (by repeat (first | exact List.Mem.head _ | apply List.Mem.tail)))).trans (hS.mem (by repeat (first | exact List.Mem.head _ | apply List.Mem.tail))))) hc hc4 ho hz))) ?_
    refine lstepB rfl rfl rfl (run_move (.tmp rfl)) ?_
    refine lstepB rfl rfl rfl (run_extract (.tmp rfl) rfl) ?_
    refine lstepB rfl rfl rfl (run_extract (.tmp rfl) rfl) ?_
    refine lstep rfl rfl rfl (run_alloc zr28) ?_
    intro b7 _
    refine lstep0 rfl rfl (run_storeN (.tmp rfl) (.tmp rfl) rfl sz28 rfl (by repeat (first | exact Upd.here | apply Upd.there)) (by repeat (first | exact Put.done | apply Put.put | apply Put.skip))) ?_
    refine lstepB rfl rfl rfl (run_assign (.tmp rfl)) ?_
    refine lnil ?_
    refine xw_then ?_
    refine cw_seq ?_
    refine cw_chain2 (σ := [0, 1, 2, 3, 4, 5, 6, 7]) [⟨0, [], [], [], 0⟩, ⟨0, [0], [], [], 1⟩, ⟨0, [], [], [], 0⟩, ⟨0, [0], [], [], 4⟩, ⟨0, [], [], [], 0⟩, ⟨0, [], [], [], 3⟩, ⟨0, [], [], [], 47⟩, ⟨0, [], [], [], 127⟩] [(0, _), (1, _), (2, _)] (by kernel_rfl) (by kernel_rfl) rfl ?_
    refine .det (B := []) rfl rfl (.inl rfl) .nil .nil rfl (RunB.lr (run_fieldAddr (.tmp rfl) fa28_0 (by first | exact Nat.zero_add _ | exact rfl))) ?_
    refine .det (B := []) rfl rfl (.inl rfl) (.cons rfl .nil) .nil rfl (RunB.lr (run_load1 (.tmp rfl) kd3 (by repeat (first | exact List.Mem.head _ | apply List.Mem.tail)) (by exact rfl))) ?_
    refine .det (B := []) rfl rfl (.inl rfl) .nil .nil rfl (RunB.lr (run_fieldAddr (.tmp rfl) fa28_1 (by first | exact Nat.zero_add _ | exact rfl))) ?_
    refine .det (B := []) rfl rfl (.inl rfl) (.cons rfl .nil) .nil rfl (RunB.lr (run_load1 (.tmp rfl) kd3 (by repeat (first | exact List.Mem.head _ | apply List.Mem.tail)) (by exact rfl))) ?_
    refine .det (B := []) rfl rfl (.inl rfl) .nil .nil rfl (RunB.lr (run_move (.tmp rfl))) ?_
    refine .det (B := []) rfl rfl (.inl rfl) .nil .nil rfl (RunB.lr (run_assign (.tmp rfl))) ?_
    refine .det (B := []) rfl rfl (.inl rfl) .nil .nil rfl (RunB.lr (run_assign (.tmp rfl))) ?_
    refine .det (B := []) rfl rfl (.inl rfl) .nil .nil rfl (RunB.lr (run_assign (.tmp rfl))) ?_
    refine chain_nil (ts := [0, 1, 2]) (.cons rfl (.cons rfl (.cons rfl .nil))) (by decide) ?_
    refine xw_then ?_
    refine cw_ret ?_
    refine xw_ret3 Try.results21 rfl rfl rfl (fun w hS => ⟨?_, hS.kept⟩)
    simp [stretchS, he, errN]
end Go.Proofs.Ytfmbnobkenngaaa
