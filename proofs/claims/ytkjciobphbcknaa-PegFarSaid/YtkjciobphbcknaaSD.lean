/- The document's own answers: its smallest functions. -/
import Derived.Test.YtkjciobphbcknaaTF
import Derived.Test.YtkjciobphbcknaaEZ
import Derived.Test.YtkjciobphbcknaaSC
import Derived.Test.YtkjciobphbcknaaSJ
namespace Go.Proofs.Ytkjciobphbcknaa
open Go.RowKit En

theorem pow_step (k : Nat) (hk : k < 6) : IntKind.i64.wrap (2 * ((2 ^ k : Nat) : Int)) = ((2 ^ (k + 1) : Nat) : Int) :=
  (by decide +kernel : ∀ k : Fin 6, IntKind.i64.wrap (2 * ((2 ^ k.1 : Nat) : Int)) = ((2 ^ (k.1 + 1) : Nat) : Int)) ⟨k, hk⟩
set_option maxRecDepth 100000 in
set_option maxHeartbeats 4000000 in
theorem powK (n : Nat) (hn : n ≤ 6) (w : World) : Gives Try.prog 49 [.int .i64 (n : Int)] w (.int .i64 ((2 ^ n : Nat) : Int)) := by
  refine .mk <| enter (n := 13) Try.func49 rfl rfl rfl (by repeat (first | exact Fill.nil | apply Fill.cons)) ?_
  refine cw_seq ?_
  refine cw_region ?_
  refine lstepB rfl rfl rfl (run_assign .const) ?_
  refine lnil ?_
  refine xw_then ?_
  refine cw_seq ?_
  refine cw_region ?_
  refine lstepB rfl rfl rfl (run_assign .const) ?_
  refine lnil ?_
  refine xw_then ?_
  refine cw_seq ?_
  refine cw_seq ?_
  refine cw_region ?_
  refine lstepB rfl rfl rfl (run_assign .const) ?_
  refine lnil ?_
  refine xw_then ?_
  refine cw_block ?_
  refine cw_loop (S := Nat) (fun k => [(3, .int .i64 ((2 ^ k : Nat) : Int)), (4, .int .i64 (k : Int))]) [(0, _), (2, _)] (fun k => []) (fun k => k ≤ n) (fun k => n - k) 0 (Nat.zero_le _) (by repeat (first | exact Less.nil | refine Less.cons rfl ?_)) (by repeat (first | exact Pick.nil | (apply Pick.cons; focus (repeat (first | exact Del.here | apply Del.there))))) ?_
  intro k hk
  try dsimp only
  refine cw_seq ?_
  refine cw_seq ?_
  refine cw_region ?_
  refine lstepB rfl rfl rfl (run_move (.tmp rfl)) ?_
  refine lstepB rfl rfl rfl (run_move (.tmp rfl)) ?_
  refine lstepB rfl rfl rfl (run_lss (.tmp rfl) (.tmp rfl) (by first | exact decide_eq_true (by omega) | exact decide_eq_false (by omega) | exact rfl)) ?_
  refine lnil ?_
  refine xw_then ?_
  refine cw_cond_p (.tmp rfl) (fun hlt => ?_) (fun hge => ?_)
  ·
    refine cw_skip ?_
    refine xw_then ?_
    refine cw_seq ?_
    refine cw_block ?_
    refine cw_region ?_
    refine lstepB rfl rfl rfl (run_move (.tmp rfl)) ?_
    refine lstepB rfl rfl rfl (run_mul .const (.tmp rfl) (pow_step k (by have := hlt; omega))) ?_
    refine lstepB rfl rfl rfl (run_assign (.tmp rfl)) ?_
    refine lnil ?_
    refine xw_in ?_
    refine xw_then ?_
    refine cw_region ?_
    refine lstepB rfl rfl rfl (run_move (.tmp rfl)) ?_
    refine lstepB rfl rfl rfl (run_add (.tmp rfl) .const (by first | exact IntWalk.i64_in _ (by omega) | exact rfl)) ?_
    refine lstepB rfl rfl rfl (run_assign (.tmp rfl)) ?_
    refine lnil ?_
    exact xw_round (k + 1) (by have : (k : Int) < (n : Int) := hlt; omega) (by have : (k : Int) < (n : Int) := hlt; omega) (by repeat (first | exact Less.nil | refine Less.cons rfl ?_)) (by repeat (first | exact Pick.nil | (apply Pick.cons; focus (repeat (first | exact Del.here | apply Del.there)))))
  ·
    refine cw_exit ?_
    refine xw_then_exit ?_
    refine xw_then_exit ?_
    refine xw_in_exit ?_
    refine xw_then ?_
    refine cw_seq ?_
    refine cw_region ?_
    refine lstepB rfl rfl rfl (run_move (.tmp rfl)) ?_
    refine lstepB rfl rfl rfl (run_assign (.tmp rfl)) ?_
    refine lnil ?_
    refine xw_then ?_
    refine cw_ret ?_
    refine xw_ret1 Try.results49 rfl (fun w hS => ⟨?_, hS.kept⟩)
    have : ¬ (k : Int) < (n : Int) := hge
    obtain rfl : k = n := by omega
    rfl
theorem pow64 (k : Nat) (hk : k ≤ 6) : 1 ≤ 2 ^ k ∧ 2 ^ k ≤ 64 := (by decide +kernel : ∀ k : Fin 7, 1 ≤ 2 ^ k.1 ∧ 2 ^ k.1 ≤ 64) ⟨k, by omega⟩
section
variable {Pr : Program} {T : Nat → Prop} {H : Heap} {E : Env} {w0 : World} {x y : Operand} {d : Option Tmp} {tx ty tyy : TypeId} {pos : String} {af : Array Edge} {g : Option (Nat × Bool)}
theorem run_quo_nat {a b : Nat} (hx : Ev E x (.int .i64 (a : Int))) (hy : Ev E y (.int .i64 (b : Int))) (h1 : 0 < b) (ha : a < 1000000) : RunB Pr E w0 T H ⟨d, .binOp .quo tx x y tyy, ty, pos, af, g⟩ (.int .i64 ((a / b : Nat) : Int)) := fun ρ w hρ _ => by
  have e := hρ x _ (by simp [Op.operands]) hx
  have e' := hρ y _ (by simp [Op.operands]) hy
  have h2 : b ≠ 0 := by omega
  have h3 : IntKind.i64.wrap ((a : Int) / (b : Int)) = (a : Int) / (b : Int) := by
    have hle := Nat.div_le_self a b
    rw [← Int.natCast_ediv]
    generalize a / b = q at *
    exact IntWalk.i64_in _ (by omega)
  simp [execOp, e, e', Done, go_sem, eqGuard, binOp, h2, Below.refl, ← Int.ofNat_tdiv, h3]
end
set_option maxRecDepth 100000 in
set_option maxHeartbeats 4000000 in
theorem hasK (s i : Nat) (hs : s < 1000000) (hi : i ≤ 6) (w : World) : Gives Try.prog 48 [.int .i64 (s : Int), .int .i64 (i : Int)] w (.bool (bitAt s i)) := by
  refine .mk <| enter (n := 11) Try.func48 rfl rfl rfl (by repeat (first | exact Fill.nil | apply Fill.cons)) ?_
  refine cw_seq ?_
  refine cw_region ?_
  refine lstepB rfl rfl rfl (run_assign .const) ?_
  refine lnil ?_
  refine xw_then ?_
  refine cw_seq ?_
  refine cw_region ?_
  refine lstepB rfl rfl rfl (run_move (.tmp rfl)) ?_
  refine lstepB rfl rfl rfl (run_move (.tmp rfl)) ?_
  refine lstepB rfl rfl rfl (run_call1 cb49 (.cons (.tmp rfl) .nil) (fun w _ => powK i hi w)) ?_
  refine lstepB rfl rfl rfl (run_quo_nat (a := s) (b := 2 ^ i) (.tmp rfl) (.tmp rfl) (pow64 i hi).1 hs) ?_
  refine lstepB rfl rfl rfl (run_rem_nat (b := 2) (.tmp rfl) .const (by decide)) ?_
  refine lstepB rfl rfl rfl (run_eql (p := bitAt s i) (.tmp rfl) .const (by unfold bitAt; exact decide_eq_decide.2 (by omega))) ?_
  refine lstepB rfl rfl rfl (run_assign (.tmp rfl)) ?_
  refine lnil ?_
  refine xw_then ?_
  refine cw_ret ?_
  refine xw_ret1 Try.results48 rfl (fun w hS => ⟨rfl, hS.kept⟩)
set_option maxRecDepth 100000 in
set_option maxHeartbeats 4000000 in
theorem everyK (n : Nat) (hn : n ≤ 6) (s : Int) (pa la : Option Addr) (pl pc lc : Nat) (w : World) : Gives Try.prog 67 [.agg [.int .i64 s, .slice pa pl pc, .slice la n lc].toArray] w (.int .i64 ((2 ^ n - 1 : Nat) : Int)) := by
  refine .mk <| enter (n := 8) Try.func67 rfl rfl rfl (by repeat (first | exact Fill.nil | apply Fill.cons)) ?_
  refine cw_seq ?_
  refine cw_region ?_
  refine lstep rfl rfl rfl (run_boxN (.tmp rfl)) ?_
  intro b1 _
  refine lstepB rfl rfl rfl (run_assign .const) ?_
  refine lnil ?_
  refine xw_then ?_
  refine cw_seq ?_
  refine cw_region ?_
  refine lstepB rfl rfl rfl (run_fieldAddr (.tmp rfl) fa25_2 (by first | exact Nat.zero_add _ | exact rfl)) ?_
  refine lstepB rfl rfl rfl (run_load1 (.tmp rfl) kd23 (by repeat (first | exact List.Mem.head _ | apply List.Mem.tail)) (by exact rfl)) ?_
  refine lstepB rfl rfl rfl (run_len (.tmp rfl) sl23) ?_
  refine lstepB rfl rfl rfl (run_call1 cb49 (.cons (.tmp rfl) .nil) (fun w _ => powK n hn w)) ?_
  refine lstepB rfl rfl rfl (run_sub (c := ((2 ^ n - 1 : Nat) : Int)) (.tmp rfl) .const (by have := pow64 n hn; exact (IntWalk.i64_in _ (by omega)).trans (by omega))) ?_
  refine lstepB rfl rfl rfl (run_assign (.tmp rfl)) ?_
  refine lnil ?_
  refine xw_then ?_
  refine cw_ret ?_
  refine xw_ret1 Try.results67 rfl (fun w hS => ⟨rfl, hS.kept⟩)
def hullV (e : EndsD) : Value := .agg [.int .i64 e.lo, .int .i64 e.hi].toArray
set_option maxRecDepth 100000 in
set_option maxHeartbeats 4000000 in
theorem hullK (e : EndsD) (n : Int) (b : Bool) (hb0 : b = !e.some) (w : World) : Gives Try.prog 55 [hullV e, .int .i64 n, .bool b] w (hullV (e.add n)) := by
  subst hb0
  unfold hullV

  refine .mk <| enter (n := 20) Try.func55 rfl rfl rfl (by repeat (first | exact Fill.nil | apply Fill.cons)) ?_
  refine cw_seq ?_
  refine cw_region ?_
  refine lstep rfl rfl rfl (run_boxN (.tmp rfl)) ?_
  intro b3 _
  refine lstep rfl rfl rfl (run_alloc zr32) ?_
  intro b6 _
  refine lnil ?_
  refine xw_then ?_
  refine cw_seq ?_
  refine cw_seq ?_
  refine cw_region ?_
  refine lstepB rfl rfl rfl (run_move (.tmp rfl)) ?_
  refine lnil ?_
  refine xw_then ?_
  cases hb : e.some
  ·
    refine cw_cond_true (.tmp rfl) ?_
    refine cw_seq ?_
    refine cw_region ?_
    refine lstepB rfl rfl rfl (run_move (.tmp rfl)) ?_
    refine lstepB rfl rfl rfl (run_move (.tmp rfl)) ?_
    refine lstepB rfl rfl rfl (run_build_at (.cons (.tmp rfl) (.cons (.tmp rfl) .nil)) (fun w => bd32_0_1 w)) ?_
    refine lstep0 rfl rfl (run_storeN (.tmp rfl) (.tmp rfl) rfl sz32 rfl (by repeat (first | exact Upd.here | apply Upd.there)) (by repeat (first | exact Put.done | apply Put.put | apply Put.skip))) ?_
    refine lnil ?_
    refine xw_then ?_
    refine cw_ret ?_
    refine xw_then_ret ?_
    refine xw_retC1 rfl rfl kd32 sz32 (by repeat (first | exact List.Mem.head _ | apply List.Mem.tail)) (by repeat (first | exact Sub.done | apply Sub.take | apply Sub.skip)) (fun w hS => ⟨by simp [hullV, EndsD.add, hb], hS.kept⟩)
  ·
    refine cw_cond_false (.tmp rfl) ?_
    refine cw_skip ?_
    refine xw_then ?_
    refine cw_seq ?_
    refine cw_region ?_
    refine lstepB rfl rfl rfl (run_fieldAddr (.tmp rfl) fa32_0 (by first | exact Nat.zero_add _ | exact rfl)) ?_
    refine lstepB rfl rfl rfl (run_load1 (.tmp rfl) kd3 (by repeat (first | exact List.Mem.head _ | apply List.Mem.tail)) (by exact rfl)) ?_
    refine lstepB rfl rfl rfl (run_move (.tmp rfl)) ?_
    refine lstepB rfl rfl rfl (run_min2 (.tmp rfl) (.tmp rfl)) ?_
    refine lstepB rfl rfl rfl (run_fieldAddr (.tmp rfl) fa32_1 (by first | exact Nat.zero_add _ | exact rfl)) ?_
    refine lstepB rfl rfl rfl (run_load1 (.tmp rfl) kd3 (by repeat (first | exact List.Mem.head _ | apply List.Mem.tail)) (by exact rfl)) ?_
    refine lstepB rfl rfl rfl (run_move (.tmp rfl)) ?_
    refine lstepB rfl rfl rfl (run_max2 (.tmp rfl) (.tmp rfl)) ?_
    refine lstepB rfl rfl rfl (run_build_at (.cons (.tmp rfl) (.cons (.tmp rfl) .nil)) (fun w => bd32_0_1 w)) ?_
    refine lstep0 rfl rfl (run_storeN (.tmp rfl) (.tmp rfl) rfl sz32 rfl (by repeat (first | exact Upd.here | apply Upd.there)) (by repeat (first | exact Put.done | apply Put.put | apply Put.skip))) ?_
    refine lnil ?_
    refine xw_then ?_
    refine cw_ret ?_
    refine xw_retC1 rfl rfl kd32 sz32 (by repeat (first | exact List.Mem.head _ | apply List.Mem.tail)) (by repeat (first | exact Sub.done | apply Sub.take | apply Sub.skip)) (fun w hS => ⟨by simp [hullV, EndsD.add, hb], hS.kept⟩)
theorem lenSet_eq {set k : Nat} {ls : List Len} {L : List Pl} {x : Len} (h : ls[k]? = some x) : lenSet set ls L k = (!bitAt set k || lenGood x L) := by simp [lenSet, h]
theorem rightS_of {set : Nat} {ls : List Len} {L : List Pl} (h : ∀ j, j < ls.length → lenSet set ls L j = true) : rightS set ls L = true := by
  simp only [rightS, List.all_eq_true, List.mem_range]; exact h
theorem rightS_no {set k : Nat} {ls : List Len} {L : List Pl} (hk : k < ls.length) (h : lenSet set ls L k = false) : rightS set ls L = false := by
  rw [rightS, List.all_eq_false]; exact ⟨k, List.mem_range.2 hk, by simp [h]⟩
theorem lenGood_in {a b : Nat} {lo hi : Int} {L : List Pl} {s t : Pl} (hs : L[a]? = some s) (ht : L[b]? = some t) : lenGood ⟨a, b, lo, hi⟩ L = inB (sqI s.x s.y t.x t.y) (lo * lo) (hi * hi) := by
  have h1 := (List.getElem?_eq_some_iff.1 hs).1
  have h2 := (List.getElem?_eq_some_iff.1 ht).1
  have e1 : plAt L (a : Int) = s := by simp [plAt, List.getD_eq_getElem?_getD, hs]
  have e2 : plAt L (b : Int) = t := by simp [plAt, List.getD_eq_getElem?_getD, ht]
  simp only [lenGood]
  rw [decide_eq_false (by omega), decide_eq_false (by omega), e1, e2]; rfl
theorem upto_succ {q : Nat → Prop} {k : Nat} (h : ∀ j, j < k → q j) (hk : q k) : ∀ j, j < k + 1 → q j := fun j hj => by
  by_cases e : j = k
  · rw [e]; exact hk
  · exact h j (by omega)
set_option maxRecDepth 100000 in
set_option maxHeartbeats 4000000 in
theorem rightK (sd : Int) (pl pc lc rc set : Nat) (pa la ra : Option Addr) (ls : List Len) (L : List Pl) (w : World) (hset1 : set < 1000000) (h6 : ls.length ≤ 6) (hls : ∀ l ∈ ls, 0 ≤ l.a ∧ 0 ≤ l.b ∧ (0 ≤ l.lo ∧ l.lo ≤ 30) ∧ 0 ≤ l.hi ∧ l.hi ≤ 30) (hL : ∀ s ∈ L, 0 ≤ s.x ∧ s.x ≤ 15 ∧ 0 ≤ s.y ∧ s.y ≤ 15) (hl : LensIn w la ls) (hr : QlsIn w ra L) :
    Gives Try.prog 102 [.agg [.int .i64 sd, .slice pa pl pc, .slice la ls.length lc].toArray, .int .i64 (set : Int), .slice ra L.length rc] w (.bool (rightS set ls L)) := by
  refine .mk <| enter (n := 66) Try.func102 rfl rfl rfl (by repeat (first | exact Fill.nil | apply Fill.cons)) ?_
  refine cw_seq ?_
  refine cw_region ?_
  refine lstep rfl rfl rfl (run_boxN (.tmp rfl)) ?_
  intro b3 _
  refine lstepB rfl rfl rfl (run_assign .const) ?_
  refine lnil ?_
  refine xw_then ?_
  refine cw_seq ?_
  refine cw_seq ?_
  refine cw_region ?_
  refine lstepB rfl rfl rfl (run_assign .const) ?_
  refine lnil ?_
  refine xw_then ?_
  refine cw_block ?_
  refine cw_loop (S := Nat) (fun k => [(7, .int .i64 (k : Int))]) [(1, _), (2, _), (3, _), (6, _)] (fun k => [(b3, Obj.cells [.int .i64 sd, .slice pa pl pc, .slice la ls.length lc].toArray 25 (0, 0))]) (fun k => k ≤ ls.length ∧ ∀ j, j < k → lenSet set ls L j = true) (fun k => ls.length - k) 0 ⟨Nat.zero_le _, fun j h => absurd h (Nat.not_lt_zero j)⟩ (by repeat (first | exact Less.nil | refine Less.cons rfl ?_)) (by repeat (first | exact Pick.nil | (apply Pick.cons; focus (repeat (first | exact Del.here | apply Del.there))))) ?_
  intro k hk
  obtain ⟨hk, hall⟩ := hk
  try dsimp only
  refine cw_seq ?_
  refine cw_seq ?_
  refine cw_region ?_
  refine lstepB rfl rfl rfl (run_move (.tmp rfl)) ?_
  refine lstepB rfl rfl rfl (run_fieldAddr (.tmp rfl) fa25_2 (by first | exact Nat.zero_add _ | exact rfl)) ?_
  refine lstepB rfl rfl rfl (run_load1 (.tmp rfl) kd23 (by repeat (first | exact List.Mem.head _ | apply List.Mem.tail)) (by exact rfl)) ?_
  refine lstepB rfl rfl rfl (run_len (.tmp rfl) sl23) ?_
  refine lstepB rfl rfl rfl (run_lss (.tmp rfl) (.tmp rfl) (by first | exact decide_eq_true (by omega) | exact decide_eq_false (by omega) | exact rfl)) ?_
  refine lnil ?_
  refine xw_then ?_
  refine cw_cond_p (.tmp rfl) (fun hlt => ?_) (fun hge => ?_)
  ·
    have hlt2 : (k : Int) < (ls.length : Int) := hlt
    have hkl : k < ls.length := by omega
    obtain ⟨⟨xa, xb, xlo, xhi⟩, hx⟩ : ∃ x, ls[k]? = some x := ⟨_, List.getElem?_eq_getElem hkl⟩
    obtain ⟨f1, f2, f3, f4⟩ := hls _ (List.mem_of_getElem? hx)
    simp only at f1 f2 f3 f4
    obtain ⟨ia, rfl⟩ := Int.eq_ofNat_of_zero_le f1
    obtain ⟨ib, rfl⟩ := Int.eq_ofNat_of_zero_le f2
    obtain ⟨lb, lo, rfl, hlb, hLs⟩ := lensIn_at hl (by omega)
    have cl := hLs k _ hx
    clear hLs
    have hset := lenSet_eq (set := set) (L := L) hx
    cases hb : bitAt set k with
    | false =>
      refine cw_skip ?_
      refine xw_then ?_
      refine cw_seq ?_
      refine cw_block ?_
      refine cw_seq ?_
      refine cw_region ?_
      refine lstepB rfl rfl rfl (run_fieldAddr (.tmp rfl) fa25_2 (by first | exact Nat.zero_add _ | exact rfl)) ?_
      refine lstepB rfl rfl rfl (run_load1 (.tmp rfl) kd23 (by repeat (first | exact List.Mem.head _ | apply List.Mem.tail)) (by exact rfl)) ?_
      refine lstepB rfl rfl rfl (run_move (.tmp rfl)) ?_
      refine lstepB rfl rfl rfl (run_indexAddr (.tmp rfl) (.tmp rfl) el23 (by omega) rfl) ?_
      refine lstepB rfl rfl rfl (run_loadN_at (l := [.int .i64 (ia : Int), .int .i64 (ib : Int), .int .i64 xlo, .int .i64 xhi]) (.tmp rfl) kd65 sz65 rfl (fun w hS j v hj => hS.old_cell (fun h => h) (cl j v hj))) ?_
      refine lstep rfl rfl rfl (run_alloc zr65) ?_
      intro b8 _
      refine lstep0 rfl rfl (run_storeN (.tmp rfl) (.tmp rfl) rfl sz65 rfl (by repeat (first | exact Upd.here | apply Upd.there)) (by repeat (first | exact Put.done | apply Put.put | apply Put.skip))) ?_
      refine lnil ?_
      refine xw_then ?_
      refine cw_seq ?_
      refine cw_seq ?_
      refine cw_region ?_
      refine lstepB rfl rfl rfl (run_move (.tmp rfl)) ?_
      refine lstepB rfl rfl rfl (run_move (.tmp rfl)) ?_
      refine lstepB rfl rfl rfl (run_call1 cb48 (.cons (.tmp rfl) (.cons (.tmp rfl) .nil)) (fun w _ => (hasK set k hset1 (by omega) w).as (congrArg Value.bool hb))) ?_
      refine lstepB rfl rfl rfl (run_not (.tmp rfl) (by first | exact Bool.not_true | exact Bool.not_false | exact rfl)) ?_
      refine lstepB rfl rfl rfl (run_move (.tmp rfl)) ?_
      refine lskip rfl rfl rfl rfl rfl rfl rfl ?_
      refine lskip rfl rfl rfl rfl rfl rfl rfl ?_
      refine lskip rfl rfl rfl rfl rfl rfl rfl ?_
      refine lskip rfl rfl rfl rfl rfl rfl rfl ?_
      refine lskip rfl rfl rfl rfl rfl rfl rfl ?_
      refine lstepB rfl rfl rfl (by first | exact run_pick_true (.tmp rfl) .const | exact run_pick_false (.tmp rfl) (.tmp rfl)) ?_
      refine lstepB rfl rfl rfl (run_move (.tmp rfl)) ?_
      refine lskip rfl rfl rfl rfl rfl rfl rfl ?_
      refine lskip rfl rfl rfl rfl rfl rfl rfl ?_
      refine lskip rfl rfl rfl rfl rfl rfl rfl ?_
      refine lskip rfl rfl rfl rfl rfl rfl rfl ?_
      refine lskip rfl rfl rfl rfl rfl rfl rfl ?_
      refine lstepB rfl rfl rfl (by first | exact run_pick_true (.tmp rfl) .const | exact run_pick_false (.tmp rfl) (.tmp rfl)) ?_
      refine lnil ?_
      refine xw_then ?_
      refine cw_cond_true (.tmp rfl) ?_
      refine cw_exit ?_
      refine xw_then_exit ?_
      refine xw_in_exit ?_
      refine xw_then ?_
      refine cw_region ?_
      refine lstepB rfl rfl rfl (run_move (.tmp rfl)) ?_
      refine lstepB rfl rfl rfl (run_add (.tmp rfl) .const (by first | exact IntWalk.i64_in _ (by omega) | exact rfl)) ?_
      refine lstepB rfl rfl rfl (run_assign (.tmp rfl)) ?_
      refine lnil ?_
      exact xw_round (k + 1) ⟨by omega, upto_succ hall (by rw [hset, hb]; rfl)⟩ (by omega) (by repeat (first | exact Less.nil | refine Less.cons rfl ?_)) (by repeat (first | exact Pick.nil | (apply Pick.cons; focus (repeat (first | exact Del.here | apply Del.there)))))
    | true =>
      by_cases ha : (L.length : Int) ≤ (ia : Int)
      ·
        refine cw_skip ?_
        refine xw_then ?_
        refine cw_seq ?_
        refine cw_block ?_
        refine cw_seq ?_
        refine cw_region ?_
        refine lstepB rfl rfl rfl (run_fieldAddr (.tmp rfl) fa25_2 (by first | exact Nat.zero_add _ | exact rfl)) ?_
        refine lstepB rfl rfl rfl (run_load1 (.tmp rfl) kd23 (by repeat (first | exact List.Mem.head _ | apply List.Mem.tail)) (by exact rfl)) ?_
        refine lstepB rfl rfl rfl (run_move (.tmp rfl)) ?_
        refine lstepB rfl rfl rfl (run_indexAddr (.tmp rfl) (.tmp rfl) el23 (by omega) rfl) ?_
        refine lstepB rfl rfl rfl (run_loadN_at (l := [.int .i64 (ia : Int), .int .i64 (ib : Int), .int .i64 xlo, .int .i64 xhi]) (.tmp rfl) kd65 sz65 rfl (fun w hS j v hj => hS.old_cell (fun h => h) (cl j v hj))) ?_
        refine lstep rfl rfl rfl (run_alloc zr65) ?_
        intro b8 _
        refine lstep0 rfl rfl (run_storeN (.tmp rfl) (.tmp rfl) rfl sz65 rfl (by repeat (first | exact Upd.here | apply Upd.there)) (by repeat (first | exact Put.done | apply Put.put | apply Put.skip))) ?_
        refine lnil ?_
        refine xw_then ?_
        refine cw_seq ?_
        refine cw_seq ?_
        refine cw_region ?_
        refine lstepB rfl rfl rfl (run_move (.tmp rfl)) ?_
        refine lstepB rfl rfl rfl (run_move (.tmp rfl)) ?_
        refine lstepB rfl rfl rfl (run_call1 cb48 (.cons (.tmp rfl) (.cons (.tmp rfl) .nil)) (fun w _ => (hasK set k hset1 (by omega) w).as (congrArg Value.bool hb))) ?_
        refine lstepB rfl rfl rfl (run_not (.tmp rfl) (by first | exact Bool.not_true | exact Bool.not_false | exact rfl)) ?_
        refine lstepB rfl rfl rfl (run_move (.tmp rfl)) ?_
        refine lyes rfl rfl rfl rfl ?_
        refine gstepB rfl rfl (run_fieldAddr (.tmp rfl) fa65_0 (by first | exact Nat.zero_add _ | exact rfl)) ?_
        refine lyes rfl rfl rfl rfl ?_
        refine gstepB rfl rfl (run_load1 (.tmp rfl) kd3 (by repeat (first | exact List.Mem.head _ | apply List.Mem.tail)) (by exact rfl)) ?_
        refine lyes rfl rfl rfl rfl ?_
        refine gstepB rfl rfl (run_move (.tmp rfl)) ?_
        refine lyes rfl rfl rfl rfl ?_
        refine gstepB rfl rfl (run_len (.tmp rfl) sl46) ?_
        refine lyes rfl rfl rfl rfl ?_
        refine gstepB rfl rfl (run_geq (.tmp rfl) (.tmp rfl) (by first | exact decide_eq_true (by omega) | exact decide_eq_false (by omega) | exact rfl)) ?_
        refine lstepB rfl rfl rfl (by first | exact run_pick_true (.tmp rfl) .const | exact run_pick_false (.tmp rfl) (.tmp rfl)) ?_
        refine lstepB rfl rfl rfl (run_move (.tmp rfl)) ?_
        refine lskip rfl rfl rfl rfl rfl rfl rfl ?_
        refine lskip rfl rfl rfl rfl rfl rfl rfl ?_
        refine lskip rfl rfl rfl rfl rfl rfl rfl ?_
        refine lskip rfl rfl rfl rfl rfl rfl rfl ?_
        refine lskip rfl rfl rfl rfl rfl rfl rfl ?_
        refine lstepB rfl rfl rfl (by first | exact run_pick_true (.tmp rfl) .const | exact run_pick_false (.tmp rfl) (.tmp rfl)) ?_
        refine lnil ?_
        refine xw_then ?_
        refine cw_cond_true (.tmp rfl) ?_
        refine cw_exit ?_
        refine xw_then_exit ?_
        refine xw_in_exit ?_
        refine xw_then ?_
        refine cw_region ?_
        refine lstepB rfl rfl rfl (run_move (.tmp rfl)) ?_
        refine lstepB rfl rfl rfl (run_add (.tmp rfl) .const (by first | exact IntWalk.i64_in _ (by omega) | exact rfl)) ?_
        refine lstepB rfl rfl rfl (run_assign (.tmp rfl)) ?_
        refine lnil ?_
        exact xw_round (k + 1) ⟨by omega, upto_succ hall (by rw [hset, lenGood]; simp only; rw [decide_eq_true ha]; simp)⟩ (by omega) (by repeat (first | exact Less.nil | refine Less.cons rfl ?_)) (by repeat (first | exact Pick.nil | (apply Pick.cons; focus (repeat (first | exact Del.here | apply Del.there)))))
      ·
        by_cases hb2 : (L.length : Int) ≤ (ib : Int)
        ·
          refine cw_skip ?_
          refine xw_then ?_
          refine cw_seq ?_
          refine cw_block ?_
          refine cw_seq ?_
          refine cw_region ?_
          refine lstepB rfl rfl rfl (run_fieldAddr (.tmp rfl) fa25_2 (by first | exact Nat.zero_add _ | exact rfl)) ?_
          refine lstepB rfl rfl rfl (run_load1 (.tmp rfl) kd23 (by repeat (first | exact List.Mem.head _ | apply List.Mem.tail)) (by exact rfl)) ?_
          refine lstepB rfl rfl rfl (run_move (.tmp rfl)) ?_
          refine lstepB rfl rfl rfl (run_indexAddr (.tmp rfl) (.tmp rfl) el23 (by omega) rfl) ?_
          refine lstepB rfl rfl rfl (run_loadN_at (l := [.int .i64 (ia : Int), .int .i64 (ib : Int), .int .i64 xlo, .int .i64 xhi]) (.tmp rfl) kd65 sz65 rfl (fun w hS j v hj => hS.old_cell (fun h => h) (cl j v hj))) ?_
          refine lstep rfl rfl rfl (run_alloc zr65) ?_
          intro b8 _
          refine lstep0 rfl rfl (run_storeN (.tmp rfl) (.tmp rfl) rfl sz65 rfl (by repeat (first | exact Upd.here | apply Upd.there)) (by repeat (first | exact Put.done | apply Put.put | apply Put.skip))) ?_
          refine lnil ?_
          refine xw_then ?_
          refine cw_seq ?_
          refine cw_seq ?_
          refine cw_region ?_
          refine lstepB rfl rfl rfl (run_move (.tmp rfl)) ?_
          refine lstepB rfl rfl rfl (run_move (.tmp rfl)) ?_
          refine lstepB rfl rfl rfl (run_call1 cb48 (.cons (.tmp rfl) (.cons (.tmp rfl) .nil)) (fun w _ => (hasK set k hset1 (by omega) w).as (congrArg Value.bool hb))) ?_
          refine lstepB rfl rfl rfl (run_not (.tmp rfl) (by first | exact Bool.not_true | exact Bool.not_false | exact rfl)) ?_
          refine lstepB rfl rfl rfl (run_move (.tmp rfl)) ?_
          refine lyes rfl rfl rfl rfl ?_
          refine gstepB rfl rfl (run_fieldAddr (.tmp rfl) fa65_0 (by first | exact Nat.zero_add _ | exact rfl)) ?_
          refine lyes rfl rfl rfl rfl ?_
          refine gstepB rfl rfl (run_load1 (.tmp rfl) kd3 (by repeat (first | exact List.Mem.head _ | apply List.Mem.tail)) (by exact rfl)) ?_
          refine lyes rfl rfl rfl rfl ?_
          refine gstepB rfl rfl (run_move (.tmp rfl)) ?_
          refine lyes rfl rfl rfl rfl ?_
          refine gstepB rfl rfl (run_len (.tmp rfl) sl46) ?_
          refine lyes rfl rfl rfl rfl ?_
          refine gstepB rfl rfl (run_geq (.tmp rfl) (.tmp rfl) (by first | exact decide_eq_true (by omega) | exact decide_eq_false (by omega) | exact rfl)) ?_
          refine lstepB rfl rfl rfl (by first | exact run_pick_true (.tmp rfl) .const | exact run_pick_false (.tmp rfl) (.tmp rfl)) ?_
          refine lstepB rfl rfl rfl (run_move (.tmp rfl)) ?_
          refine lyes rfl rfl rfl rfl ?_
          refine gstepB rfl rfl (run_fieldAddr (.tmp rfl) fa65_1 (by first | exact Nat.zero_add _ | exact rfl)) ?_
          refine lyes rfl rfl rfl rfl ?_
          refine gstepB rfl rfl (run_load1 (.tmp rfl) kd3 (by repeat (first | exact List.Mem.head _ | apply List.Mem.tail)) (by exact rfl)) ?_
          refine lyes rfl rfl rfl rfl ?_
          refine gstepB rfl rfl (run_move (.tmp rfl)) ?_
          refine lyes rfl rfl rfl rfl ?_
          refine gstepB rfl rfl (run_len (.tmp rfl) sl46) ?_
          refine lyes rfl rfl rfl rfl ?_
          refine gstepB rfl rfl (run_geq (.tmp rfl) (.tmp rfl) (by first | exact decide_eq_true (by omega) | exact decide_eq_false (by omega) | exact rfl)) ?_
          refine lstepB rfl rfl rfl (by first | exact run_pick_true (.tmp rfl) .const | exact run_pick_false (.tmp rfl) (.tmp rfl)) ?_
          refine lnil ?_
          refine xw_then ?_
          refine cw_cond_true (.tmp rfl) ?_
          refine cw_exit ?_
          refine xw_then_exit ?_
          refine xw_in_exit ?_
          refine xw_then ?_
          refine cw_region ?_
          refine lstepB rfl rfl rfl (run_move (.tmp rfl)) ?_
          refine lstepB rfl rfl rfl (run_add (.tmp rfl) .const (by first | exact IntWalk.i64_in _ (by omega) | exact rfl)) ?_
          refine lstepB rfl rfl rfl (run_assign (.tmp rfl)) ?_
          refine lnil ?_
          exact xw_round (k + 1) ⟨by omega, upto_succ hall (by rw [hset, lenGood]; simp only; rw [decide_eq_true hb2]; simp)⟩ (by omega) (by repeat (first | exact Less.nil | refine Less.cons rfl ?_)) (by repeat (first | exact Pick.nil | (apply Pick.cons; focus (repeat (first | exact Del.here | apply Del.there)))))
        ·
          refine cw_skip ?_
          refine xw_then ?_
          refine cw_seq ?_
          refine cw_block ?_
          refine cw_seq ?_
          refine cw_region ?_
          refine lstepB rfl rfl rfl (run_fieldAddr (.tmp rfl) fa25_2 (by first | exact Nat.zero_add _ | exact rfl)) ?_
          refine lstepB rfl rfl rfl (run_load1 (.tmp rfl) kd23 (by repeat (first | exact List.Mem.head _ | apply List.Mem.tail)) (by exact rfl)) ?_
          refine lstepB rfl rfl rfl (run_move (.tmp rfl)) ?_
          refine lstepB rfl rfl rfl (run_indexAddr (.tmp rfl) (.tmp rfl) el23 (by omega) rfl) ?_
          refine lstepB rfl rfl rfl (run_loadN_at (l := [.int .i64 (ia : Int), .int .i64 (ib : Int), .int .i64 xlo, .int .i64 xhi]) (.tmp rfl) kd65 sz65 rfl (fun w hS j v hj => hS.old_cell (fun h => h) (cl j v hj))) ?_
          refine lstep rfl rfl rfl (run_alloc zr65) ?_
          intro b8 _
          refine lstep0 rfl rfl (run_storeN (.tmp rfl) (.tmp rfl) rfl sz65 rfl (by repeat (first | exact Upd.here | apply Upd.there)) (by repeat (first | exact Put.done | apply Put.put | apply Put.skip))) ?_
          refine lnil ?_
          refine xw_then ?_
          refine cw_seq ?_
          refine cw_seq ?_
          refine cw_region ?_
          refine lstepB rfl rfl rfl (run_move (.tmp rfl)) ?_
          refine lstepB rfl rfl rfl (run_move (.tmp rfl)) ?_
          refine lstepB rfl rfl rfl (run_call1 cb48 (.cons (.tmp rfl) (.cons (.tmp rfl) .nil)) (fun w _ => (hasK set k hset1 (by omega) w).as (congrArg Value.bool hb))) ?_
          refine lstepB rfl rfl rfl (run_not (.tmp rfl) (by first | exact Bool.not_true | exact Bool.not_false | exact rfl)) ?_
          refine lstepB rfl rfl rfl (run_move (.tmp rfl)) ?_
          refine lyes rfl rfl rfl rfl ?_
          refine gstepB rfl rfl (run_fieldAddr (.tmp rfl) fa65_0 (by first | exact Nat.zero_add _ | exact rfl)) ?_
          refine lyes rfl rfl rfl rfl ?_
          refine gstepB rfl rfl (run_load1 (.tmp rfl) kd3 (by repeat (first | exact List.Mem.head _ | apply List.Mem.tail)) (by exact rfl)) ?_
          refine lyes rfl rfl rfl rfl ?_
          refine gstepB rfl rfl (run_move (.tmp rfl)) ?_
          refine lyes rfl rfl rfl rfl ?_
          refine gstepB rfl rfl (run_len (.tmp rfl) sl46) ?_
          refine lyes rfl rfl rfl rfl ?_
          refine gstepB rfl rfl (run_geq (.tmp rfl) (.tmp rfl) (by first | exact decide_eq_true (by omega) | exact decide_eq_false (by omega) | exact rfl)) ?_
          refine lstepB rfl rfl rfl (by first | exact run_pick_true (.tmp rfl) .const | exact run_pick_false (.tmp rfl) (.tmp rfl)) ?_
          refine lstepB rfl rfl rfl (run_move (.tmp rfl)) ?_
          refine lyes rfl rfl rfl rfl ?_
          refine gstepB rfl rfl (run_fieldAddr (.tmp rfl) fa65_1 (by first | exact Nat.zero_add _ | exact rfl)) ?_
          refine lyes rfl rfl rfl rfl ?_
          refine gstepB rfl rfl (run_load1 (.tmp rfl) kd3 (by repeat (first | exact List.Mem.head _ | apply List.Mem.tail)) (by exact rfl)) ?_
          refine lyes rfl rfl rfl rfl ?_
          refine gstepB rfl rfl (run_move (.tmp rfl)) ?_
          refine lyes rfl rfl rfl rfl ?_
          refine gstepB rfl rfl (run_len (.tmp rfl) sl46) ?_
          refine lyes rfl rfl rfl rfl ?_
          refine gstepB rfl rfl (run_geq (.tmp rfl) (.tmp rfl) (by first | exact decide_eq_true (by omega) | exact decide_eq_false (by omega) | exact rfl)) ?_
          refine lstepB rfl rfl rfl (by first | exact run_pick_true (.tmp rfl) .const | exact run_pick_false (.tmp rfl) (.tmp rfl)) ?_
          refine lnil ?_
          refine xw_then ?_
          refine cw_cond_false (.tmp rfl) ?_
          refine cw_skip ?_
          refine xw_then ?_
          refine cw_seq ?_
          obtain ⟨s, hs⟩ : ∃ s, L[ia]? = some s := ⟨_, List.getElem?_eq_getElem (by omega)⟩
          obtain ⟨t, ht⟩ : ∃ s, L[ib]? = some s := ⟨_, List.getElem?_eq_getElem (by omega)⟩
          obtain ⟨s1, s2, s3, s4⟩ := hL _ (List.mem_of_getElem? hs)
          obtain ⟨t1, t2, t3, t4⟩ := hL _ (List.mem_of_getElem? ht)
          have m1 := mulBd (x := xlo) (y := xlo) (m := 30) (by omega) (by omega) (by omega) (by omega)
          have m2 := mulBd (x := xhi) (y := xhi) (m := 30) (by omega) (by omega) (by omega) (by omega)
          obtain ⟨rb, ro, rfl, hrb, hRs⟩ := hr.at_ (by omega)
          have c1 := hRs ia _ hs
          have c2 := hRs ib _ ht
          clear hRs
          have hgood := lenGood_in (lo := xlo) (hi := xhi) hs ht
          refine cw_chain2 (σ := [0, 1, 2, 3, 4, 5, 6, 7, 8, 9, 10, 11, 12, 13, 14, 15, 16, 17, 18, 19, 20, 21, 22, 23, 24, 25, 26]) [⟨0, [], [], [], 0⟩, ⟨0, [], [], [], 0⟩, ⟨0, [0], [], [], 2⟩, ⟨0, [], [], [], 7⟩, ⟨0, [], [], [], 15⟩, ⟨0, [], [], [], 0⟩, ⟨0, [], [], [], 0⟩, ⟨0, [0], [], [], 64⟩, ⟨0, [], [], [], 224⟩, ⟨0, [], [], [], 480⟩, ⟨0, [], [], [], 1023⟩, ⟨0, [], [], [], 0⟩, ⟨0, [], [], [], 2048⟩, ⟨0, [0], [], [], 6144⟩, ⟨0, [], [], [], 0⟩, ⟨0, [], [], [], 16384⟩, ⟨0, [0], [], [], 49152⟩, ⟨0, [], [], [], 129024⟩, ⟨0, [], [], [], 0⟩, ⟨0, [], [], [], 262144⟩, ⟨0, [0], [], [], 786432⟩, ⟨0, [], [], [], 0⟩, ⟨0, [], [], [], 2097152⟩, ⟨0, [0], [], [], 6291456⟩, ⟨0, [], [], [], 16515072⟩, ⟨0, [], [], [], 33554431⟩, ⟨0, [], [], [], 67108863⟩] [(0, _), (1, _)] (by kernel_rfl) (by kernel_rfl) rfl ?_
          refine .det (B := []) rfl rfl (.inl rfl) .nil .nil rfl (RunB.lr (run_move (.tmp rfl))) ?_
          refine .det (B := []) rfl rfl (.inl rfl) .nil .nil rfl (RunB.lr (run_fieldAddr (.tmp rfl) fa65_0 (by first | exact Nat.zero_add _ | exact rfl))) ?_
          refine .det (B := []) rfl rfl (.inl rfl) (.cons rfl .nil) .nil rfl (RunB.lr (run_load1 (.tmp rfl) kd3 (by repeat (first | exact List.Mem.head _ | apply List.Mem.tail)) (by exact rfl))) ?_
          refine .det (B := []) rfl rfl (.inl rfl) .nil .nil rfl (RunB.lr (run_indexAddr (.tmp rfl) (.tmp rfl) el46 (by omega) rfl)) ?_
          refine .det (B := []) rfl rfl (.inl rfl) .nil .nil rfl (RunB.lr (run_loadN_at (l := [.int .i64 s.x, .int .i64 s.y]) (.tmp rfl) kd52 sz52 rfl (fun w hS j v hj => hS.old_cell (fun h => h) (c1 j v hj)))) ?_
          refine .det (B := []) rfl rfl (.inl rfl) .nil .nil rfl (RunB.lr (run_move (.tmp rfl))) ?_
          refine .det (B := []) rfl rfl (.inl rfl) .nil .nil rfl (RunB.lr (run_fieldAddr (.tmp rfl) fa65_1 (by first | exact Nat.zero_add _ | exact rfl))) ?_
          refine .det (B := []) rfl rfl (.inl rfl) (.cons rfl .nil) .nil rfl (RunB.lr (run_load1 (.tmp rfl) kd3 (by repeat (first | exact List.Mem.head _ | apply List.Mem.tail)) (by exact rfl))) ?_
          refine .det (B := []) rfl rfl (.inl rfl) .nil .nil rfl (RunB.lr (run_indexAddr (.tmp rfl) (.tmp rfl) el46 (by omega) rfl)) ?_
          refine .det (B := []) rfl rfl (.inl rfl) .nil .nil rfl (RunB.lr (run_loadN_at (l := [.int .i64 t.x, .int .i64 t.y]) (.tmp rfl) kd52 sz52 rfl (fun w hS j v hj => hS.old_cell (fun h => h) (c2 j v hj)))) ?_
          refine .det (B := []) rfl rfl (.inl rfl) .nil .nil rfl (RunB.lr (run_call1 cb33 (.cons (.tmp rfl) (.cons (.tmp rfl) .nil)) (fun w _ => square_any s.x s.y t.x t.y (by omega) (by omega) (by omega) (by omega) w))) ?_
          refine .det (B := []) rfl rfl (.inl rfl) .nil .nil rfl (RunB.lr (run_fieldAddr (.tmp rfl) fa65_2 (by first | exact Nat.zero_add _ | exact rfl))) ?_
          refine .det (B := []) rfl rfl (.inl rfl) .nil .nil rfl (RunB.lr (run_fieldAddr (.tmp rfl) fa32_0 (by first | exact Nat.zero_add _ | exact rfl))) ?_
          refine .det (B := []) rfl rfl (.inl rfl) (.cons rfl .nil) .nil rfl (RunB.lr (run_load1 (.tmp rfl) kd3 (by repeat (first | exact List.Mem.head _ | apply List.Mem.tail)) (by exact rfl))) ?_
          refine .det (B := []) rfl rfl (.inl rfl) .nil .nil rfl (RunB.lr (run_fieldAddr (.tmp rfl) fa65_2 (by first | exact Nat.zero_add _ | exact rfl))) ?_
          refine .det (B := []) rfl rfl (.inl rfl) .nil .nil rfl (RunB.lr (run_fieldAddr (.tmp rfl) fa32_0 (by first | exact Nat.zero_add _ | exact rfl))) ?_
          refine .det (B := []) rfl rfl (.inl rfl) (.cons rfl .nil) .nil rfl (RunB.lr (run_load1 (.tmp rfl) kd3 (by repeat (first | exact List.Mem.head _ | apply List.Mem.tail)) (by exact rfl))) ?_
          refine .det (B := []) rfl rfl (.inl rfl) .nil .nil rfl (RunB.lr (run_mul (.tmp rfl) (.tmp rfl) (by first | exact IntWalk.i64_in _ (by omega) | exact rfl))) ?_
          refine .det (B := []) rfl rfl (.inl rfl) .nil .nil rfl (RunB.lr (run_fieldAddr (.tmp rfl) fa65_2 (by first | exact Nat.zero_add _ | exact rfl))) ?_
          refine .det (B := []) rfl rfl (.inl rfl) .nil .nil rfl (RunB.lr (run_fieldAddr (.tmp rfl) fa32_1 (by first | exact Nat.zero_add _ | exact rfl))) ?_
          refine .det (B := []) rfl rfl (.inl rfl) (.cons rfl .nil) .nil rfl (RunB.lr (run_load1 (.tmp rfl) kd3 (by repeat (first | exact List.Mem.head _ | apply List.Mem.tail)) (by exact rfl))) ?_
          refine .det (B := []) rfl rfl (.inl rfl) .nil .nil rfl (RunB.lr (run_fieldAddr (.tmp rfl) fa65_2 (by first | exact Nat.zero_add _ | exact rfl))) ?_
          refine .det (B := []) rfl rfl (.inl rfl) .nil .nil rfl (RunB.lr (run_fieldAddr (.tmp rfl) fa32_1 (by first | exact Nat.zero_add _ | exact rfl))) ?_
          refine .det (B := []) rfl rfl (.inl rfl) (.cons rfl .nil) .nil rfl (RunB.lr (run_load1 (.tmp rfl) kd3 (by repeat (first | exact List.Mem.head _ | apply List.Mem.tail)) (by exact rfl))) ?_
          refine .det (B := []) rfl rfl (.inl rfl) .nil .nil rfl (RunB.lr (run_mul (.tmp rfl) (.tmp rfl) (by first | exact IntWalk.i64_in _ (by omega) | exact rfl))) ?_
          refine .det (B := []) rfl rfl (.inl rfl) .nil .nil rfl (RunB.lr (run_call1 cb73 (.cons (.tmp rfl) (.cons (.tmp rfl) (.cons (.tmp rfl) .nil))) (fun w _ => rinK _ _ _ w))) ?_
          refine .det (B := []) rfl rfl (.inl rfl) .nil .nil rfl (RunB.lr (run_not (.tmp rfl) (by first | exact Bool.not_true | exact Bool.not_false | exact rfl))) ?_
          refine chain_nil (ts := [0, 1]) (.cons rfl (.cons rfl .nil)) (by decide) ?_
          refine xw_then ?_
          refine cw_cond (.tmp rfl) (fun hbad => ?_) (fun hok => ?_)
          ·
            refine cw_seq ?_
            refine cw_region ?_
            refine lstepB rfl rfl rfl (run_assign .const) ?_
            refine lnil ?_
            refine xw_then ?_
            refine cw_ret ?_
            refine xw_in_ret ?_
            refine xw_then_ret ?_
            refine xw_then_ret ?_
            refine xw_in_ret ?_
            refine xw_then_ret ?_
            refine xw_ret1 Try.results102 rfl (fun w hS => ⟨?_, hS.kept⟩)
            have hbad' := hbad
            simp only [Bool.not_eq_true'] at hbad'
            rw [rightS_no hkl (by rw [hset, hb, hgood, hbad']; rfl)]
          ·
            refine cw_skip ?_
            refine xw_in ?_
            refine xw_then ?_
            refine cw_region ?_
            refine lstepB rfl rfl rfl (run_move (.tmp rfl)) ?_
            refine lstepB rfl rfl rfl (run_add (.tmp rfl) .const (by first | exact IntWalk.i64_in _ (by omega) | exact rfl)) ?_
            refine lstepB rfl rfl rfl (run_assign (.tmp rfl)) ?_
            refine lnil ?_
            exact xw_round (k + 1) ⟨by omega, upto_succ hall (by rw [hset, hgood]; simp only [Bool.not_eq_false'] at hok; rw [hok]; simp)⟩ (by omega) (by repeat (first | exact Less.nil | refine Less.cons rfl ?_)) (by repeat (first | exact Pick.nil | (apply Pick.cons; focus (repeat (first | exact Del.here | apply Del.there)))))
  ·
    refine cw_exit ?_
    refine xw_then_exit ?_
    refine xw_then_exit ?_
    refine xw_in_exit ?_
    refine xw_then ?_
    refine cw_seq ?_
    refine cw_region ?_
    refine lstepB rfl rfl rfl (run_assign .const) ?_
    refine lnil ?_
    refine xw_then ?_
    refine cw_ret ?_
    refine xw_ret1 Try.results102 rfl (fun w hS => ⟨?_, hS.kept⟩)
    have hge2 : ¬ (k : Int) < (ls.length : Int) := hge
    rw [rightS_of fun j hj => hall j (by omega)]
end Go.Proofs.Ytkjciobphbcknaa
