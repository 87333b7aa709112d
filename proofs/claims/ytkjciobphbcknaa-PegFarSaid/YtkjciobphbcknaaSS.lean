/- PegStands: its walk. -/
import Derived.Test.YtkjciobphbcknaaSF
import Derived.Test.YtkjciobphbcknaaAP
namespace Go.Proofs.Ytkjciobphbcknaa
open Go.RowKit En

theorem isPegB_iff {n : Nat} {i : Int} : isPegB n i = true ↔ 0 ≤ i ∧ i < n := by simp [isPegB]
theorem moved_err {p : PegsD} {m : Int} (h : openR p true = .error m) : movedR p = .error m ∧ m ≠ 0 := by
  rcases openR_arg h with ⟨hv, rfl⟩ | ⟨_, hv, _⟩ | ⟨hv, _, he, rfl⟩
  · exact ⟨by simp [movedR, hv], by decide⟩
  · cases hv
  · exact ⟨by rw [movedR, if_neg (by simp [hv]), if_pos ((allF_nil (fit_of_valid hv)).1 he)], by decide⟩
theorem where_err {p : PegsD} {i m : Int} (h : openR p (isPegB p.ps.length i) = .error m) : whereR p i = .error m ∧ m ≠ 0 := by
  rcases openR_arg h with ⟨hv, rfl⟩ | ⟨hv, hb, rfl⟩ | ⟨hv, hb, he, rfl⟩
  · exact ⟨by rw [whereR, checkR_arg hv], by decide⟩
  · exact ⟨by rw [whereR, checkR_bad hv (i := i) (by simp) (fun hc => by rw [isPegB_iff.2 hc] at hb; cases hb)], by decide⟩
  · obtain ⟨b1, b2⟩ := isPegB_iff.1 hb
    exact ⟨by rw [whereR, checkR_in hv b1 b2]; simp only; rw [if_pos ((allF_nil (fit_of_valid hv)).1 he)], by decide⟩
theorem places_err {p : PegsD} {i m : Int} (h : openR p (isPegB p.ps.length i) = .error m) : placesR p i = .error m ∧ m ≠ 0 := by
  rcases openR_arg h with ⟨hv, rfl⟩ | ⟨hv, hb, rfl⟩ | ⟨hv, hb, he, rfl⟩
  · exact ⟨by rw [placesR, checkR_arg hv], by decide⟩
  · exact ⟨by rw [placesR, checkR_bad hv (i := i) (by simp) (fun hc => by rw [isPegB_iff.2 hc] at hb; cases hb)], by decide⟩
  · obtain ⟨b1, b2⟩ := isPegB_iff.1 hb
    exact ⟨by rw [placesR, checkR_in hv b1 b2]; simp only; rw [if_pos ((allF_nil (fit_of_valid hv)).1 he)], by decide⟩
theorem back_err {p : PegsD} {i m : Int} (h : openR p (isPegB p.ps.length i) = .error m) : backR p i = .error m ∧ m ≠ 0 := by
  rcases openR_arg h with ⟨hv, rfl⟩ | ⟨hv, hb, rfl⟩ | ⟨hv, hb, he, rfl⟩
  · exact ⟨by rw [backR, checkR_arg hv], by decide⟩
  · exact ⟨by rw [backR, checkR_bad hv (i := i) (by simp) (fun hc => by rw [isPegB_iff.2 hc] at hb; cases hb)], by decide⟩
  · obtain ⟨b1, b2⟩ := isPegB_iff.1 hb
    exact ⟨by rw [backR, checkR_in hv b1 b2]; simp only; rw [if_pos ((allF_nil (fit_of_valid hv)).1 he)], by decide⟩
theorem apart_err {p : PegsD} {i j m : Int} (h : openR p (isPegB p.ps.length i && isPegB p.ps.length j) = .error m) : apartR p i j = .error m ∧ m ≠ 0 := by
  rcases openR_arg h with ⟨hv, rfl⟩ | ⟨hv, hb, rfl⟩ | ⟨hv, hb, he, rfl⟩
  · exact ⟨by rw [apartR, checkR_arg hv], by decide⟩
  · refine ⟨?_, by decide⟩
    rw [apartR]
    by_cases hi : isPegB p.ps.length i = true
    · rw [hi, Bool.true_and] at hb
      rw [checkR_bad hv (i := j) (by simp) (fun hc => by rw [isPegB_iff.2 hc] at hb; cases hb)]
    · rw [checkR_bad hv (i := i) (by simp) (fun hc => hi (isPegB_iff.2 hc))]
  · rw [Bool.and_eq_true] at hb
    obtain ⟨b1, b2⟩ := isPegB_iff.1 hb.1
    obtain ⟨b3, b4⟩ := isPegB_iff.1 hb.2
    exact ⟨by rw [apartR, checkR_ok hv (fun x hx => by simp at hx; rcases hx with rfl | rfl <;> exact ⟨by assumption, by assumption⟩)]; simp only; rw [endsR, if_pos ((allF_nil (fit_of_valid hv)).1 he)], by decide⟩
/-- Are these three pegs? -/
def threeB (n : Nat) (i j k : Int) : Bool := isPegB n i && isPegB n j && isPegB n k && !decide (i = j) && !decide (i = k) && !decide (j = k)
theorem area_err {p : PegsD} {i j k m : Int} (h : openR p (threeB p.ps.length i j k) = .error m) : areaR p i j k = .error m ∧ m ≠ 0 := by
  rcases openR_arg h with ⟨hv, rfl⟩ | ⟨hv, hb, rfl⟩ | ⟨hv, hb, he, rfl⟩
  · exact ⟨by rw [areaR, checkR_arg hv], by decide⟩
  · refine ⟨?_, by decide⟩
    rw [areaR]
    by_cases hi : isPegB p.ps.length i = true
    · by_cases hj : isPegB p.ps.length j = true
      · by_cases hk : isPegB p.ps.length k = true
        · rw [checkR_ok hv (fun x hx => by simp at hx; rcases hx with rfl | rfl | rfl <;> exact isPegB_iff.1 (by assumption))]
          simp only
          rw [if_pos]
          simp only [threeB, hi, hj, hk, Bool.true_and, Bool.and_eq_false_iff, Bool.not_eq_false', decide_eq_true_eq] at hb
          omega
        · rw [checkR_bad hv (i := k) (by simp) (fun hc => hk (isPegB_iff.2 hc))]
      · rw [checkR_bad hv (i := j) (by simp) (fun hc => hj (isPegB_iff.2 hc))]
    · rw [checkR_bad hv (i := i) (by simp) (fun hc => hi (isPegB_iff.2 hc))]
  · simp only [threeB, Bool.and_eq_true, Bool.not_eq_true', decide_eq_false_iff_not] at hb
    obtain ⟨⟨⟨⟨⟨hi, hj⟩, hk⟩, d1⟩, d2⟩, d3⟩ := hb
    refine ⟨?_, by decide⟩
    rw [areaR, checkR_ok hv (fun x hx => by simp at hx; rcases hx with rfl | rfl | rfl <;> exact isPegB_iff.1 (by assumption))]
    simp only
    rw [if_neg (by omega), endsR, if_pos ((allF_nil (fit_of_valid hv)).1 he)]
theorem take_at {α : Type} {L : List α} {k : Nat} {x : α} (h : L[k]? = some x) : L.take (k + 1) = L.take k ++ [x] := by
  rw [List.take_add_one, h]; rfl
theorem first_eq {α : Type} (f : α → Int) (L : List α) {k : Nat} (hk : k < L.length) {e : EndsD} (he : e = endsG ((L.take k).map f)) : decide ((k : Int) = 0) = !e.some := by
  rw [he, endsG_some]
  by_cases h : k = 0
  · subst h; simp
  · have h1 : (L.take k).map f ≠ [] := by
      intro hc
      have := congrArg List.length hc
      simp only [List.length_map, List.length_take, List.length_nil] at this; omega
    rw [decide_eq_true h1, decide_eq_false (by omega)]; rfl
theorem endsG_at {α : Type} (f : α → Int) {L : List α} {k : Nat} {x : α} (h : L[k]? = some x) {e : EndsD} (he : e = endsG ((L.take k).map f)) : e.add (f x) = endsG ((L.take (k + 1)).map f) := by
  rw [take_at h, List.map_append, List.map_cons, List.map_nil, endsG_snoc, he]
structure MS where
  k : Nat
  s : Nat × Bool
theorem allF_range {p : PegsD} (hf : Fit p) {k : Nat} {x : List Pl × Int} (h : (allF p)[k]? = some x) : -1 ≤ x.2 ∧ x.2 < 4 ∧ x.1.length = p.ps.length ∧ ∀ s ∈ x.1, inField p.side s := by
  have hm := List.mem_of_getElem? h
  obtain ⟨a, b⟩ := allF_to hf hm
  have hn := hf.n4
  refine ⟨b.1, by have := b.2.1; omega, a, fun s hs => ?_⟩
  obtain ⟨i, hi, e⟩ := List.getElem_of_mem hs
  have := truth_field b (i := i) (by omega)
  rw [atL_get x.1 i (by omega), List.getD_eq_getElem?_getD, List.getElem?_eq_getElem hi, e] at this
  exact this
theorem mvF_take_lt {p : PegsD} (hf : Fit p) (k : Nat) : (mvF ((allF p).take k)).1 < 16 := (mvF_spec _ _ rfl fun x hx => by
  have hx' := List.mem_of_mem_take hx
  obtain ⟨i, hi, e⟩ := List.getElem_of_mem hx'
  have := allF_range hf (k := i) (x := x) (by rw [List.getElem?_eq_getElem hi, e])
  exact ⟨this.1, this.2.1⟩).1
structure WS where
  k : Nat
  e : EndsD
  e2 : EndsD

set_option maxRecDepth 100000 in
set_option maxHeartbeats 4000000 in
theorem movedRK {p : PegsD} {pa la : Option Addr} (pc lc : Nat) (hm : p.ps.length ≤ 9223372036854775807) (hm2 : p.ls.length ≤ 9223372036854775807) (h8 : validB p = true → p.side ≤ 8) (h3 : validB p = true → p.ps.length ≤ 3) (w : World) (hp : PegsIn w p pa la) :
    Gives Try.prog 14 [.agg [.int .i64 p.side, .slice pa p.ps.length pc, .slice la p.ls.length lc].toArray] w (.tuple [.int .i64 (valOf (0, 0, false) (movedR p)).2.1, .bool (valOf (0, 0, false) (movedR p)).2.2, .int .i64 (errOf (movedR p))].toArray) := by
  cases ho : openR p true with
  | error m =>
    obtain ⟨hR, hm0⟩ := moved_err ho
    rw [hR]
    refine .mk <| enter (n := 48) Try.func14 rfl rfl rfl (by repeat (first | exact Fill.nil | apply Fill.cons)) ?_
    refine cw_seq ?_
    refine cw_region ?_
    refine lstep rfl rfl rfl (run_boxN (.tmp rfl)) ?_
    intro b1 _
    refine lstepB rfl rfl rfl (run_assign .const) ?_
    refine lstepB rfl rfl rfl (run_assign .const) ?_
    refine lstepB rfl rfl rfl (run_assign .const) ?_
    refine lnil ?_
    refine xw_then ?_
    refine cw_seq ?_
    refine cw_region ?_
    refine lstepB rfl rfl rfl (run_loadN (.tmp rfl) kd25 sz25 (by repeat (first | exact List.Mem.head _ | apply List.Mem.tail)) (by repeat (first | exact Sub.done | apply Sub.take | apply Sub.skip))) ?_
    refine lstepB rfl rfl rfl (run_call1 cb47 (.cons (.tmp rfl) (.cons .const .nil)) (fun w' hS => openErr ho pc lc hm hm2 h8 h3 w' (hp.kept hS.kept))) ?_
    refine lstepB rfl rfl rfl (run_move (.tmp rfl)) ?_
    refine lstepB rfl rfl rfl (run_extract (.tmp rfl) rfl) ?_
    refine lstepB rfl rfl rfl (run_extract (.tmp rfl) rfl) ?_
    refine lstepB rfl rfl rfl (run_assign (.tmp rfl)) ?_
    refine lstepB rfl rfl rfl (run_assign (.tmp rfl)) ?_
    refine lnil ?_
    refine xw_then ?_
    refine cw_seq ?_
    refine cw_seq ?_
    refine cw_region ?_
    refine lstepB rfl rfl rfl (run_move (.tmp rfl)) ?_
    refine lstepB rfl rfl rfl (run_neq (.tmp rfl) .const (by first | exact decide_eq_true (by omega) | exact decide_eq_false (by omega) | exact rfl)) ?_
    refine lnil ?_
    refine xw_then ?_
    refine cw_cond_true (.tmp rfl) ?_
    refine cw_seq ?_
    refine cw_region ?_
    refine lstepB rfl rfl rfl (run_move (.tmp rfl)) ?_
    refine lstepB rfl rfl rfl (run_assign .const) ?_
    refine lstepB rfl rfl rfl (run_assign .const) ?_
    refine lstepB rfl rfl rfl (run_assign (.tmp rfl)) ?_
    refine lnil ?_
    refine xw_then ?_
    refine cw_ret ?_
    refine xw_then_ret ?_
    refine xw_ret3 Try.results14 rfl rfl rfl (fun w' hS => ⟨rfl, hS.kept⟩)
  | ok L =>
    obtain ⟨hv, _, rfl, hne⟩ := openR_ok ho
    have hf := fit_of_valid hv
    obtain ⟨A, hR⟩ := moved_eq hv hne
    have hlen : (allF p).length ≤ 1000000 := allS_len hf (h8 hv) (h3 hv) (fullN p)
    rw [hR]
    refine .mk <| enter (n := 48) Try.func14 rfl rfl rfl (by repeat (first | exact Fill.nil | apply Fill.cons)) ?_
    refine cw_seq ?_
    refine cw_region ?_
    refine lstep rfl rfl rfl (run_boxN (.tmp rfl)) ?_
    intro b1 _
    refine lstepB rfl rfl rfl (run_assign .const) ?_
    refine lstepB rfl rfl rfl (run_assign .const) ?_
    refine lstepB rfl rfl rfl (run_assign .const) ?_
    refine lnil ?_
    refine xw_then ?_
    refine cw_seq ?_
    refine cw_region ?_
    refine lstepB rfl rfl rfl (run_loadN (.tmp rfl) kd25 sz25 (by repeat (first | exact List.Mem.head _ | apply List.Mem.tail)) (by repeat (first | exact Sub.done | apply Sub.take | apply Sub.skip))) ?_
    refine lcall_base (F := fun (s : Option Addr × Nat) w' => ∃ lo, TruthsIn lo w' s.1 (allF p)) (r := fun s => .tuple #[.slice s.1 (allF p).length s.2, .int .i64 0]) rfl rfl cb47 (.cons (.tmp rfl) (.cons .const .nil)) (fun w' hS => (openOk ho pc lc hm hm2 h8 h3 w' (hp.kept hS.kept)).mono fun e w2 ⟨s, h1, h2, h3⟩ => ⟨s, ⟨_, h1⟩, h2, below_two hS.kept (below_two (w1 := w2) ⟨h3.os, h3.tape, h3.output, h3.size, h3.block⟩ (Below.refl _ _))⟩) ?_
    rintro ⟨oa, oc⟩ w1 ⟨lo, ht⟩ hB
    refine lstepB rfl rfl rfl (run_move (.tmp rfl)) ?_
    refine lstepB rfl rfl rfl (run_extract (.tmp rfl) rfl) ?_
    refine lstepB rfl rfl rfl (run_extract (.tmp rfl) rfl) ?_
    refine lstepB rfl rfl rfl (run_assign (.tmp rfl)) ?_
    refine lstepB rfl rfl rfl (run_assign (.tmp rfl)) ?_
    refine lnil ?_
    refine xw_then ?_
    refine cw_seq ?_
    refine cw_seq ?_
    refine cw_region ?_
    refine lstepB rfl rfl rfl (run_move (.tmp rfl)) ?_
    refine lstepB rfl rfl rfl (run_neq (.tmp rfl) .const (by first | exact decide_eq_true (by omega) | exact decide_eq_false (by omega) | exact rfl)) ?_
    refine lnil ?_
    refine xw_then ?_
    refine cw_cond_false (.tmp rfl) ?_
    refine cw_skip ?_
    refine xw_then ?_
    refine cw_seq ?_
    refine cw_region ?_
    refine lstepB rfl rfl rfl (run_assign .const) ?_
    refine lstepB rfl rfl rfl (run_assign .const) ?_
    refine lnil ?_
    refine xw_then ?_
    refine cw_seq ?_
    refine cw_seq ?_
    refine cw_region ?_
    refine lstepB rfl rfl rfl (run_assign .const) ?_
    refine lnil ?_
    refine xw_then ?_
    refine cw_block ?_
    refine cw_loop (S := MS) (fun z => [(7, .int .i64 (z.s.1 : Int)), (8, .bool z.s.2), (9, .int .i64 (z.k : Int))]) [(2, _), (3, _), (4, _), (5, _)] (fun z => []) (fun z => z.s = mvF ((allF p).take z.k) ∧ z.k ≤ (allF p).length) (fun z => (allF p).length - z.k) ⟨0, 0, false⟩ ⟨rfl, Nat.zero_le _⟩ (by repeat (first | exact Less.nil | refine Less.cons rfl ?_)) (by repeat (first | exact Pick.nil | (apply Pick.cons; focus (repeat (first | exact Del.here | apply Del.there))))) ?_
    intro z hz
    obtain ⟨k, S, B⟩ := z
    obtain ⟨hs, hk⟩ := hz
    simp only at hs hk
    try dsimp only
    refine cw_seq ?_
    refine cw_seq ?_
    refine cw_region ?_
    refine lstepB rfl rfl rfl (run_move (.tmp rfl)) ?_
    refine lstepB rfl rfl rfl (run_move (.tmp rfl)) ?_
    refine lstepB rfl rfl rfl (run_len (.tmp rfl) sl80) ?_
    refine lstepB rfl rfl rfl (run_lss (.tmp rfl) (.tmp rfl) (by first | exact decide_eq_true (by omega) | exact decide_eq_false (by omega) | exact rfl)) ?_
    refine lnil ?_
    refine xw_then ?_
    refine cw_cond_p (.tmp rfl) (fun hlt => ?_) (fun hge => ?_)
    ·
      have hlt' : (k : Int) < ((allF p).length : Int) := hlt
      have hkl : k < (allF p).length := by omega
      obtain ⟨⟨l, mv⟩, hx⟩ : ∃ x, (allF p)[k]? = some x := ⟨_, List.getElem?_eq_getElem hkl⟩
      obtain ⟨b, qa, c, rfl, hb, c1, c2, hq⟩ := ht k _ hx
      obtain ⟨r1, r2, _, _⟩ := allF_range hf hx
      simp only at r1 r2
      have hlt16 := mvF_take_lt hf k
      rw [← hs] at hlt16
      simp only at hlt16
      have hstep : mvF ((allF p).take (k + 1)) = mvStep (S, B) mv := by rw [take_at hx, mvF_snoc, ← hs]
      by_cases hm1 : mv = -1
      ·
        refine cw_skip ?_
        refine xw_then ?_
        refine cw_seq ?_
        refine cw_block ?_
        refine cw_seq ?_
        refine cw_region ?_
        refine lstepB rfl rfl rfl (run_move (.tmp rfl)) ?_
        refine lstepB rfl rfl rfl (run_move (.tmp rfl)) ?_
        refine lstepB rfl rfl rfl (run_indexAddr (off' := k * 2) (.tmp rfl) (.tmp rfl) el80 (by omega) (Nat.zero_add _)) ?_
        refine lstepB rfl rfl rfl (run_fieldAddr (.tmp rfl) fa84_1 (by first | exact Nat.zero_add _ | exact rfl)) ?_
        refine lstepB rfl rfl rfl (run_load1_at (.tmp rfl) kd3 (fun w' hS => hS.old_cell (fun h => h) c2)) ?_
        refine lstepB rfl rfl rfl (run_eql (.tmp rfl) .const (by first | exact decide_eq_true (by omega) | exact decide_eq_false (by omega) | exact rfl)) ?_
        refine lnil ?_
        refine xw_then ?_
        refine cw_cond_true (.tmp rfl) ?_
        refine cw_region ?_
        refine lstepB rfl rfl rfl (run_assign .const) ?_
        refine lnil ?_
        refine xw_in ?_
        refine xw_then ?_
        refine cw_region ?_
        refine lstepB rfl rfl rfl (run_move (.tmp rfl)) ?_
        refine lstepB rfl rfl rfl (run_add (.tmp rfl) .const (by first | exact IntWalk.i64_in _ (by omega) | exact rfl)) ?_
        refine lstepB rfl rfl rfl (run_assign (.tmp rfl)) ?_
        refine lnil ?_
        exact xw_round ⟨k + 1, S, true⟩ ⟨by rw [hstep, mvStep, if_pos hm1], by simp only; omega⟩ (by simp only; omega) (by repeat (first | exact Less.nil | refine Less.cons rfl ?_)) (by repeat (first | exact Pick.nil | (apply Pick.cons; focus (repeat (first | exact Del.here | apply Del.there)))))
      ·
        obtain ⟨j, rfl⟩ := Int.eq_ofNat_of_zero_le (show 0 ≤ mv by omega)
        have hp2 := pow64 j (by omega)
        cases hbt : bitAt S j with
        | false =>
          refine cw_skip ?_
          refine xw_then ?_
          refine cw_seq ?_
          refine cw_block ?_
          refine cw_seq ?_
          refine cw_region ?_
          refine lstepB rfl rfl rfl (run_move (.tmp rfl)) ?_
          refine lstepB rfl rfl rfl (run_move (.tmp rfl)) ?_
          refine lstepB rfl rfl rfl (run_indexAddr (off' := k * 2) (.tmp rfl) (.tmp rfl) el80 (by omega) (Nat.zero_add _)) ?_
          refine lstepB rfl rfl rfl (run_fieldAddr (.tmp rfl) fa84_1 (by first | exact Nat.zero_add _ | exact rfl)) ?_
          refine lstepB rfl rfl rfl (run_load1_at (.tmp rfl) kd3 (fun w' hS => hS.old_cell (fun h => h) c2)) ?_
          refine lstepB rfl rfl rfl (run_eql (.tmp rfl) .const (by first | exact decide_eq_true (by omega) | exact decide_eq_false (by omega) | exact rfl)) ?_
          refine lnil ?_
          refine xw_then ?_
          refine cw_cond_false (.tmp rfl) ?_
          refine cw_seq ?_
          refine cw_region ?_
          refine lstepB rfl rfl rfl (run_move (.tmp rfl)) ?_
          refine lstepB rfl rfl rfl (run_move (.tmp rfl)) ?_
          refine lstepB rfl rfl rfl (run_move (.tmp rfl)) ?_
          refine lstepB rfl rfl rfl (run_indexAddr (off' := k * 2) (.tmp rfl) (.tmp rfl) el80 (by omega) (Nat.zero_add _)) ?_
          refine lstepB rfl rfl rfl (run_fieldAddr (.tmp rfl) fa84_1 (by first | exact Nat.zero_add _ | exact rfl)) ?_
          refine lstepB rfl rfl rfl (run_load1_at (.tmp rfl) kd3 (fun w' hS => hS.old_cell (fun h => h) c2)) ?_
          refine lstepB rfl rfl rfl (run_call1 cb48 (.cons (.tmp rfl) (.cons (.tmp rfl) .nil)) (fun w _ => (hasK S j (by omega) (by omega) w).as (congrArg Value.bool hbt))) ?_
          refine lstepB rfl rfl rfl (run_not (.tmp rfl) (by first | exact Bool.not_true | exact Bool.not_false | exact rfl)) ?_
          refine lnil ?_
          refine xw_then ?_
          refine cw_cond_true (.tmp rfl) ?_
          refine cw_region ?_
          refine lstepB rfl rfl rfl (run_move (.tmp rfl)) ?_
          refine lstepB rfl rfl rfl (run_move (.tmp rfl)) ?_
          refine lstepB rfl rfl rfl (run_move (.tmp rfl)) ?_
          refine lstepB rfl rfl rfl (run_indexAddr (off' := k * 2) (.tmp rfl) (.tmp rfl) el80 (by omega) (Nat.zero_add _)) ?_
          refine lstepB rfl rfl rfl (run_fieldAddr (.tmp rfl) fa84_1 (by first | exact Nat.zero_add _ | exact rfl)) ?_
          refine lstepB rfl rfl rfl (run_load1_at (.tmp rfl) kd3 (fun w' hS => hS.old_cell (fun h => h) c2)) ?_
          refine lstepB rfl rfl rfl (run_call1 cb49 (.cons (.tmp rfl) .nil) (fun w _ => powK j (by omega) w)) ?_
          refine lstepB rfl rfl rfl (run_add (.tmp rfl) (.tmp rfl) (by first | exact IntWalk.i64_in _ (by omega) | exact rfl)) ?_
          refine lstepB rfl rfl rfl (run_assign (.tmp rfl)) ?_
          refine lnil ?_
          refine xw_in ?_
          refine xw_then ?_
          refine cw_region ?_
          refine lstepB rfl rfl rfl (run_move (.tmp rfl)) ?_
          refine lstepB rfl rfl rfl (run_add (.tmp rfl) .const (by first | exact IntWalk.i64_in _ (by omega) | exact rfl)) ?_
          refine lstepB rfl rfl rfl (run_assign (.tmp rfl)) ?_
          refine lnil ?_
          exact xw_round ⟨k + 1, S + 2 ^ j, B⟩ ⟨by rw [hstep, mvStep, if_neg hm1, Int.toNat_natCast, if_neg (by rw [hbt]; simp)], by simp only; omega⟩ (by simp only; omega) (by repeat (first | exact Less.nil | refine Less.cons rfl ?_)) (by repeat (first | exact Pick.nil | (apply Pick.cons; focus (repeat (first | exact Del.here | apply Del.there)))))
        | true =>
          refine cw_skip ?_
          refine xw_then ?_
          refine cw_seq ?_
          refine cw_block ?_
          refine cw_seq ?_
          refine cw_region ?_
          refine lstepB rfl rfl rfl (run_move (.tmp rfl)) ?_
          refine lstepB rfl rfl rfl (run_move (.tmp rfl)) ?_
          refine lstepB rfl rfl rfl (run_indexAddr (off' := k * 2) (.tmp rfl) (.tmp rfl) el80 (by omega) (Nat.zero_add _)) ?_
          refine lstepB rfl rfl rfl (run_fieldAddr (.tmp rfl) fa84_1 (by first | exact Nat.zero_add _ | exact rfl)) ?_
          refine lstepB rfl rfl rfl (run_load1_at (.tmp rfl) kd3 (fun w' hS => hS.old_cell (fun h => h) c2)) ?_
          refine lstepB rfl rfl rfl (run_eql (.tmp rfl) .const (by first | exact decide_eq_true (by omega) | exact decide_eq_false (by omega) | exact rfl)) ?_
          refine lnil ?_
          refine xw_then ?_
          refine cw_cond_false (.tmp rfl) ?_
          refine cw_seq ?_
          refine cw_region ?_
          refine lstepB rfl rfl rfl (run_move (.tmp rfl)) ?_
          refine lstepB rfl rfl rfl (run_move (.tmp rfl)) ?_
          refine lstepB rfl rfl rfl (run_move (.tmp rfl)) ?_
          refine lstepB rfl rfl rfl (run_indexAddr (off' := k * 2) (.tmp rfl) (.tmp rfl) el80 (by omega) (Nat.zero_add _)) ?_
          refine lstepB rfl rfl rfl (run_fieldAddr (.tmp rfl) fa84_1 (by first | exact Nat.zero_add _ | exact rfl)) ?_
          refine lstepB rfl rfl rfl (run_load1_at (.tmp rfl) kd3 (fun w' hS => hS.old_cell (fun h => h) c2)) ?_
          refine lstepB rfl rfl rfl (run_call1 cb48 (.cons (.tmp rfl) (.cons (.tmp rfl) .nil)) (fun w _ => (hasK S j (by omega) (by omega) w).as (congrArg Value.bool hbt))) ?_
          refine lstepB rfl rfl rfl (run_not (.tmp rfl) (by first | exact Bool.not_true | exact Bool.not_false | exact rfl)) ?_
          refine lnil ?_
          refine xw_then ?_
          refine cw_cond_false (.tmp rfl) ?_
          refine cw_skip ?_
          refine xw_in ?_
          refine xw_then ?_
          refine cw_region ?_
          refine lstepB rfl rfl rfl (run_move (.tmp rfl)) ?_
          refine lstepB rfl rfl rfl (run_add (.tmp rfl) .const (by first | exact IntWalk.i64_in _ (by omega) | exact rfl)) ?_
          refine lstepB rfl rfl rfl (run_assign (.tmp rfl)) ?_
          refine lnil ?_
          exact xw_round ⟨k + 1, S, B⟩ ⟨by rw [hstep, mvStep, if_neg hm1, Int.toNat_natCast, if_pos hbt], by simp only; omega⟩ (by simp only; omega) (by repeat (first | exact Less.nil | refine Less.cons rfl ?_)) (by repeat (first | exact Pick.nil | (apply Pick.cons; focus (repeat (first | exact Del.here | apply Del.there)))))
    ·
      refine cw_exit ?_
      refine xw_then_exit ?_
      refine xw_then_exit ?_
      refine xw_in_exit ?_
      refine xw_then ?_
      refine cw_seq ?_
      refine cw_region ?_
      refine lstepB rfl rfl rfl (run_move (.tmp rfl)) ?_
      refine lstepB rfl rfl rfl (run_move (.tmp rfl)) ?_
      refine lstepB rfl rfl rfl (run_assign (.tmp rfl)) ?_
      refine lstepB rfl rfl rfl (run_assign (.tmp rfl)) ?_
      refine lstepB rfl rfl rfl (run_assign .const) ?_
      refine lnil ?_
      refine xw_then ?_
      refine cw_ret ?_
      refine xw_ret3 Try.results14 rfl rfl rfl (fun w' hS => ⟨?_, below_two hB hS.kept⟩)
      have hge' : ¬ (k : Int) < ((allF p).length : Int) := hge
      rw [List.take_of_length_le (by omega)] at hs
      rw [← hs]; rfl
end Go.Proofs.Ytkjciobphbcknaa
namespace Go.Proofs.Ytkjciobphbcknaa
open Go.RowKit En

theorem cells2 {w : World} {b o : Nat} {x y : Value} (h1 : w.cell? ⟨b, o, none⟩ = some x) (h2 : w.cell? ⟨b, o + 1, none⟩ = some y) : ∀ j v, [x, y][j]? = some v → w.cell? ⟨b, o + j, none⟩ = some v
  | 0, v, h => by simp only [List.getElem?_cons_zero, Option.some.injEq] at h; rw [← h]; exact h1
  | 1, v, h => by simp only [List.getElem?_cons_succ, List.getElem?_cons_zero, Option.some.injEq] at h; rw [← h]; exact h2
  | j + 2, v, h => by simp at h
set_option maxRecDepth 100000 in
set_option maxHeartbeats 4000000 in
theorem whereRK {p : PegsD} {pa la : Option Addr} (n : Int) (pc lc : Nat) (hm : p.ps.length ≤ 9223372036854775807) (hm2 : p.ls.length ≤ 9223372036854775807) (h8 : validB p = true → p.side ≤ 8) (h3 : validB p = true → p.ps.length ≤ 3) (w : World) (hp : PegsIn w p pa la) :
    Gives Try.prog 16 [.agg [.int .i64 p.side, .slice pa p.ps.length pc, .slice la p.ls.length lc].toArray, .int .i64 n] w (.tuple [encSpan (valOf ((0, 0), (0, 0)) (whereR p n)).1, encSpan (valOf ((0, 0), (0, 0)) (whereR p n)).2, .int .i64 (errOf (whereR p n))].toArray) := by
  cases ho : openR p (isPegB p.ps.length n) with
  | error m =>
    obtain ⟨hR, hm0⟩ := where_err ho
    rw [hR]
    refine .mk <| enter (n := 59) Try.func16 rfl rfl rfl (by repeat (first | exact Fill.nil | apply Fill.cons)) ?_
    refine cw_seq ?_
    refine cw_region ?_
    refine lstep rfl rfl rfl (run_boxN (.tmp rfl)) ?_
    intro b2 _
    refine lstep rfl rfl rfl (run_alloc zr32) ?_
    intro b4 _
    refine lstep rfl rfl rfl (run_alloc zr32) ?_
    intro b5 _
    refine lstepB rfl rfl rfl (run_assign .const) ?_
    refine lnil ?_
    refine xw_then ?_
    refine cw_seq ?_
    refine cw_chain2 (σ := [0, 1, 2, 3, 4, 5, 6, 7, 8, 9]) [⟨0, [2], [], [], 0⟩, ⟨0, [2], [], [], 0⟩, ⟨0, [], [], [], 0⟩, ⟨0, [], [], [], 6⟩, ⟨0, [], [], [], 15⟩, ⟨0, [], [], [], 31⟩, ⟨0, [], [], [], 63⟩, ⟨0, [], [], [], 63⟩, ⟨0, [], [], [], 127⟩, ⟨0, [], [], [], 511⟩] [(0, _), (1, _), (2, _)] (by kernel_rfl) (by kernel_rfl) rfl ?_
    refine .det (B := []) rfl rfl (.inl rfl) (.cons rfl .nil) .nil rfl (RunB.lr (run_loadN (.tmp rfl) kd25 sz25 (by repeat (first | exact List.Mem.head _ | apply List.Mem.tail)) (by repeat (first | exact Sub.done | apply Sub.take | apply Sub.skip)))) ?_
    refine .det (B := []) rfl rfl (.inl rfl) (.cons rfl .nil) .nil rfl (RunB.lr (run_loadN (.tmp rfl) kd25 sz25 (by repeat (first | exact List.Mem.head _ | apply List.Mem.tail)) (by repeat (first | exact Sub.done | apply Sub.take | apply Sub.skip)))) ?_
    refine .det (B := []) rfl rfl (.inl rfl) .nil .nil rfl (RunB.lr (run_move (.tmp rfl))) ?_
    refine .det (B := []) rfl rfl (.inl rfl) .nil .nil rfl (RunB.lr (run_call1 cb36 (.cons (.tmp rfl) (.cons (.tmp rfl) .nil)) (fun w' _ => pegK _ _ _ _ _ _ _ _ w' hm))) ?_
    refine .det (B := []) rfl rfl (.inl rfl) .nil .nil rfl (RunB.lr (run_call1 cb47 (.cons (.tmp rfl) (.cons (.tmp rfl) .nil)) (fun w' hS => openErr ho pc lc hm hm2 h8 h3 w' (hp.kept hS.kept)))) ?_
    refine .det (B := []) rfl rfl (.inl rfl) .nil .nil rfl (RunB.lr (run_move (.tmp rfl))) ?_
    refine .det (B := []) rfl rfl (.inl rfl) .nil .nil rfl (RunB.lr (run_extract (.tmp rfl) rfl)) ?_
    refine .det (B := []) rfl rfl (.inl rfl) .nil .nil rfl (RunB.lr (run_extract (.tmp rfl) rfl)) ?_
    refine .det (B := []) rfl rfl (.inl rfl) .nil .nil rfl (RunB.lr (run_assign (.tmp rfl))) ?_
    refine .det (B := []) rfl rfl (.inl rfl) .nil .nil rfl (RunB.lr (run_assign (.tmp rfl))) ?_
    refine chain_nil (ts := [0, 1, 2]) (.cons rfl (.cons rfl (.cons rfl .nil))) (by decide) ?_
    refine xw_then ?_
    refine cw_seq ?_
    refine cw_seq ?_
    refine cw_region ?_
    refine lstepB rfl rfl rfl (run_move (.tmp rfl)) ?_
    refine lstepB rfl rfl rfl (run_neq (.tmp rfl) .const (by first | exact decide_eq_true (by omega) | exact decide_eq_false (by omega) | exact rfl)) ?_
    refine lnil ?_
    refine xw_then ?_
    refine cw_cond_true (.tmp rfl) ?_
    refine cw_seq ?_
    refine cw_region ?_
    refine lstepB rfl rfl rfl (run_build_at .nil (fun w => bd32_ w)) ?_
    refine lstepB rfl rfl rfl (run_build_at .nil (fun w => bd32_ w)) ?_
    refine lstepB rfl rfl rfl (run_move (.tmp rfl)) ?_
    refine lstep0 rfl rfl (run_storeN (.tmp rfl) (.tmp rfl) rfl sz32 rfl (by repeat (first | exact Upd.here | apply Upd.there)) (by repeat (first | exact Put.done | apply Put.put | apply Put.skip))) ?_
    refine lstep0 rfl rfl (run_storeN (.tmp rfl) (.tmp rfl) rfl sz32 rfl (by repeat (first | exact Upd.here | apply Upd.there)) (by repeat (first | exact Put.done | apply Put.put | apply Put.skip))) ?_
    refine lstepB rfl rfl rfl (run_assign (.tmp rfl)) ?_
    refine lnil ?_
    refine xw_then ?_
    refine cw_ret ?_
    refine xw_then_ret ?_
    refine xw_retC3 rfl rfl rfl rfl kd32 sz32 (by repeat (first | exact List.Mem.head _ | apply List.Mem.tail)) (by repeat (first | exact Sub.done | apply Sub.take | apply Sub.skip)) (by repeat (first | exact List.Mem.head _ | apply List.Mem.tail)) (by repeat (first | exact Sub.done | apply Sub.take | apply Sub.skip)) (fun w' hS => ⟨rfl, hS.kept⟩)
  | ok L =>
    obtain ⟨hv, hpg, rfl, hne⟩ := openR_ok ho
    have hf := fit_of_valid hv
    have h4 := hf.n4
    obtain ⟨hn0, hn1⟩ := isPegB_iff.1 hpg
    obtain ⟨i, rfl⟩ := Int.eq_ofNat_of_zero_le hn0
    have hR := where_eq hv (i := i) (by omega) hne
    have hlen : (allF p).length ≤ 1000000 := allS_len hf (h8 hv) (h3 hv) (fullN p)
    rw [hR]
    refine .mk <| enter (n := 59) Try.func16 rfl rfl rfl (by repeat (first | exact Fill.nil | apply Fill.cons)) ?_
    refine cw_seq ?_
    refine cw_region ?_
    refine lstep rfl rfl rfl (run_boxN (.tmp rfl)) ?_
    intro b2 _
    refine lstep rfl rfl rfl (run_alloc zr32) ?_
    intro b4 _
    refine lstep rfl rfl rfl (run_alloc zr32) ?_
    intro b5 _
    refine lstepB rfl rfl rfl (run_assign .const) ?_
    refine lnil ?_
    refine xw_then ?_
    refine cw_seq ?_
    refine cw_pivot (j := 4) (σ1 := [0, 1, 2, 3]) (σ2 := [5, 6, 7, 8, 9]) [⟨0, [2], [], [], 0⟩, ⟨0, [2], [], [], 0⟩, ⟨0, [], [], [], 0⟩, ⟨0, [], [], [], 6⟩, ⟨0, [], [], [], 15⟩, ⟨0, [], [], [], 31⟩, ⟨0, [], [], [], 63⟩, ⟨0, [], [], [], 63⟩, ⟨0, [], [], [], 127⟩, ⟨0, [], [], [], 511⟩] [(0, _), (1, _), (2, _)] (by kernel_rfl) (by kernel_rfl) rfl ?_
    refine .det (B := []) rfl rfl (.inl rfl) (.cons rfl .nil) .nil rfl (RunB.lr (run_loadN (.tmp rfl) kd25 sz25 (by repeat (first | exact List.Mem.head _ | apply List.Mem.tail)) (by repeat (first | exact Sub.done | apply Sub.take | apply Sub.skip)))) ?_
    refine .det (B := []) rfl rfl (.inl rfl) (.cons rfl .nil) .nil rfl (RunB.lr (run_loadN (.tmp rfl) kd25 sz25 (by repeat (first | exact List.Mem.head _ | apply List.Mem.tail)) (by repeat (first | exact Sub.done | apply Sub.take | apply Sub.skip)))) ?_
    refine .det (B := []) rfl rfl (.inl rfl) .nil .nil rfl (RunB.lr (run_move (.tmp rfl))) ?_
    refine .det (B := []) rfl rfl (.inl rfl) .nil .nil rfl (RunB.lr (run_call1 cb36 (.cons (.tmp rfl) (.cons (.tmp rfl) .nil)) (fun w' _ => pegK _ _ _ _ _ _ _ _ w' hm))) ?_
    refine .nil ?_
    refine pv_call (F := fun (s : Option Addr × Nat) w' => ∃ lo, (∀ b, blk [(b5, Obj.cells [.int .i64 0, .int .i64 0].toArray 32 (0, 0)), (b4, Obj.cells [.int .i64 0, .int .i64 0].toArray 32 (0, 0)), (b2, Obj.cells [.int .i64 p.side, .slice pa p.ps.length pc, .slice la p.ls.length lc].toArray 25 (0, 0))] b → b < lo) ∧ TruthsIn lo w' s.1 (allF p)) (r := fun s => .tuple #[.slice s.1 (allF p).length s.2, .int .i64 0]) (ts2 := [0, 1, 2]) rfl cb47 (.cons (.tmp rfl) (.cons (.tmp rfl) .nil)) (.cons rfl (.cons rfl (.cons rfl .nil))) (by decide) (fun w' hS => (openOk ho pc lc hm hm2 h8 h3 w' (hp.kept hS.kept)).mono fun e w2 ⟨s, h1, h2, h3⟩ => ⟨s, ⟨w'.heap.size, blk_lt hS, h1⟩, h2, h3⟩) ?_
    rintro ⟨oa, oc⟩ w1 ⟨lo, hlo, ht⟩ hB
    refine .det (B := []) rfl rfl (.inl rfl) .nil .nil rfl (RunB.lr (run_move (.tmp rfl))) ?_
    refine .det (B := []) rfl rfl (.inl rfl) .nil .nil rfl (RunB.lr (run_extract (.tmp rfl) rfl)) ?_
    refine .det (B := []) rfl rfl (.inl rfl) .nil .nil rfl (RunB.lr (run_extract (.tmp rfl) rfl)) ?_
    refine .det (B := []) rfl rfl (.inl rfl) .nil .nil rfl (RunB.lr (run_assign (.tmp rfl))) ?_
    refine .det (B := []) rfl rfl (.inl rfl) .nil .nil rfl (RunB.lr (run_assign (.tmp rfl))) ?_
    refine chain_nil (ts := [0, 1, 2]) (.cons rfl (.cons rfl (.cons rfl .nil))) (by decide) ?_
    refine xw_then ?_
    refine cw_seq ?_
    refine cw_seq ?_
    refine cw_region ?_
    refine lstepB rfl rfl rfl (run_move (.tmp rfl)) ?_
    refine lstepB rfl rfl rfl (run_neq (.tmp rfl) .const (by first | exact decide_eq_true (by omega) | exact decide_eq_false (by omega) | exact rfl)) ?_
    refine lnil ?_
    refine xw_then ?_
    refine cw_cond_false (.tmp rfl) ?_
    refine cw_skip ?_
    refine xw_then ?_
    refine cw_seq ?_
    refine cw_region ?_
    refine lstep rfl rfl rfl (run_alloc zr32) ?_
    intro b9 _
    refine lstep rfl rfl rfl (run_alloc zr32) ?_
    intro b10 _
    refine lnil ?_
    refine xw_then ?_
    refine cw_seq ?_
    refine cw_seq ?_
    refine cw_region ?_
    refine lstepB rfl rfl rfl (run_assign .const) ?_
    refine lnil ?_
    refine xw_then ?_
    refine cw_block ?_
    refine cw_loop (S := WS) (fun z => [(11, .int .i64 (z.k : Int))]) [(1, _), (2, _), (4, _), (5, _), (6, _), (7, _), (9, _), (10, _)] (fun z => [(b10, Obj.cells [.int .i64 z.e2.lo, .int .i64 z.e2.hi].toArray 32 (0, 0)), (b9, Obj.cells [.int .i64 z.e.lo, .int .i64 z.e.hi].toArray 32 (0, 0)), (b5, Obj.cells [.int .i64 0, .int .i64 0].toArray 32 (0, 0)), (b4, Obj.cells [.int .i64 0, .int .i64 0].toArray 32 (0, 0)), (b2, Obj.cells [.int .i64 p.side, .slice pa p.ps.length pc, .slice la p.ls.length lc].toArray 25 (0, 0))]) (fun z => z.e = endsG (((allF p).take z.k).map fun x => (plAt x.1 i).x) ∧ z.e2 = endsG (((allF p).take z.k).map fun x => (plAt x.1 i).y) ∧ z.k ≤ (allF p).length) (fun z => (allF p).length - z.k) ⟨0, ⟨0, 0, false⟩, ⟨0, 0, false⟩⟩ ⟨rfl, rfl, Nat.zero_le _⟩ (by repeat (first | exact Less.nil | refine Less.cons rfl ?_)) (by repeat (first | exact Pick.nil | (apply Pick.cons; focus (repeat (first | exact Del.here | apply Del.there))))) ?_
    intro z hz
    obtain ⟨k, e, e2⟩ := z
    obtain ⟨he, he2, hk⟩ := hz
    simp only at he he2 hk
    try dsimp only
    refine cw_seq ?_
    refine cw_seq ?_
    refine cw_region ?_
    refine lstepB rfl rfl rfl (run_move (.tmp rfl)) ?_
    refine lstepB rfl rfl rfl (run_move (.tmp rfl)) ?_
    refine lstepB rfl rfl rfl (run_len (.tmp rfl) sl80) ?_
    refine lstepB rfl rfl rfl (run_lss (.tmp rfl) (.tmp rfl) (by first | exact decide_eq_true (by omega) | exact decide_eq_false (by omega) | exact rfl)) ?_
    refine lnil ?_
    refine xw_then ?_
    refine cw_cond_p (.tmp rfl) (fun hlt => ?_) (fun hge => ?_)
    ·
      have hlt' : (k : Int) < ((allF p).length : Int) := hlt
      have hkl : k < (allF p).length := by omega
      obtain ⟨⟨l, mv⟩, hx⟩ : ∃ x, (allF p)[k]? = some x := ⟨_, List.getElem?_eq_getElem hkl⟩
      obtain ⟨b, qa, c, rfl, hb, c1, c2, hq⟩ := ht k _ hx
      obtain ⟨r1, r2, r3, r4⟩ := allF_range hf hx
      simp only at r1 r2 r3 r4 c1 c2 hq
      obtain ⟨s, hs⟩ : ∃ s, l[i]? = some s := ⟨_, List.getElem?_eq_getElem (by omega)⟩
      have pl_s : plAt l (i : Nat) = s := by simp [plAt, List.getD_eq_getElem?_getD, hs]
      obtain ⟨s1, s2, s3, s4⟩ := r4 _ (List.mem_of_getElem? hs)
      obtain ⟨qb, qo, rfl, hqb, ds1, ds2⟩ := hq i s hs
      have n1 : e.add s.x = endsG (((allF p).take (k + 1)).map fun x => (plAt x.1 i).x) := by
        have := endsG_at (fun x : List Pl × Int => (plAt x.1 i).x) hx he
        rwa [show (plAt (l, mv).1 i).x = s.x from by rw [pl_s]] at this
      have n2 : e2.add s.y = endsG (((allF p).take (k + 1)).map fun x => (plAt x.1 i).y) := by
        have := endsG_at (fun x : List Pl × Int => (plAt x.1 i).y) hx he2
        rwa [show (plAt (l, mv).1 i).y = s.y from by rw [pl_s]] at this
      refine cw_skip ?_
      refine xw_then ?_
      refine cw_seq ?_
      refine cw_block ?_
      refine cw_chain2 (σ := [0, 1, 2, 3, 4, 5, 6, 7, 8, 9, 10, 11, 12, 13, 14, 15, 16, 17, 18, 19, 20, 21, 22, 23, 24, 25, 26, 27]) [⟨0, [1], [], [], 0⟩, ⟨0, [], [], [], 0⟩, ⟨0, [], [], [], 0⟩, ⟨0, [], [], [], 6⟩, ⟨0, [], [], [], 14⟩, ⟨0, [], [], [], 30⟩, ⟨0, [], [], [], 0⟩, ⟨0, [], [], [], 126⟩, ⟨0, [], [], [], 254⟩, ⟨0, [], [], [], 510⟩, ⟨0, [], [], [], 0⟩, ⟨0, [], [], [], 1024⟩, ⟨0, [], [], [], 4095⟩, ⟨0, [0], [], [], 0⟩, ⟨0, [], [], [], 0⟩, ⟨0, [], [], [], 0⟩, ⟨0, [], [], [], 49152⟩, ⟨0, [], [], [], 114688⟩, ⟨0, [], [], [], 245760⟩, ⟨0, [], [], [], 0⟩, ⟨0, [], [], [], 1032192⟩, ⟨0, [], [], [], 2080768⟩, ⟨0, [], [], [], 4177920⟩, ⟨0, [], [], [], 0⟩, ⟨0, [], [], [], 8388608⟩, ⟨0, [], [], [], 33554431⟩, ⟨0, [], [1], [1], 67108863⟩, ⟨0, [], [0], [0], 134217727⟩] [(0, _), (1, _), (2, _), (3, _), (4, _)] (by kernel_rfl) (by kernel_rfl) rfl ?_
      refine .det (B := []) rfl rfl (.inl rfl) (.cons rfl .nil) .nil rfl (RunB.lr (run_loadN (.tmp rfl) kd32 sz32 (by repeat (first | exact List.Mem.head _ | apply List.Mem.tail)) (by repeat (first | exact Sub.done | apply Sub.take | apply Sub.skip)))) ?_
      refine .det (B := []) rfl rfl (.inl rfl) .nil .nil rfl (RunB.lr (run_move (.tmp rfl))) ?_
      refine .det (B := []) rfl rfl (.inl rfl) .nil .nil rfl (RunB.lr (run_move (.tmp rfl))) ?_
      refine .det (B := []) rfl rfl (.inl rfl) .nil .nil rfl (RunB.lr (run_indexAddr (off' := k * 2) (.tmp rfl) (.tmp rfl) el80 (by omega) (Nat.zero_add _))) ?_
      refine .det (B := []) rfl rfl (.inl rfl) .nil .nil rfl (RunB.lr (run_fieldAddr (.tmp rfl) fa84_0 (by first | exact Nat.zero_add _ | exact rfl))) ?_
      refine .det (B := []) rfl rfl (.inl rfl) .nil .nil rfl (RunB.lr (run_load1_at (.tmp rfl) kd46 (fun w2 hS => old_of hS hlo hb c1))) ?_
      refine .det (B := []) rfl rfl (.inl rfl) .nil .nil rfl (RunB.lr (run_move (.tmp rfl))) ?_
      refine .det (B := []) rfl rfl (.inl rfl) .nil .nil rfl (RunB.lr (run_indexAddr (.tmp rfl) (.tmp rfl) el46 (by omega) rfl)) ?_
      refine .det (B := []) rfl rfl (.inl rfl) .nil .nil rfl (RunB.lr (run_fieldAddr (.tmp rfl) fa52_0 (by first | exact Nat.zero_add _ | exact rfl))) ?_
      refine .det (B := []) rfl rfl (.inl rfl) .nil .nil rfl (RunB.lr (run_load1_at (.tmp rfl) kd3 (fun w2 hS => old_of hS hlo hqb ds1))) ?_
      refine .det (B := []) rfl rfl (.inl rfl) .nil .nil rfl (RunB.lr (run_move (.tmp rfl))) ?_
      refine .det (B := []) rfl rfl (.inl rfl) .nil .nil rfl (RunB.lr (run_eql (p := !e.some) (.tmp rfl) .const (first_eq _ _ hkl he))) ?_
      refine .det (B := []) rfl rfl (.inl rfl) .nil .nil rfl (RunB.lr (run_call1 cb55 (.cons (.tmp rfl) (.cons (.tmp rfl) (.cons (.tmp rfl) .nil))) (fun w _ => hullK e _ _ rfl w))) ?_
      refine .det (B := []) rfl rfl (.inl rfl) (.cons rfl .nil) .nil rfl (RunB.lr (run_loadN (.tmp rfl) kd32 sz32 (by repeat (first | exact List.Mem.head _ | apply List.Mem.tail)) (by repeat (first | exact Sub.done | apply Sub.take | apply Sub.skip)))) ?_
      refine .det (B := []) rfl rfl (.inl rfl) .nil .nil rfl (RunB.lr (run_move (.tmp rfl))) ?_
      refine .det (B := []) rfl rfl (.inl rfl) .nil .nil rfl (RunB.lr (run_move (.tmp rfl))) ?_
      refine .det (B := []) rfl rfl (.inl rfl) .nil .nil rfl (RunB.lr (run_indexAddr (off' := k * 2) (.tmp rfl) (.tmp rfl) el80 (by omega) (Nat.zero_add _))) ?_
      refine .det (B := []) rfl rfl (.inl rfl) .nil .nil rfl (RunB.lr (run_fieldAddr (.tmp rfl) fa84_0 (by first | exact Nat.zero_add _ | exact rfl))) ?_
      refine .det (B := []) rfl rfl (.inl rfl) .nil .nil rfl (RunB.lr (run_load1_at (.tmp rfl) kd46 (fun w2 hS => old_of hS hlo hb c1))) ?_
      refine .det (B := []) rfl rfl (.inl rfl) .nil .nil rfl (RunB.lr (run_move (.tmp rfl))) ?_
      refine .det (B := []) rfl rfl (.inl rfl) .nil .nil rfl (RunB.lr (run_indexAddr (.tmp rfl) (.tmp rfl) el46 (by omega) rfl)) ?_
      refine .det (B := []) rfl rfl (.inl rfl) .nil .nil rfl (RunB.lr (run_fieldAddr (.tmp rfl) fa52_1 (by first | exact Nat.zero_add _ | exact rfl))) ?_
      refine .det (B := []) rfl rfl (.inl rfl) .nil .nil rfl (RunB.lr (run_load1_at (.tmp rfl) kd3 (fun w2 hS => old_of hS hlo hqb ds2))) ?_
      refine .det (B := []) rfl rfl (.inl rfl) .nil .nil rfl (RunB.lr (run_move (.tmp rfl))) ?_
      refine .det (B := []) rfl rfl (.inl rfl) .nil .nil rfl (RunB.lr (run_eql (p := !e2.some) (.tmp rfl) .const (first_eq _ _ hkl he2))) ?_
      refine .det (B := []) rfl rfl (.inl rfl) .nil .nil rfl (RunB.lr (run_call1 cb55 (.cons (.tmp rfl) (.cons (.tmp rfl) (.cons (.tmp rfl) .nil))) (fun w _ => hullK e2 _ _ rfl w))) ?_
      refine .det (B := [(1, (_, _))]) rfl rfl (.inl rfl) .nil (.cons rfl .nil) rfl (lr_storeN (.tmp rfl) (.tmp rfl) rfl sz32 rfl (by repeat (first | exact Put.done | apply Put.put | apply Put.skip))) ?_
      refine .det (B := [(0, (_, _))]) rfl rfl (.inl rfl) .nil (.cons rfl .nil) rfl (lr_storeN (.tmp rfl) (.tmp rfl) rfl sz32 rfl (by repeat (first | exact Put.done | apply Put.put | apply Put.skip))) ?_
      refine chain_nil (ts := [0, 1, 2, 3, 4]) (.cons rfl (.cons rfl (.cons rfl (.cons rfl (.cons rfl .nil))))) (by decide) ?_
      refine xw_in ?_
      refine xw_then ?_
      refine cw_region ?_
      refine lstepB rfl rfl rfl (run_move (.tmp rfl)) ?_
      refine lstepB rfl rfl rfl (run_add (.tmp rfl) .const (by first | exact IntWalk.i64_in _ (by omega) | exact rfl)) ?_
      refine lstepB rfl rfl rfl (run_assign (.tmp rfl)) ?_
      refine lnil ?_
      exact xw_round ⟨k + 1, e.add s.x, e2.add s.y⟩ ⟨n1, n2, by simp only; omega⟩ (by simp only; omega) (by repeat (first | exact Less.nil | refine Less.cons rfl ?_)) (by repeat (first | exact Pick.nil | (apply Pick.cons; focus (repeat (first | exact Del.here | apply Del.there)))))
    ·
      refine cw_exit ?_
      refine xw_then_exit ?_
      refine xw_then_exit ?_
      refine xw_in_exit ?_
      refine xw_then ?_
      refine cw_seq ?_
      refine cw_chain2 (σ := [0, 1, 2, 3, 4]) [⟨0, [1], [], [], 0⟩, ⟨0, [0], [], [], 0⟩, ⟨0, [], [3], [3], 1⟩, ⟨0, [], [2], [2], 7⟩, ⟨0, [], [], [], 15⟩] [(0, _), (1, _), (2, _), (3, _), (4, _)] (by kernel_rfl) (by kernel_rfl) rfl ?_
      refine .det (B := []) rfl rfl (.inl rfl) (.cons rfl .nil) .nil rfl (RunB.lr (run_loadN (.tmp rfl) kd32 sz32 (by repeat (first | exact List.Mem.head _ | apply List.Mem.tail)) (by repeat (first | exact Sub.done | apply Sub.take | apply Sub.skip)))) ?_
      refine .det (B := []) rfl rfl (.inl rfl) (.cons rfl .nil) .nil rfl (RunB.lr (run_loadN (.tmp rfl) kd32 sz32 (by repeat (first | exact List.Mem.head _ | apply List.Mem.tail)) (by repeat (first | exact Sub.done | apply Sub.take | apply Sub.skip)))) ?_
      refine .det (B := [(3, (_, _))]) rfl rfl (.inl rfl) .nil (.cons rfl .nil) rfl (lr_storeN (.tmp rfl) (.tmp rfl) rfl sz32 rfl (by repeat (first | exact Put.done | apply Put.put | apply Put.skip))) ?_
      refine .det (B := [(2, (_, _))]) rfl rfl (.inl rfl) .nil (.cons rfl .nil) rfl (lr_storeN (.tmp rfl) (.tmp rfl) rfl sz32 rfl (by repeat (first | exact Put.done | apply Put.put | apply Put.skip))) ?_
      refine .det (B := []) rfl rfl (.inl rfl) .nil .nil rfl (RunB.lr (run_assign .const)) ?_
      refine chain_nil (ts := [0, 1, 2, 3, 4]) (.cons rfl (.cons rfl (.cons rfl (.cons rfl (.cons rfl .nil))))) (by decide) ?_
      refine xw_then ?_
      refine cw_ret ?_
      have hge' : ¬ (k : Int) < ((allF p).length : Int) := hge
      rw [List.take_of_length_le (by omega)] at he he2
      rw [← he, ← he2]
      refine xw_retC3 rfl rfl rfl rfl kd32 sz32 (by repeat (first | exact List.Mem.head _ | apply List.Mem.tail)) (by repeat (first | exact Sub.done | apply Sub.take | apply Sub.skip)) (by repeat (first | exact List.Mem.head _ | apply List.Mem.tail)) (by repeat (first | exact Sub.done | apply Sub.take | apply Sub.skip)) (fun w' hS => ⟨rfl, hB _ w' hS⟩)
end Go.Proofs.Ytkjciobphbcknaa
namespace Go.Proofs.Ytkjciobphbcknaa
open Go.RowKit En

structure BS where
  k : Nat
  f : Bool
  e : EndsD
theorem backs_at {p : PegsD} {i k : Nat} {L : List (List Pl × Int)} {x : List Pl × Int} (h : L[k]? = some x) : backsS p i (L.take (k + 1)) = if x.2 = (i : Int) then backsS p i (L.take k) ++ [backI (plAt x.1 i) (postN p i)] else backsS p i (L.take k) := by
  rw [take_at h, backsS_snoc]
theorem add_some (e : EndsD) (n : Int) : (e.add n).some = true := by unfold EndsD.add; split <;> rfl
set_option maxRecDepth 100000 in
set_option maxHeartbeats 4000000 in
theorem backRK {p : PegsD} {pa la : Option Addr} (n : Int) (pc lc : Nat) (hm : p.ps.length ≤ 9223372036854775807) (hm2 : p.ls.length ≤ 9223372036854775807) (h8 : validB p = true → p.side ≤ 8) (h3 : validB p = true → p.ps.length ≤ 3) (w : World) (hp : PegsIn w p pa la) :
    Gives Try.prog 20 [.agg [.int .i64 p.side, .slice pa p.ps.length pc, .slice la p.ls.length lc].toArray, .int .i64 n] w (.tuple [encSpan (valOf (0, 0) (backR p n)), .int .i64 (errOf (backR p n))].toArray) := by
  cases ho : openR p (isPegB p.ps.length n) with
  | error m =>
    obtain ⟨hR, hm0⟩ := back_err ho
    rw [hR]
    refine .mk <| enter (n := 59) Try.func20 rfl rfl rfl (by repeat (first | exact Fill.nil | apply Fill.cons)) ?_
    refine cw_seq ?_
    refine cw_region ?_
    refine lstep rfl rfl rfl (run_boxN (.tmp rfl)) ?_
    intro b2 _
    refine lstep rfl rfl rfl (run_alloc zr32) ?_
    intro b4 _
    refine lstepB rfl rfl rfl (run_assign .const) ?_
    refine lnil ?_
    refine xw_then ?_
    refine cw_seq ?_
    refine cw_chain2 (σ := [0, 1, 2, 3, 4, 5, 6, 7, 8, 9]) [⟨0, [1], [], [], 0⟩, ⟨0, [1], [], [], 0⟩, ⟨0, [], [], [], 0⟩, ⟨0, [], [], [], 6⟩, ⟨0, [], [], [], 15⟩, ⟨0, [], [], [], 31⟩, ⟨0, [], [], [], 63⟩, ⟨0, [], [], [], 63⟩, ⟨0, [], [], [], 127⟩, ⟨0, [], [], [], 511⟩] [(0, _), (1, _)] (by kernel_rfl) (by kernel_rfl) rfl ?_
    refine .det (B := []) rfl rfl (.inl rfl) (.cons rfl .nil) .nil rfl (RunB.lr (run_loadN (.tmp rfl) kd25 sz25 (by repeat (first | exact List.Mem.head _ | apply List.Mem.tail)) (by repeat (first | exact Sub.done | apply Sub.take | apply Sub.skip)))) ?_
    refine .det (B := []) rfl rfl (.inl rfl) (.cons rfl .nil) .nil rfl (RunB.lr (run_loadN (.tmp rfl) kd25 sz25 (by repeat (first | exact List.Mem.head _ | apply List.Mem.tail)) (by repeat (first | exact Sub.done | apply Sub.take | apply Sub.skip)))) ?_
    refine .det (B := []) rfl rfl (.inl rfl) .nil .nil rfl (RunB.lr (run_move (.tmp rfl))) ?_
    refine .det (B := []) rfl rfl (.inl rfl) .nil .nil rfl (RunB.lr (run_call1 cb36 (.cons (.tmp rfl) (.cons (.tmp rfl) .nil)) (fun w' _ => pegK _ _ _ _ _ _ _ _ w' hm))) ?_
    refine .det (B := []) rfl rfl (.inl rfl) .nil .nil rfl (RunB.lr (run_call1 cb47 (.cons (.tmp rfl) (.cons (.tmp rfl) .nil)) (fun w' hS => openErr ho pc lc hm hm2 h8 h3 w' (hp.kept hS.kept)))) ?_
    refine .det (B := []) rfl rfl (.inl rfl) .nil .nil rfl (RunB.lr (run_move (.tmp rfl))) ?_
    refine .det (B := []) rfl rfl (.inl rfl) .nil .nil rfl (RunB.lr (run_extract (.tmp rfl) rfl)) ?_
    refine .det (B := []) rfl rfl (.inl rfl) .nil .nil rfl (RunB.lr (run_extract (.tmp rfl) rfl)) ?_
    refine .det (B := []) rfl rfl (.inl rfl) .nil .nil rfl (RunB.lr (run_assign (.tmp rfl))) ?_
    refine .det (B := []) rfl rfl (.inl rfl) .nil .nil rfl (RunB.lr (run_assign (.tmp rfl))) ?_
    refine chain_nil (ts := [0, 1]) (.cons rfl (.cons rfl .nil)) (by decide) ?_
    refine xw_then ?_
    refine cw_seq ?_
    refine cw_seq ?_
    refine cw_region ?_
    refine lstepB rfl rfl rfl (run_move (.tmp rfl)) ?_
    refine lstepB rfl rfl rfl (run_neq (.tmp rfl) .const (by first | exact decide_eq_true (by omega) | exact decide_eq_false (by omega) | exact rfl)) ?_
    refine lnil ?_
    refine xw_then ?_
    refine cw_cond_true (.tmp rfl) ?_
    refine cw_seq ?_
    refine cw_region ?_
    refine lstepB rfl rfl rfl (run_build_at .nil (fun w => bd32_ w)) ?_
    refine lstepB rfl rfl rfl (run_move (.tmp rfl)) ?_
    refine lstep0 rfl rfl (run_storeN (.tmp rfl) (.tmp rfl) rfl sz32 rfl (by repeat (first | exact Upd.here | apply Upd.there)) (by repeat (first | exact Put.done | apply Put.put | apply Put.skip))) ?_
    refine lstepB rfl rfl rfl (run_assign (.tmp rfl)) ?_
    refine lnil ?_
    refine xw_then ?_
    refine cw_ret ?_
    refine xw_then_ret ?_
    refine xw_retC2 rfl rfl rfl kd32 sz32 (by repeat (first | exact List.Mem.head _ | apply List.Mem.tail)) (by repeat (first | exact Sub.done | apply Sub.take | apply Sub.skip)) (fun w' hS => ⟨rfl, hS.kept⟩)
  | ok L =>
    obtain ⟨hv, hpg, rfl, hne⟩ := openR_ok ho
    have hf := fit_of_valid hv
    have h4 := hf.n4
    obtain ⟨hn0, hn1⟩ := isPegB_iff.1 hpg
    obtain ⟨i, rfl⟩ := Int.eq_ofNat_of_zero_le hn0
    have hR := back_eq hv (i := i) (by omega) hne
    have hlen : (allF p).length ≤ 1000000 := allS_len hf (h8 hv) (h3 hv) (fullN p)
    obtain ⟨q, hqp⟩ : ∃ q, p.ps[i]? = some q := ⟨_, List.getElem?_eq_getElem (by omega)⟩
    have hqn := postN_of hqp
    obtain ⟨q1, q2, q3, q4, q5, q6⟩ := hf.posts q (List.mem_of_getElem? hqp)
    have hs1 := hf.s1
    obtain ⟨pb, po, rfl, _, _⟩ := postsIn_at hp.1 (by omega)
    rw [hR]
    refine .mk <| enter (n := 59) Try.func20 rfl rfl rfl (by repeat (first | exact Fill.nil | apply Fill.cons)) ?_
    refine cw_seq ?_
    refine cw_region ?_
    refine lstep rfl rfl rfl (run_boxN (.tmp rfl)) ?_
    intro b2 _
    refine lstep rfl rfl rfl (run_alloc zr32) ?_
    intro b4 _
    refine lstepB rfl rfl rfl (run_assign .const) ?_
    refine lnil ?_
    refine xw_then ?_
    refine cw_seq ?_
    refine cw_pivot (j := 4) (σ1 := [0, 1, 2, 3]) (σ2 := [5, 6, 7, 8, 9]) [⟨0, [1], [], [], 0⟩, ⟨0, [1], [], [], 0⟩, ⟨0, [], [], [], 0⟩, ⟨0, [], [], [], 6⟩, ⟨0, [], [], [], 15⟩, ⟨0, [], [], [], 31⟩, ⟨0, [], [], [], 63⟩, ⟨0, [], [], [], 63⟩, ⟨0, [], [], [], 127⟩, ⟨0, [], [], [], 511⟩] [(0, _), (1, _)] (by kernel_rfl) (by kernel_rfl) rfl ?_
    refine .det (B := []) rfl rfl (.inl rfl) (.cons rfl .nil) .nil rfl (RunB.lr (run_loadN (.tmp rfl) kd25 sz25 (by repeat (first | exact List.Mem.head _ | apply List.Mem.tail)) (by repeat (first | exact Sub.done | apply Sub.take | apply Sub.skip)))) ?_
    refine .det (B := []) rfl rfl (.inl rfl) (.cons rfl .nil) .nil rfl (RunB.lr (run_loadN (.tmp rfl) kd25 sz25 (by repeat (first | exact List.Mem.head _ | apply List.Mem.tail)) (by repeat (first | exact Sub.done | apply Sub.take | apply Sub.skip)))) ?_
    refine .det (B := []) rfl rfl (.inl rfl) .nil .nil rfl (RunB.lr (run_move (.tmp rfl))) ?_
    refine .det (B := []) rfl rfl (.inl rfl) .nil .nil rfl (RunB.lr (run_call1 cb36 (.cons (.tmp rfl) (.cons (.tmp rfl) .nil)) (fun w' _ => pegK _ _ _ _ _ _ _ _ w' hm))) ?_
    refine .nil ?_
    refine pv_call (F := fun (s : Option Addr × Nat) w' => ∃ lo, (∀ b, blk [(b4, Obj.cells [.int .i64 0, .int .i64 0].toArray 32 (0, 0)), (b2, Obj.cells [.int .i64 p.side, .slice (some ⟨pb, po, none⟩) p.ps.length pc, .slice la p.ls.length lc].toArray 25 (0, 0))] b → b < lo) ∧ TruthsIn lo w' s.1 (allF p)) (r := fun s => .tuple #[.slice s.1 (allF p).length s.2, .int .i64 0]) (ts2 := [0, 1]) rfl cb47 (.cons (.tmp rfl) (.cons (.tmp rfl) .nil)) (.cons rfl (.cons rfl .nil)) (by decide) (fun w' hS => (openOk ho pc lc hm hm2 h8 h3 w' (hp.kept hS.kept)).mono fun e w2 ⟨s, h1, h2, h3⟩ => ⟨s, ⟨w'.heap.size, blk_lt hS, h1⟩, h2, h3⟩) ?_
    rintro ⟨oa, oc⟩ w1 ⟨lo, hlo, ht⟩ hB
    refine .det (B := []) rfl rfl (.inl rfl) .nil .nil rfl (RunB.lr (run_move (.tmp rfl))) ?_
    refine .det (B := []) rfl rfl (.inl rfl) .nil .nil rfl (RunB.lr (run_extract (.tmp rfl) rfl)) ?_
    refine .det (B := []) rfl rfl (.inl rfl) .nil .nil rfl (RunB.lr (run_extract (.tmp rfl) rfl)) ?_
    refine .det (B := []) rfl rfl (.inl rfl) .nil .nil rfl (RunB.lr (run_assign (.tmp rfl))) ?_
    refine .det (B := []) rfl rfl (.inl rfl) .nil .nil rfl (RunB.lr (run_assign (.tmp rfl))) ?_
    refine chain_nil (ts := [0, 1]) (.cons rfl (.cons rfl .nil)) (by decide) ?_
    refine xw_then ?_
    refine cw_seq ?_
    refine cw_seq ?_
    refine cw_region ?_
    refine lstepB rfl rfl rfl (run_move (.tmp rfl)) ?_
    refine lstepB rfl rfl rfl (run_neq (.tmp rfl) .const (by first | exact decide_eq_true (by omega) | exact decide_eq_false (by omega) | exact rfl)) ?_
    refine lnil ?_
    refine xw_then ?_
    refine cw_cond_false (.tmp rfl) ?_
    refine cw_skip ?_
    refine xw_then ?_
    refine cw_seq ?_
    refine cw_region ?_
    refine lstepB rfl rfl rfl (run_build_at .nil (fun w => bd32_ w)) ?_
    refine lstep rfl rfl rfl (run_alloc zr32) ?_
    intro b8 _
    refine lstep0 rfl rfl (run_storeN (.tmp rfl) (.tmp rfl) rfl sz32 rfl (by repeat (first | exact Upd.here | apply Upd.there)) (by repeat (first | exact Put.done | apply Put.put | apply Put.skip))) ?_
    refine lstepB rfl rfl rfl (run_assign .const) ?_
    refine lnil ?_
    refine xw_then ?_
    refine cw_seq ?_
    refine cw_seq ?_
    refine cw_region ?_
    refine lstepB rfl rfl rfl (run_assign .const) ?_
    refine lnil ?_
    refine xw_then ?_
    refine cw_block ?_
    refine cw_loop (S := BS) (fun z => [(9, .bool z.f), (10, .int .i64 (z.k : Int))]) [(1, _), (2, _), (4, _), (5, _), (6, _), (8, _)] (fun z => [(b8, Obj.cells [.int .i64 z.e.lo, .int .i64 z.e.hi].toArray 32 (0, 0)), (b4, Obj.cells [.int .i64 0, .int .i64 0].toArray 32 (0, 0)), (b2, Obj.cells [.int .i64 p.side, .slice (some ⟨pb, po, none⟩) p.ps.length pc, .slice la p.ls.length lc].toArray 25 (0, 0))]) (fun z => z.e = endsG (backsS p i ((allF p).take z.k)) ∧ z.f = z.e.some ∧ z.k ≤ (allF p).length) (fun z => (allF p).length - z.k) ⟨0, false, ⟨0, 0, false⟩⟩ ⟨rfl, rfl, Nat.zero_le _⟩ (by repeat (first | exact Less.nil | refine Less.cons rfl ?_)) (by repeat (first | exact Pick.nil | (apply Pick.cons; focus (repeat (first | exact Del.here | apply Del.there))))) ?_
    intro z hz
    obtain ⟨k, f, e⟩ := z
    obtain ⟨he, hfe, hk⟩ := hz
    simp only at he hfe hk
    try dsimp only
    refine cw_seq ?_
    refine cw_seq ?_
    refine cw_region ?_
    refine lstepB rfl rfl rfl (run_move (.tmp rfl)) ?_
    refine lstepB rfl rfl rfl (run_move (.tmp rfl)) ?_
    refine lstepB rfl rfl rfl (run_len (.tmp rfl) sl80) ?_
    refine lstepB rfl rfl rfl (run_lss (.tmp rfl) (.tmp rfl) (by first | exact decide_eq_true (by omega) | exact decide_eq_false (by omega) | exact rfl)) ?_
    refine lnil ?_
    refine xw_then ?_
    refine cw_cond_p (.tmp rfl) (fun hlt => ?_) (fun hge => ?_)
    ·
      have hlt' : (k : Int) < ((allF p).length : Int) := hlt
      have hkl : k < (allF p).length := by omega
      obtain ⟨⟨l, mv⟩, hx⟩ : ∃ x, (allF p)[k]? = some x := ⟨_, List.getElem?_eq_getElem hkl⟩
      obtain ⟨b, qa, c, rfl, hb, c1, c2, hq⟩ := ht k _ hx
      obtain ⟨r1, r2, r3, r4⟩ := allF_range hf hx
      simp only at r1 r2 r3 r4 c1 c2 hq
      obtain ⟨s, hs⟩ : ∃ s, l[i]? = some s := ⟨_, List.getElem?_eq_getElem (by omega)⟩
      have pl_s : plAt l (i : Nat) = s := by simp [plAt, List.getD_eq_getElem?_getD, hs]
      obtain ⟨s1, s2, s3, s4⟩ := r4 _ (List.mem_of_getElem? hs)
      obtain ⟨qb, qo, rfl, hqb, ds1, ds2⟩ := hq i s hs
      have hbk := backs_at (p := p) (i := i) hx
      simp only at hbk
      by_cases hm1 : mv = (i : Int)
      ·
        rw [if_pos hm1, pl_s, hqn] at hbk
        refine cw_skip ?_
        refine xw_then ?_
        refine cw_seq ?_
        refine cw_block ?_
        refine cw_seq ?_
        refine cw_region ?_
        refine lstepB rfl rfl rfl (run_move (.tmp rfl)) ?_
        refine lstepB rfl rfl rfl (run_move (.tmp rfl)) ?_
        refine lstepB rfl rfl rfl (run_indexAddr (off' := k * 2) (.tmp rfl) (.tmp rfl) el80 (by omega) (Nat.zero_add _)) ?_
        refine lstepB rfl rfl rfl (run_fieldAddr (.tmp rfl) fa84_1 (by first | exact Nat.zero_add _ | exact rfl)) ?_
        refine lstepB rfl rfl rfl (run_load1_at (.tmp rfl) kd3 (fun w2 hS => old_of hS hlo hb c2)) ?_
        refine lstepB rfl rfl rfl (run_move (.tmp rfl)) ?_
        refine lstepB rfl rfl rfl (run_eql (.tmp rfl) (.tmp rfl) (by first | exact decide_eq_true (by omega) | exact decide_eq_false (by omega) | exact rfl)) ?_
        refine lnil ?_
        refine xw_then ?_
        refine cw_cond_true (.tmp rfl) ?_
        refine cw_seq ?_
        refine cw_chain2 (σ := [0, 1, 2, 3, 4, 5, 6, 7, 8, 9, 10, 11, 12, 13, 14, 15, 16, 17, 18]) [⟨0, [0], [], [], 0⟩, ⟨0, [], [], [], 0⟩, ⟨0, [], [], [], 0⟩, ⟨0, [], [], [], 6⟩, ⟨0, [], [], [], 14⟩, ⟨0, [], [], [], 30⟩, ⟨0, [], [], [], 0⟩, ⟨0, [], [], [], 126⟩, ⟨0, [], [], [], 254⟩, ⟨0, [], [], [], 0⟩, ⟨0, [2], [], [], 512⟩, ⟨0, [], [], [], 0⟩, ⟨0, [], [], [], 3584⟩, ⟨0, [], [], [], 7680⟩, ⟨0, [], [], [], 16382⟩, ⟨0, [], [], [], 0⟩, ⟨0, [], [], [], 32768⟩, ⟨0, [], [], [], 131071⟩, ⟨0, [], [0], [0], 262143⟩] [(0, _), (1, _), (2, _)] (by kernel_rfl) (by kernel_rfl) rfl ?_
        refine .det (B := []) rfl rfl (.inl rfl) (.cons rfl .nil) .nil rfl (RunB.lr (run_loadN (.tmp rfl) kd32 sz32 (by repeat (first | exact List.Mem.head _ | apply List.Mem.tail)) (by repeat (first | exact Sub.done | apply Sub.take | apply Sub.skip)))) ?_
        refine .det (B := []) rfl rfl (.inl rfl) .nil .nil rfl (RunB.lr (run_move (.tmp rfl))) ?_
        refine .det (B := []) rfl rfl (.inl rfl) .nil .nil rfl (RunB.lr (run_move (.tmp rfl))) ?_
        refine .det (B := []) rfl rfl (.inl rfl) .nil .nil rfl (RunB.lr (run_indexAddr (off' := k * 2) (.tmp rfl) (.tmp rfl) el80 (by omega) (Nat.zero_add _))) ?_
        refine .det (B := []) rfl rfl (.inl rfl) .nil .nil rfl (RunB.lr (run_fieldAddr (.tmp rfl) fa84_0 (by first | exact Nat.zero_add _ | exact rfl))) ?_
        refine .det (B := []) rfl rfl (.inl rfl) .nil .nil rfl (RunB.lr (run_load1_at (.tmp rfl) kd46 (fun w2 hS => old_of hS hlo hb c1))) ?_
        refine .det (B := []) rfl rfl (.inl rfl) .nil .nil rfl (RunB.lr (run_move (.tmp rfl))) ?_
        refine .det (B := []) rfl rfl (.inl rfl) .nil .nil rfl (RunB.lr (run_indexAddr (.tmp rfl) (.tmp rfl) el46 (by omega) rfl)) ?_
        refine .det (B := []) rfl rfl (.inl rfl) .nil .nil rfl (RunB.lr (run_loadN_at (l := [.int .i64 s.x, .int .i64 s.y]) (.tmp rfl) kd52 sz52 rfl (fun w2 hS j v hj => cells2 (old_of hS hlo hqb ds1) (old_of hS hlo hqb ds2) j v hj))) ?_
        refine .det (B := []) rfl rfl (.inl rfl) .nil .nil rfl (RunB.lr (run_fieldAddr (.tmp rfl) fa25_1 (by first | exact Nat.zero_add _ | exact rfl))) ?_
        refine .det (B := []) rfl rfl (.inl rfl) (.cons rfl .nil) .nil rfl (RunB.lr (run_load1 (.tmp rfl) kd22 (by repeat (first | exact List.Mem.head _ | apply List.Mem.tail)) (by exact rfl))) ?_
        refine .det (B := []) rfl rfl (.inl rfl) .nil .nil rfl (RunB.lr (run_move (.tmp rfl))) ?_
        refine .det (B := []) rfl rfl (.inl rfl) .nil .nil rfl (RunB.lr (run_indexAddr (.tmp rfl) (.tmp rfl) el22 (by omega) rfl)) ?_
        refine .det (B := []) rfl rfl (.inl rfl) .nil .nil rfl (RunB.lr (run_loadN_at (l := [.int .i64 q.xlo, .int .i64 q.xhi, .int .i64 q.ylo, .int .i64 q.yhi]) (.tmp rfl) kd56 sz56 rfl (fun w2 hS j v hj => posts_cell ((hp.kept (hB _ w2 hS)).1) hqp j v hj))) ?_
        refine .det (B := []) rfl rfl (.inl rfl) .nil .nil rfl (RunB.lr (run_call1 cb32 (.cons (.tmp rfl) (.cons (.tmp rfl) .nil)) (fun w _ => far_any s q (by omega) q2 q5 (by omega) w))) ?_
        refine .det (B := []) rfl rfl (.inl rfl) .nil .nil rfl (RunB.lr (run_move (.tmp rfl))) ?_
        refine .det (B := []) rfl rfl (.inl rfl) .nil .nil rfl (RunB.lr (run_not (.tmp rfl) (by first | exact Bool.not_true | exact Bool.not_false | exact rfl))) ?_
        refine .det (B := []) rfl rfl (.inl rfl) .nil .nil rfl (RunB.lr (run_call1 cb55 (.cons (.tmp rfl) (.cons (.tmp rfl) (.cons (.tmp rfl) .nil))) (fun w _ => hullK e _ _ (by rw [hfe]) w))) ?_
        refine .det (B := [(0, (_, _))]) rfl rfl (.inl rfl) .nil (.cons rfl .nil) rfl (lr_storeN (.tmp rfl) (.tmp rfl) rfl sz32 rfl (by repeat (first | exact Put.done | apply Put.put | apply Put.skip))) ?_
        refine chain_nil (ts := [0, 1, 2]) (.cons rfl (.cons rfl (.cons rfl .nil))) (by decide) ?_
        refine xw_then ?_
        refine cw_region ?_
        refine lstepB rfl rfl rfl (run_assign .const) ?_
        refine lnil ?_
        refine xw_in ?_
        refine xw_then ?_
        refine cw_region ?_
        refine lstepB rfl rfl rfl (run_move (.tmp rfl)) ?_
        refine lstepB rfl rfl rfl (run_add (.tmp rfl) .const (by first | exact IntWalk.i64_in _ (by omega) | exact rfl)) ?_
        refine lstepB rfl rfl rfl (run_assign (.tmp rfl)) ?_
        refine lnil ?_
        exact xw_round ⟨k + 1, true, e.add (backI s q)⟩ ⟨by simp only; rw [hbk, endsG_snoc, ← he], (add_some _ _).symm, by simp only; omega⟩ (by simp only; omega) (by repeat (first | exact Less.nil | refine Less.cons rfl ?_)) (by repeat (first | exact Pick.nil | (apply Pick.cons; focus (repeat (first | exact Del.here | apply Del.there)))))
      ·
        rw [if_neg hm1] at hbk
        refine cw_skip ?_
        refine xw_then ?_
        refine cw_seq ?_
        refine cw_block ?_
        refine cw_seq ?_
        refine cw_region ?_
        refine lstepB rfl rfl rfl (run_move (.tmp rfl)) ?_
        refine lstepB rfl rfl rfl (run_move (.tmp rfl)) ?_
        refine lstepB rfl rfl rfl (run_indexAddr (off' := k * 2) (.tmp rfl) (.tmp rfl) el80 (by omega) (Nat.zero_add _)) ?_
        refine lstepB rfl rfl rfl (run_fieldAddr (.tmp rfl) fa84_1 (by first | exact Nat.zero_add _ | exact rfl)) ?_
        refine lstepB rfl rfl rfl (run_load1_at (.tmp rfl) kd3 (fun w2 hS => old_of hS hlo hb c2)) ?_
        refine lstepB rfl rfl rfl (run_move (.tmp rfl)) ?_
        refine lstepB rfl rfl rfl (run_eql (.tmp rfl) (.tmp rfl) (by first | exact decide_eq_true (by omega) | exact decide_eq_false (by omega) | exact rfl)) ?_
        refine lnil ?_
        refine xw_then ?_
        refine cw_cond_false (.tmp rfl) ?_
        refine cw_skip ?_
        refine xw_in ?_
        refine xw_then ?_
        refine cw_region ?_
        refine lstepB rfl rfl rfl (run_move (.tmp rfl)) ?_
        refine lstepB rfl rfl rfl (run_add (.tmp rfl) .const (by first | exact IntWalk.i64_in _ (by omega) | exact rfl)) ?_
        refine lstepB rfl rfl rfl (run_assign (.tmp rfl)) ?_
        refine lnil ?_
        exact xw_round ⟨k + 1, f, e⟩ ⟨by simp only; rw [hbk]; exact he, hfe, by simp only; omega⟩ (by simp only; omega) (by repeat (first | exact Less.nil | refine Less.cons rfl ?_)) (by repeat (first | exact Pick.nil | (apply Pick.cons; focus (repeat (first | exact Del.here | apply Del.there)))))
    ·
      have hge' : ¬ (k : Int) < ((allF p).length : Int) := hge
      rw [List.take_of_length_le (by omega)] at he
      have hs := endsG_some (backsS p i (allF p))
      rw [← he, ← hfe] at hs
      cases f with
      | false =>
        refine cw_exit ?_
        refine xw_then_exit ?_
        refine xw_then_exit ?_
        refine xw_in_exit ?_
        refine xw_then ?_
        refine cw_seq ?_
        refine cw_seq ?_
        refine cw_region ?_
        refine lstepB rfl rfl rfl (run_move (.tmp rfl)) ?_
        refine lstepB rfl rfl rfl (run_not (.tmp rfl) (by first | exact Bool.not_true | exact Bool.not_false | exact rfl)) ?_
        refine lnil ?_
        refine xw_then ?_
        refine cw_cond_true (.tmp rfl) ?_
        refine cw_seq ?_
        refine cw_region ?_
        refine lstepB rfl rfl rfl (run_build_at .nil (fun w => bd32_ w)) ?_
        refine lstep0 rfl rfl (run_storeN (.tmp rfl) (.tmp rfl) rfl sz32 rfl (by repeat (first | exact Upd.here | apply Upd.there)) (by repeat (first | exact Put.done | apply Put.put | apply Put.skip))) ?_
        refine lstepB rfl rfl rfl (run_assign .const) ?_
        refine lnil ?_
        refine xw_then ?_
        refine cw_ret ?_
        refine xw_then_ret ?_
        have hb : backsS p i (allF p) = [] := by
          have := of_decide_eq_false hs.symm
          exact Classical.byContradiction this
        rw [if_pos hb]
        refine xw_retC2 rfl rfl rfl kd32 sz32 (by repeat (first | exact List.Mem.head _ | apply List.Mem.tail)) (by repeat (first | exact Sub.done | apply Sub.take | apply Sub.skip)) (fun w' hS => ⟨rfl, hB _ w' hS⟩)
      | true =>
        refine cw_exit ?_
        refine xw_then_exit ?_
        refine xw_then_exit ?_
        refine xw_in_exit ?_
        refine xw_then ?_
        refine cw_seq ?_
        refine cw_seq ?_
        refine cw_region ?_
        refine lstepB rfl rfl rfl (run_move (.tmp rfl)) ?_
        refine lstepB rfl rfl rfl (run_not (.tmp rfl) (by first | exact Bool.not_true | exact Bool.not_false | exact rfl)) ?_
        refine lnil ?_
        refine xw_then ?_
        refine cw_cond_false (.tmp rfl) ?_
        refine cw_skip ?_
        refine xw_then ?_
        refine cw_seq ?_
        refine cw_region ?_
        refine lstepB rfl rfl rfl (run_loadN (.tmp rfl) kd32 sz32 (by repeat (first | exact List.Mem.head _ | apply List.Mem.tail)) (by repeat (first | exact Sub.done | apply Sub.take | apply Sub.skip))) ?_
        refine lstep0 rfl rfl (run_storeN (.tmp rfl) (.tmp rfl) rfl sz32 rfl (by repeat (first | exact Upd.here | apply Upd.there)) (by repeat (first | exact Put.done | apply Put.put | apply Put.skip))) ?_
        refine lstepB rfl rfl rfl (run_assign .const) ?_
        refine lnil ?_
        refine xw_then ?_
        refine cw_ret ?_
        rw [if_neg (of_decide_eq_true hs.symm), ← he]
        refine xw_retC2 rfl rfl rfl kd32 sz32 (by repeat (first | exact List.Mem.head _ | apply List.Mem.tail)) (by repeat (first | exact Sub.done | apply Sub.take | apply Sub.skip)) (fun w' hS => ⟨rfl, hB _ w' hS⟩)
end Go.Proofs.Ytkjciobphbcknaa
namespace Go.Proofs.Ytkjciobphbcknaa
open Go.RowKit En

/-- Which places have been seen. -/
def seenC (M : List Pl) : List Value := (List.range 256).map fun c : Nat => Value.bool (decide ((Pl.mk ((c / 16 : Nat) : Int) ((c % 16 : Nat) : Int)) ∈ M))
set_option maxRecDepth 100000 in
theorem zr101 : zeroB Try.prog 101 = some (seenC []) := by kernel_rfl
theorem seenC_len (M : List Pl) : (seenC M).length = 256 := by simp [seenC]
theorem seen_at (M : List Pl) {X Y : Nat} (hX : X < 16) (hY : Y < 16) {b : Bool} (hb : decide (Pl.mk (X : Int) (Y : Int) ∈ M) = b) : (seenC M)[0 + X * 16 + Y * 1]? = some (.bool b) := by
  subst hb
  have h1 : (0 + X * 16 + Y * 1) / 16 = X := by omega
  have h2 : (0 + X * 16 + Y * 1) % 16 = Y := by omega
  rw [seenC, List.getElem?_map, List.getElem?_range (by omega)]
  simp only [Option.map_some, h1, h2]
theorem put_one : ∀ (cs : List Value) (o : Nat) (v : Value), o < cs.length → Put cs o [v] (cs.set o v)
  | [], o, v, h => by simp at h
  | x :: r, 0, v, _ => .put .done
  | x :: r, o + 1, v, h => .skip (put_one r o v (by simpa using h))
theorem seen_put (M : List Pl) {X Y : Nat} (hX : X < 16) (hY : Y < 16) : Put (seenC M) (0 + X * 16 + Y * 1) [.bool true] (seenC (addPl M (Pl.mk (X : Int) (Y : Int)))) := by
  have h := put_one (seenC M) (0 + X * 16 + Y * 1) (.bool true) (by rw [seenC_len]; omega)
  have e : (seenC M).set (0 + X * 16 + Y * 1) (.bool true) = seenC (addPl M (Pl.mk (X : Int) (Y : Int))) := by
    apply List.ext_getElem?
    intro c
    rw [List.getElem?_set]
    by_cases hc : c < 256
    · rw [seenC_len]
      simp only [seenC, List.getElem?_map, List.getElem?_range hc, Option.map_some]
      by_cases hcc : 0 + X * 16 + Y * 1 = c
      · have h1 : c / 16 = X := by omega
        have h2 : c % 16 = Y := by omega
        rw [if_pos hcc, if_pos (by omega), h1, h2]
        simp [mem_addPl]
      · rw [if_neg hcc]
        have hne : Pl.mk ((c / 16 : Nat) : Int) ((c % 16 : Nat) : Int) ≠ Pl.mk (X : Int) (Y : Int) := by
          intro e
          simp only [Pl.mk.injEq] at e
          omega
        congr 2
        rw [decide_eq_decide, mem_addPl]
        exact ⟨.inl, fun h => h.resolve_right hne⟩
    · rw [if_neg (by omega), List.getElem?_eq_none (by rw [seenC_len]; omega), List.getElem?_eq_none (by rw [seenC_len]; omega)]
  rw [← e]; exact h
structure PS where
  k : Nat
  m : Nat
  M : List Pl
set_option maxRecDepth 100000 in
set_option maxHeartbeats 4000000 in
theorem placesRK {p : PegsD} {pa la : Option Addr} (n : Int) (pc lc : Nat) (hm : p.ps.length ≤ 9223372036854775807) (hm2 : p.ls.length ≤ 9223372036854775807) (h8 : validB p = true → p.side ≤ 8) (h3 : validB p = true → p.ps.length ≤ 3) (w : World) (hp : PegsIn w p pa la) :
    Gives Try.prog 18 [.agg [.int .i64 p.side, .slice pa p.ps.length pc, .slice la p.ls.length lc].toArray, .int .i64 n] w (.tuple [.int .i64 (valOf 0 (placesR p n)), .int .i64 (errOf (placesR p n))].toArray) := by
  cases ho : openR p (isPegB p.ps.length n) with
  | error m =>
    obtain ⟨hR, hm0⟩ := places_err ho
    rw [hR]
    refine .mk <| enter (n := 54) Try.func18 rfl rfl rfl (by repeat (first | exact Fill.nil | apply Fill.cons)) ?_
    refine cw_seq ?_
    refine cw_region ?_
    refine lstep rfl rfl rfl (run_boxN (.tmp rfl)) ?_
    intro b2 _
    refine lstepB rfl rfl rfl (run_assign .const) ?_
    refine lstepB rfl rfl rfl (run_assign .const) ?_
    refine lnil ?_
    refine xw_then ?_
    refine cw_seq ?_
    refine cw_chain2 (σ := [0, 1, 2, 3, 4, 5, 6, 7, 8, 9]) [⟨0, [0], [], [], 0⟩, ⟨0, [0], [], [], 0⟩, ⟨0, [], [], [], 0⟩, ⟨0, [], [], [], 6⟩, ⟨0, [], [], [], 15⟩, ⟨0, [], [], [], 31⟩, ⟨0, [], [], [], 63⟩, ⟨0, [], [], [], 63⟩, ⟨0, [], [], [], 127⟩, ⟨0, [], [], [], 511⟩] [(0, _)] (by kernel_rfl) (by kernel_rfl) rfl ?_
    refine .det (B := []) rfl rfl (.inl rfl) (.cons rfl .nil) .nil rfl (RunB.lr (run_loadN (.tmp rfl) kd25 sz25 (by repeat (first | exact List.Mem.head _ | apply List.Mem.tail)) (by repeat (first | exact Sub.done | apply Sub.take | apply Sub.skip)))) ?_
    refine .det (B := []) rfl rfl (.inl rfl) (.cons rfl .nil) .nil rfl (RunB.lr (run_loadN (.tmp rfl) kd25 sz25 (by repeat (first | exact List.Mem.head _ | apply List.Mem.tail)) (by repeat (first | exact Sub.done | apply Sub.take | apply Sub.skip)))) ?_
    refine .det (B := []) rfl rfl (.inl rfl) .nil .nil rfl (RunB.lr (run_move (.tmp rfl))) ?_
    refine .det (B := []) rfl rfl (.inl rfl) .nil .nil rfl (RunB.lr (run_call1 cb36 (.cons (.tmp rfl) (.cons (.tmp rfl) .nil)) (fun w' _ => pegK _ _ _ _ _ _ _ _ w' hm))) ?_
    refine .det (B := []) rfl rfl (.inl rfl) .nil .nil rfl (RunB.lr (run_call1 cb47 (.cons (.tmp rfl) (.cons (.tmp rfl) .nil)) (fun w' hS => openErr ho pc lc hm hm2 h8 h3 w' (hp.kept hS.kept)))) ?_
    refine .det (B := []) rfl rfl (.inl rfl) .nil .nil rfl (RunB.lr (run_move (.tmp rfl))) ?_
    refine .det (B := []) rfl rfl (.inl rfl) .nil .nil rfl (RunB.lr (run_extract (.tmp rfl) rfl)) ?_
    refine .det (B := []) rfl rfl (.inl rfl) .nil .nil rfl (RunB.lr (run_extract (.tmp rfl) rfl)) ?_
    refine .det (B := []) rfl rfl (.inl rfl) .nil .nil rfl (RunB.lr (run_assign (.tmp rfl))) ?_
    refine .det (B := []) rfl rfl (.inl rfl) .nil .nil rfl (RunB.lr (run_assign (.tmp rfl))) ?_
    refine chain_nil (ts := [0]) (.cons rfl .nil) (by decide) ?_
    refine xw_then ?_
    refine cw_seq ?_
    refine cw_seq ?_
    refine cw_region ?_
    refine lstepB rfl rfl rfl (run_move (.tmp rfl)) ?_
    refine lstepB rfl rfl rfl (run_neq (.tmp rfl) .const (by first | exact decide_eq_true (by omega) | exact decide_eq_false (by omega) | exact rfl)) ?_
    refine lnil ?_
    refine xw_then ?_
    refine cw_cond_true (.tmp rfl) ?_
    refine cw_seq ?_
    refine cw_region ?_
    refine lstepB rfl rfl rfl (run_move (.tmp rfl)) ?_
    refine lstepB rfl rfl rfl (run_assign .const) ?_
    refine lstepB rfl rfl rfl (run_assign (.tmp rfl)) ?_
    refine lnil ?_
    refine xw_then ?_
    refine cw_ret ?_
    refine xw_then_ret ?_
    refine xw_ret2 Try.results18 rfl rfl (fun w' hS => ⟨rfl, hS.kept⟩)
  | ok L =>
    obtain ⟨hv, hpg, rfl, hne⟩ := openR_ok ho
    have hf := fit_of_valid hv
    have h4 := hf.n4
    have h8' := h8 hv
    obtain ⟨hn0, hn1⟩ := isPegB_iff.1 hpg
    obtain ⟨i, rfl⟩ := Int.eq_ofNat_of_zero_le hn0
    have hR := places_eq hv (i := i) (by omega) hne
    have hlen : (allF p).length ≤ 1000000 := allS_len hf (h8 hv) (h3 hv) (fullN p)
    rw [hR]
    refine .mk <| enter (n := 54) Try.func18 rfl rfl rfl (by repeat (first | exact Fill.nil | apply Fill.cons)) ?_
    refine cw_seq ?_
    refine cw_region ?_
    refine lstep rfl rfl rfl (run_boxN (.tmp rfl)) ?_
    intro b2 _
    refine lstepB rfl rfl rfl (run_assign .const) ?_
    refine lstepB rfl rfl rfl (run_assign .const) ?_
    refine lnil ?_
    refine xw_then ?_
    refine cw_seq ?_
    refine cw_pivot (j := 4) (σ1 := [0, 1, 2, 3]) (σ2 := [5, 6, 7, 8, 9]) [⟨0, [0], [], [], 0⟩, ⟨0, [0], [], [], 0⟩, ⟨0, [], [], [], 0⟩, ⟨0, [], [], [], 6⟩, ⟨0, [], [], [], 15⟩, ⟨0, [], [], [], 31⟩, ⟨0, [], [], [], 63⟩, ⟨0, [], [], [], 63⟩, ⟨0, [], [], [], 127⟩, ⟨0, [], [], [], 511⟩] [(0, _)] (by kernel_rfl) (by kernel_rfl) rfl ?_
    refine .det (B := []) rfl rfl (.inl rfl) (.cons rfl .nil) .nil rfl (RunB.lr (run_loadN (.tmp rfl) kd25 sz25 (by repeat (first | exact List.Mem.head _ | apply List.Mem.tail)) (by repeat (first | exact Sub.done | apply Sub.take | apply Sub.skip)))) ?_
    refine .det (B := []) rfl rfl (.inl rfl) (.cons rfl .nil) .nil rfl (RunB.lr (run_loadN (.tmp rfl) kd25 sz25 (by repeat (first | exact List.Mem.head _ | apply List.Mem.tail)) (by repeat (first | exact Sub.done | apply Sub.take | apply Sub.skip)))) ?_
    refine .det (B := []) rfl rfl (.inl rfl) .nil .nil rfl (RunB.lr (run_move (.tmp rfl))) ?_
    refine .det (B := []) rfl rfl (.inl rfl) .nil .nil rfl (RunB.lr (run_call1 cb36 (.cons (.tmp rfl) (.cons (.tmp rfl) .nil)) (fun w' _ => pegK _ _ _ _ _ _ _ _ w' hm))) ?_
    refine .nil ?_
    refine pv_call (F := fun (s : Option Addr × Nat) w' => ∃ lo, (∀ b, blk [(b2, Obj.cells [.int .i64 p.side, .slice pa p.ps.length pc, .slice la p.ls.length lc].toArray 25 (0, 0))] b → b < lo) ∧ TruthsIn lo w' s.1 (allF p)) (r := fun s => .tuple #[.slice s.1 (allF p).length s.2, .int .i64 0]) (ts2 := [0]) rfl cb47 (.cons (.tmp rfl) (.cons (.tmp rfl) .nil)) (.cons rfl .nil) (by decide) (fun w' hS => (openOk ho pc lc hm hm2 h8 h3 w' (hp.kept hS.kept)).mono fun e w2 ⟨s, h1, h2, h3⟩ => ⟨s, ⟨w'.heap.size, blk_lt hS, h1⟩, h2, h3⟩) ?_
    rintro ⟨oa, oc⟩ w1 ⟨lo, hlo, ht⟩ hB
    refine .det (B := []) rfl rfl (.inl rfl) .nil .nil rfl (RunB.lr (run_move (.tmp rfl))) ?_
    refine .det (B := []) rfl rfl (.inl rfl) .nil .nil rfl (RunB.lr (run_extract (.tmp rfl) rfl)) ?_
    refine .det (B := []) rfl rfl (.inl rfl) .nil .nil rfl (RunB.lr (run_extract (.tmp rfl) rfl)) ?_
    refine .det (B := []) rfl rfl (.inl rfl) .nil .nil rfl (RunB.lr (run_assign (.tmp rfl))) ?_
    refine .det (B := []) rfl rfl (.inl rfl) .nil .nil rfl (RunB.lr (run_assign (.tmp rfl))) ?_
    refine chain_nil (ts := [0]) (.cons rfl .nil) (by decide) ?_
    refine xw_then ?_
    refine cw_seq ?_
    refine cw_seq ?_
    refine cw_region ?_
    refine lstepB rfl rfl rfl (run_move (.tmp rfl)) ?_
    refine lstepB rfl rfl rfl (run_neq (.tmp rfl) .const (by first | exact decide_eq_true (by omega) | exact decide_eq_false (by omega) | exact rfl)) ?_
    refine lnil ?_
    refine xw_then ?_
    refine cw_cond_false (.tmp rfl) ?_
    refine cw_skip ?_
    refine xw_then ?_
    refine cw_seq ?_
    refine cw_region ?_
    refine lstep rfl rfl rfl (run_alloc zr101) ?_
    intro b8 _
    refine lnil ?_
    refine xw_then ?_
    refine cw_seq ?_
    refine cw_region ?_
    refine lstepB rfl rfl rfl (run_assign .const) ?_
    refine lnil ?_
    refine xw_then ?_
    refine cw_seq ?_
    refine cw_seq ?_
    refine cw_region ?_
    refine lstepB rfl rfl rfl (run_assign .const) ?_
    refine lnil ?_
    refine xw_then ?_
    refine cw_block ?_
    refine cw_loop (S := PS) (fun z => [(9, .int .i64 (z.m : Int)), (10, .int .i64 (z.k : Int))]) [(1, _), (4, _), (5, _), (6, _), (8, _)] (fun z => [(b8, Obj.cells (seenC z.M).toArray 101 (0, 0)), (b2, Obj.cells [.int .i64 p.side, .slice pa p.ps.length pc, .slice la p.ls.length lc].toArray 25 (0, 0))]) (fun z => z.M = plSet (((allF p).take z.k).map fun x => plAt x.1 i) ∧ z.m = z.M.length ∧ z.k ≤ (allF p).length) (fun z => (allF p).length - z.k) ⟨0, 0, []⟩ ⟨rfl, rfl, Nat.zero_le _⟩ (by repeat (first | exact Less.nil | refine Less.cons rfl ?_)) (by repeat (first | exact Pick.nil | (apply Pick.cons; focus (repeat (first | exact Del.here | apply Del.there))))) ?_
    intro z hz
    obtain ⟨k, m, M⟩ := z
    obtain ⟨he, hmM, hk⟩ := hz
    simp only at he hmM hk
    try dsimp only
    refine cw_seq ?_
    refine cw_seq ?_
    refine cw_region ?_
    refine lstepB rfl rfl rfl (run_move (.tmp rfl)) ?_
    refine lstepB rfl rfl rfl (run_move (.tmp rfl)) ?_
    refine lstepB rfl rfl rfl (run_len (.tmp rfl) sl80) ?_
    refine lstepB rfl rfl rfl (run_lss (.tmp rfl) (.tmp rfl) (by first | exact decide_eq_true (by omega) | exact decide_eq_false (by omega) | exact rfl)) ?_
    refine lnil ?_
    refine xw_then ?_
    refine cw_cond_p (.tmp rfl) (fun hlt => ?_) (fun hge => ?_)
    ·
      have hlt' : (k : Int) < ((allF p).length : Int) := hlt
      have hkl : k < (allF p).length := by omega
      obtain ⟨⟨l, mv⟩, hx⟩ : ∃ x, (allF p)[k]? = some x := ⟨_, List.getElem?_eq_getElem hkl⟩
      obtain ⟨b, qa, c, rfl, hb, c1, c2, hq⟩ := ht k _ hx
      obtain ⟨r1, r2, r3, r4⟩ := allF_range hf hx
      simp only at r1 r2 r3 r4 c1 c2 hq
      obtain ⟨s, hs⟩ : ∃ s, l[i]? = some s := ⟨_, List.getElem?_eq_getElem (by omega)⟩
      have pl_s : plAt l (i : Nat) = s := by simp [plAt, List.getD_eq_getElem?_getD, hs]
      obtain ⟨s1, s2, s3, s4⟩ := r4 _ (List.mem_of_getElem? hs)
      obtain ⟨qb, qo, rfl, hqb, ds1, ds2⟩ := hq i s hs
      obtain ⟨X, Y, rfl⟩ : ∃ X Y : Nat, s = Pl.mk (X : Int) (Y : Int) := by
        obtain ⟨sx, sy⟩ := s
        simp only at s1 s2 s3 s4
        obtain ⟨X, rfl⟩ := Int.eq_ofNat_of_zero_le s1
        obtain ⟨Y, rfl⟩ := Int.eq_ofNat_of_zero_le s3
        exact ⟨X, Y, rfl⟩
      simp only at s1 s2 s3 s4 ds1 ds2
      have hX : X < 16 := by omega
      have hY : Y < 16 := by omega
      have hml : m ≤ 1000000 := by
        rw [hmM, he]
        refine Nat.le_trans (nodup_len _ ((allF p).map fun x => plAt x.1 i) (plSet_nodup _) fun s hs => ?_) (by rw [List.length_map]; exact hlen)
        rw [mem_plSet] at hs
        rw [List.map_take] at hs
        exact List.mem_of_mem_take hs
      have hstep : plSet (((allF p).take (k + 1)).map fun x => plAt x.1 i) = addPl M (Pl.mk (X : Int) (Y : Int)) := by
        rw [take_at hx, List.map_append, List.map_cons, List.map_nil, plSet_snoc, ← he, pl_s]
      by_cases hin : Pl.mk (X : Int) (Y : Int) ∈ M
      ·
        have hadd : addPl M (Pl.mk (X : Int) (Y : Int)) = M := by rw [addPl, if_pos hin]
        have hput := seen_put M hX hY
        rw [hadd] at hput
        refine cw_skip ?_
        refine xw_then ?_
        refine cw_seq ?_
        refine cw_block ?_
        refine cw_seq ?_
        refine cw_region ?_
        refine lstepB rfl rfl rfl (run_move (.tmp rfl)) ?_
        refine lstepB rfl rfl rfl (run_move (.tmp rfl)) ?_
        refine lstepB rfl rfl rfl (run_indexAddr (off' := k * 2) (.tmp rfl) (.tmp rfl) el80 (by omega) (Nat.zero_add _)) ?_
        refine lstepB rfl rfl rfl (run_fieldAddr (.tmp rfl) fa84_0 (by first | exact Nat.zero_add _ | exact rfl)) ?_
        refine lstepB rfl rfl rfl (run_load1_at (.tmp rfl) kd46 (fun w2 hS => old_of hS hlo hb c1)) ?_
        refine lstepB rfl rfl rfl (run_move (.tmp rfl)) ?_
        refine lstepB rfl rfl rfl (run_indexAddr (.tmp rfl) (.tmp rfl) el46 (by omega) rfl) ?_
        refine lstepB rfl rfl rfl (run_loadN_at (l := [.int .i64 (X : Int), .int .i64 (Y : Int)]) (.tmp rfl) kd52 sz52 rfl (fun w2 hS j v hj => cells2 (old_of hS hlo hqb ds1) (old_of hS hlo hqb ds2) j v hj)) ?_
        refine lstep rfl rfl rfl (run_alloc zr52) ?_
        intro b11 _
        refine lstep0 rfl rfl (run_storeN (.tmp rfl) (.tmp rfl) rfl sz52 rfl (by repeat (first | exact Upd.here | apply Upd.there)) (by repeat (first | exact Put.done | apply Put.put | apply Put.skip))) ?_
        refine lnil ?_
        refine xw_then ?_
        refine cw_seq ?_
        refine cw_seq ?_
        refine cw_chain2 (σ := [0, 1, 2, 3, 4, 5, 6, 7]) [⟨0, [], [], [], 0⟩, ⟨0, [0], [], [], 1⟩, ⟨0, [], [], [], 0⟩, ⟨0, [0], [], [], 4⟩, ⟨0, [], [], [], 3⟩, ⟨0, [], [], [], 31⟩, ⟨0, [1], [], [], 63⟩, ⟨0, [], [], [], 127⟩] [(0, _), (1, _), (2, _)] (by kernel_rfl) (by kernel_rfl) rfl ?_
        refine .det (B := []) rfl rfl (.inl rfl) .nil .nil rfl (RunB.lr (run_fieldAddr (.tmp rfl) fa52_0 (by first | exact Nat.zero_add _ | exact rfl))) ?_
        refine .det (B := []) rfl rfl (.inl rfl) (.cons rfl .nil) .nil rfl (RunB.lr (run_load1 (.tmp rfl) kd3 (by repeat (first | exact List.Mem.head _ | apply List.Mem.tail)) (by exact rfl))) ?_
        refine .det (B := []) rfl rfl (.inl rfl) .nil .nil rfl (RunB.lr (run_fieldAddr (.tmp rfl) fa52_1 (by first | exact Nat.zero_add _ | exact rfl))) ?_
        refine .det (B := []) rfl rfl (.inl rfl) (.cons rfl .nil) .nil rfl (RunB.lr (run_load1 (.tmp rfl) kd3 (by repeat (first | exact List.Mem.head _ | apply List.Mem.tail)) (by exact rfl))) ?_
        refine .det (B := []) rfl rfl (.inl rfl) .nil .nil rfl (RunB.lr (run_indexAddr_arr (.tmp rfl) (.tmp rfl) ar101 (by omega) rfl)) ?_
        refine .det (B := []) rfl rfl (.inl rfl) .nil .nil rfl (RunB.lr (run_indexAddr_arr (.tmp rfl) (.tmp rfl) ar100 (by omega) rfl)) ?_
        refine .det (B := []) rfl rfl (.inl rfl) (.cons rfl .nil) .nil rfl (RunB.lr (run_load1 (.tmp rfl) kd4 (by repeat (first | exact List.Mem.head _ | apply List.Mem.tail)) (seen_at M hX hY (b := true) (decide_eq_true hin)))) ?_
        refine .det (B := []) rfl rfl (.inl rfl) .nil .nil rfl (RunB.lr (run_not (.tmp rfl) (by first | exact Bool.not_true | exact Bool.not_false | exact rfl))) ?_
        refine chain_nil (ts := [0, 1, 2]) (.cons rfl (.cons rfl (.cons rfl .nil))) (by decide) ?_
        refine xw_then ?_
        refine cw_cond_false (.tmp rfl) ?_
        refine cw_skip ?_
        refine xw_then ?_
        refine cw_chain2 (σ := [0, 1, 2, 3, 4, 5, 6]) [⟨0, [], [], [], 0⟩, ⟨0, [0], [], [], 1⟩, ⟨0, [], [], [], 0⟩, ⟨0, [0], [], [], 4⟩, ⟨0, [], [], [], 3⟩, ⟨0, [], [], [], 31⟩, ⟨0, [], [1], [1], 63⟩] [(0, _), (1, _), (2, _)] (by kernel_rfl) (by kernel_rfl) rfl ?_
        refine .det (B := []) rfl rfl (.inl rfl) .nil .nil rfl (RunB.lr (run_fieldAddr (.tmp rfl) fa52_0 (by first | exact Nat.zero_add _ | exact rfl))) ?_
        refine .det (B := []) rfl rfl (.inl rfl) (.cons rfl .nil) .nil rfl (RunB.lr (run_load1 (.tmp rfl) kd3 (by repeat (first | exact List.Mem.head _ | apply List.Mem.tail)) (by exact rfl))) ?_
        refine .det (B := []) rfl rfl (.inl rfl) .nil .nil rfl (RunB.lr (run_fieldAddr (.tmp rfl) fa52_1 (by first | exact Nat.zero_add _ | exact rfl))) ?_
        refine .det (B := []) rfl rfl (.inl rfl) (.cons rfl .nil) .nil rfl (RunB.lr (run_load1 (.tmp rfl) kd3 (by repeat (first | exact List.Mem.head _ | apply List.Mem.tail)) (by exact rfl))) ?_
        refine .det (B := []) rfl rfl (.inl rfl) .nil .nil rfl (RunB.lr (run_indexAddr_arr (.tmp rfl) (.tmp rfl) ar101 (by omega) rfl)) ?_
        refine .det (B := []) rfl rfl (.inl rfl) .nil .nil rfl (RunB.lr (run_indexAddr_arr (.tmp rfl) (.tmp rfl) ar100 (by omega) rfl)) ?_
        refine .det (B := [(1, (_, _))]) rfl rfl (.inl rfl) .nil (.cons rfl .nil) rfl (lr_store1 (.tmp rfl) .const rfl sz4 hput) ?_
        refine chain_nil (ts := [0, 1, 2]) (.cons rfl (.cons rfl (.cons rfl .nil))) (by decide) ?_
        refine xw_in ?_
        refine xw_then ?_
        refine cw_region ?_
        refine lstepB rfl rfl rfl (run_move (.tmp rfl)) ?_
        refine lstepB rfl rfl rfl (run_add (.tmp rfl) .const (by first | exact IntWalk.i64_in _ (by omega) | exact rfl)) ?_
        refine lstepB rfl rfl rfl (run_assign (.tmp rfl)) ?_
        refine lnil ?_
        exact xw_round ⟨k + 1, m, M⟩ ⟨by simp only; rw [hstep, hadd], hmM, by simp only; omega⟩ (by simp only; omega) (by repeat (first | exact Less.nil | refine Less.cons rfl ?_)) (by repeat (first | exact Pick.nil | (apply Pick.cons; focus (repeat (first | exact Del.here | apply Del.there)))))
      ·
        have hadd : addPl M (Pl.mk (X : Int) (Y : Int)) = M ++ [Pl.mk (X : Int) (Y : Int)] := by rw [addPl, if_neg hin]
        have hput := seen_put M hX hY
        refine cw_skip ?_
        refine xw_then ?_
        refine cw_seq ?_
        refine cw_block ?_
        refine cw_seq ?_
        refine cw_region ?_
        refine lstepB rfl rfl rfl (run_move (.tmp rfl)) ?_
        refine lstepB rfl rfl rfl (run_move (.tmp rfl)) ?_
        refine lstepB rfl rfl rfl (run_indexAddr (off' := k * 2) (.tmp rfl) (.tmp rfl) el80 (by omega) (Nat.zero_add _)) ?_
        refine lstepB rfl rfl rfl (run_fieldAddr (.tmp rfl) fa84_0 (by first | exact Nat.zero_add _ | exact rfl)) ?_
        refine lstepB rfl rfl rfl (run_load1_at (.tmp rfl) kd46 (fun w2 hS => old_of hS hlo hb c1)) ?_
        refine lstepB rfl rfl rfl (run_move (.tmp rfl)) ?_
        refine lstepB rfl rfl rfl (run_indexAddr (.tmp rfl) (.tmp rfl) el46 (by omega) rfl) ?_
        refine lstepB rfl rfl rfl (run_loadN_at (l := [.int .i64 (X : Int), .int .i64 (Y : Int)]) (.tmp rfl) kd52 sz52 rfl (fun w2 hS j v hj => cells2 (old_of hS hlo hqb ds1) (old_of hS hlo hqb ds2) j v hj)) ?_
        refine lstep rfl rfl rfl (run_alloc zr52) ?_
        intro b11 _
        refine lstep0 rfl rfl (run_storeN (.tmp rfl) (.tmp rfl) rfl sz52 rfl (by repeat (first | exact Upd.here | apply Upd.there)) (by repeat (first | exact Put.done | apply Put.put | apply Put.skip))) ?_
        refine lnil ?_
        refine xw_then ?_
        refine cw_seq ?_
        refine cw_seq ?_
        refine cw_chain2 (σ := [0, 1, 2, 3, 4, 5, 6, 7]) [⟨0, [], [], [], 0⟩, ⟨0, [0], [], [], 1⟩, ⟨0, [], [], [], 0⟩, ⟨0, [0], [], [], 4⟩, ⟨0, [], [], [], 3⟩, ⟨0, [], [], [], 31⟩, ⟨0, [1], [], [], 63⟩, ⟨0, [], [], [], 127⟩] [(0, _), (1, _), (2, _)] (by kernel_rfl) (by kernel_rfl) rfl ?_
        refine .det (B := []) rfl rfl (.inl rfl) .nil .nil rfl (RunB.lr (run_fieldAddr (.tmp rfl) fa52_0 (by first | exact Nat.zero_add _ | exact rfl))) ?_
        refine .det (B := []) rfl rfl (.inl rfl) (.cons rfl .nil) .nil rfl (RunB.lr (run_load1 (.tmp rfl) kd3 (by repeat (first | exact List.Mem.head _ | apply List.Mem.tail)) (by exact rfl))) ?_
        refine .det (B := []) rfl rfl (.inl rfl) .nil .nil rfl (RunB.lr (run_fieldAddr (.tmp rfl) fa52_1 (by first | exact Nat.zero_add _ | exact rfl))) ?_
        refine .det (B := []) rfl rfl (.inl rfl) (.cons rfl .nil) .nil rfl (RunB.lr (run_load1 (.tmp rfl) kd3 (by repeat (first | exact List.Mem.head _ | apply List.Mem.tail)) (by exact rfl))) ?_
        refine .det (B := []) rfl rfl (.inl rfl) .nil .nil rfl (RunB.lr (run_indexAddr_arr (.tmp rfl) (.tmp rfl) ar101 (by omega) rfl)) ?_
        refine .det (B := []) rfl rfl (.inl rfl) .nil .nil rfl (RunB.lr (run_indexAddr_arr (.tmp rfl) (.tmp rfl) ar100 (by omega) rfl)) ?_
        refine .det (B := []) rfl rfl (.inl rfl) (.cons rfl .nil) .nil rfl (RunB.lr (run_load1 (.tmp rfl) kd4 (by repeat (first | exact List.Mem.head _ | apply List.Mem.tail)) (seen_at M hX hY (b := false) (decide_eq_false hin)))) ?_
        refine .det (B := []) rfl rfl (.inl rfl) .nil .nil rfl (RunB.lr (run_not (.tmp rfl) (by first | exact Bool.not_true | exact Bool.not_false | exact rfl))) ?_
        refine chain_nil (ts := [0, 1, 2]) (.cons rfl (.cons rfl (.cons rfl .nil))) (by decide) ?_
        refine xw_then ?_
        refine cw_cond_true (.tmp rfl) ?_
        refine cw_region ?_
        refine lstepB rfl rfl rfl (run_move (.tmp rfl)) ?_
        refine lstepB rfl rfl rfl (run_add (.tmp rfl) .const (by first | exact IntWalk.i64_in _ (by omega) | exact rfl)) ?_
        refine lstepB rfl rfl rfl (run_assign (.tmp rfl)) ?_
        refine lnil ?_
        refine xw_then ?_
        refine cw_chain2 (σ := [0, 1, 2, 3, 4, 5, 6]) [⟨0, [], [], [], 0⟩, ⟨0, [0], [], [], 1⟩, ⟨0, [], [], [], 0⟩, ⟨0, [0], [], [], 4⟩, ⟨0, [], [], [], 3⟩, ⟨0, [], [], [], 31⟩, ⟨0, [], [1], [1], 63⟩] [(0, _), (1, _), (2, _)] (by kernel_rfl) (by kernel_rfl) rfl ?_
        refine .det (B := []) rfl rfl (.inl rfl) .nil .nil rfl (RunB.lr (run_fieldAddr (.tmp rfl) fa52_0 (by first | exact Nat.zero_add _ | exact rfl))) ?_
        refine .det (B := []) rfl rfl (.inl rfl) (.cons rfl .nil) .nil rfl (RunB.lr (run_load1 (.tmp rfl) kd3 (by repeat (first | exact List.Mem.head _ | apply List.Mem.tail)) (by exact rfl))) ?_
        refine .det (B := []) rfl rfl (.inl rfl) .nil .nil rfl (RunB.lr (run_fieldAddr (.tmp rfl) fa52_1 (by first | exact Nat.zero_add _ | exact rfl))) ?_
        refine .det (B := []) rfl rfl (.inl rfl) (.cons rfl .nil) .nil rfl (RunB.lr (run_load1 (.tmp rfl) kd3 (by repeat (first | exact List.Mem.head _ | apply List.Mem.tail)) (by exact rfl))) ?_
        refine .det (B := []) rfl rfl (.inl rfl) .nil .nil rfl (RunB.lr (run_indexAddr_arr (.tmp rfl) (.tmp rfl) ar101 (by omega) rfl)) ?_
        refine .det (B := []) rfl rfl (.inl rfl) .nil .nil rfl (RunB.lr (run_indexAddr_arr (.tmp rfl) (.tmp rfl) ar100 (by omega) rfl)) ?_
        refine .det (B := [(1, (_, _))]) rfl rfl (.inl rfl) .nil (.cons rfl .nil) rfl (lr_store1 (.tmp rfl) .const rfl sz4 hput) ?_
        refine chain_nil (ts := [0, 1, 2]) (.cons rfl (.cons rfl (.cons rfl .nil))) (by decide) ?_
        refine xw_in ?_
        refine xw_then ?_
        refine cw_region ?_
        refine lstepB rfl rfl rfl (run_move (.tmp rfl)) ?_
        refine lstepB rfl rfl rfl (run_add (.tmp rfl) .const (by first | exact IntWalk.i64_in _ (by omega) | exact rfl)) ?_
        refine lstepB rfl rfl rfl (run_assign (.tmp rfl)) ?_
        refine lnil ?_
        exact xw_round ⟨k + 1, m + 1, addPl M (Pl.mk (X : Int) (Y : Int))⟩ ⟨hstep.symm, by simp only; rw [hadd, hmM]; simp, by simp only; omega⟩ (by simp only; omega) (by repeat (first | exact Less.nil | refine Less.cons rfl ?_)) (by repeat (first | exact Pick.nil | (apply Pick.cons; focus (repeat (first | exact Del.here | apply Del.there)))))
    ·
      refine cw_exit ?_
      refine xw_then_exit ?_
      refine xw_then_exit ?_
      refine xw_in_exit ?_
      refine xw_then ?_
      refine cw_seq ?_
      refine cw_region ?_
      refine lstepB rfl rfl rfl (run_move (.tmp rfl)) ?_
      refine lstepB rfl rfl rfl (run_assign (.tmp rfl)) ?_
      refine lstepB rfl rfl rfl (run_assign .const) ?_
      refine lnil ?_
      refine xw_then ?_
      refine cw_ret ?_
      have hge' : ¬ (k : Int) < ((allF p).length : Int) := hge
      rw [List.take_of_length_le (by omega)] at he
      rw [← he, ← hmM]
      refine xw_ret2 Try.results18 rfl rfl (fun w' hS => ⟨rfl, hB _ w' hS⟩)
end Go.Proofs.Ytkjciobphbcknaa
namespace Go.Proofs.Ytkjciobphbcknaa
open Go.RowKit En

theorem heavyK (p : PegsD) (posts side : Int) (pa la : Option Addr) (pc lc : Nat) (w : World) (hm : p.ps.length ≤ 9223372036854775807) (hm2 : p.ls.length ≤ 9223372036854775807) (hp : PegsIn w p pa la) : Gives Try.prog 11 [.agg [.int .i64 p.side, .slice pa p.ps.length pc, .slice la p.ls.length lc].toArray, .int .i64 posts, .int .i64 side] w (.bool (heavyB p posts side)) :=
  ⟨(heavy_any p posts side pa la pc lc w hm hm2 hp).mono fun _ _ ⟨h, e⟩ => ⟨h, e⟩⟩
theorem light {p : PegsD} {a b : Int} (h : heavyB p a b = false) : (validB p = true → p.side ≤ b) ∧ (validB p = true → (p.ps.length : Int) ≤ a) := by
  simp only [heavyB, Bool.or_eq_false_iff, Bool.and_eq_false_iff, decide_eq_false_iff_not] at h
  constructor
  · intro hv
    rcases h.2 with h | h
    · rw [hv] at h; cases h
    · omega
  · intro hv
    rcases h.2 with h | h
    · rw [hv] at h; cases h
    · omega
set_option maxRecDepth 100000 in
set_option maxHeartbeats 4000000 in
theorem pegStands_any (p : PegsD) (n : Int) (pa la : Option Addr) (pc lc : Nat) (w : World) (hm : p.ps.length ≤ 9223372036854775807) (hm2 : p.ls.length ≤ 9223372036854775807) (hp : PegsIn w p pa la) :
    Gives Try.prog 3 [.agg [.int .i64 p.side, .slice pa p.ps.length pc, .slice la p.ls.length lc].toArray, .int .i64 n] w (.bool true) := by
  cases hh : heavyB p 3 8 with
  | true =>
    refine .mk <| enter (n := 129) Try.func3 rfl rfl rfl (by repeat (first | exact Fill.nil | apply Fill.cons)) ?_
    refine cw_seq ?_
    refine cw_region ?_
    refine lstep rfl rfl rfl (run_boxN (.tmp rfl)) ?_
    intro b2 _
    refine lstepB rfl rfl rfl (run_assign .const) ?_
    refine lnil ?_
    refine xw_then ?_
    refine cw_seq ?_
    refine cw_seq ?_
    refine cw_region ?_
    refine lstepB rfl rfl rfl (run_loadN (.tmp rfl) kd25 sz25 (by repeat (first | exact List.Mem.head _ | apply List.Mem.tail)) (by repeat (first | exact Sub.done | apply Sub.take | apply Sub.skip))) ?_
    refine lstepB rfl rfl rfl (run_call1 cb11 (.cons (.tmp rfl) (.cons .const (.cons .const .nil))) (fun w' hS => (heavyK p 3 8 pa la pc lc w' hm hm2 (hp.kept hS.kept)).as (congrArg Value.bool hh))) ?_
    refine lnil ?_
    refine xw_then ?_
    refine cw_cond_true (.tmp rfl) ?_
    refine cw_seq ?_
    refine cw_region ?_
    refine lstepB rfl rfl rfl (run_call1 cb12 .nil (fun w' _ => ⟨alive_any w'⟩)) ?_
    refine lstepB rfl rfl rfl (run_assign (.tmp rfl)) ?_
    refine lnil ?_
    refine xw_then ?_
    refine cw_ret ?_
    refine xw_then_ret ?_
    refine xw_ret1 Try.results3 rfl (fun w' hS => ⟨rfl, hS.kept⟩)
  | false =>
    obtain ⟨h8, h3⟩ := light hh
    replace h3 : validB p = true → p.ps.length ≤ 3 := fun hv => by have := h3 hv; omega
    refine .mk <| enter (n := 129) Try.func3 rfl rfl rfl (by repeat (first | exact Fill.nil | apply Fill.cons)) ?_
    refine cw_seq ?_
    refine cw_region ?_
    refine lstep rfl rfl rfl (run_boxN (.tmp rfl)) ?_
    intro b2 _
    refine lstepB rfl rfl rfl (run_assign .const) ?_
    refine lnil ?_
    refine xw_then ?_
    refine cw_seq ?_
    refine cw_seq ?_
    refine cw_region ?_
    refine lstepB rfl rfl rfl (run_loadN (.tmp rfl) kd25 sz25 (by repeat (first | exact List.Mem.head _ | apply List.Mem.tail)) (by repeat (first | exact Sub.done | apply Sub.take | apply Sub.skip))) ?_
    refine lstepB rfl rfl rfl (run_call1 cb11 (.cons (.tmp rfl) (.cons .const (.cons .const .nil))) (fun w' hS => (heavyK p 3 8 pa la pc lc w' hm hm2 (hp.kept hS.kept)).as (congrArg Value.bool hh))) ?_
    refine lnil ?_
    refine xw_then ?_
    refine cw_cond_false (.tmp rfl) ?_
    refine cw_skip ?_
    refine xw_then ?_
    refine cw_seq ?_
    refine cw_region ?_
    refine lstepB rfl rfl rfl (run_loadN (.tmp rfl) kd25 sz25 (by repeat (first | exact List.Mem.head _ | apply List.Mem.tail)) (by repeat (first | exact Sub.done | apply Sub.take | apply Sub.skip))) ?_
    refine lstepB rfl rfl rfl (run_call1 cb13 (.cons (.tmp rfl) .nil) (fun w' hS => ⟨(moved_any p pa la pc lc w' hm hm2 (hp.kept hS.kept)).mono fun e w2 ⟨h1, k⟩ => ⟨h1, k⟩⟩)) ?_
    refine lstepB rfl rfl rfl (run_move (.tmp rfl)) ?_
    refine lstepB rfl rfl rfl (run_extract (.tmp rfl) rfl) ?_
    refine lstepB rfl rfl rfl (run_extract (.tmp rfl) rfl) ?_
    refine lstepB rfl rfl rfl (run_extract (.tmp rfl) rfl) ?_
    refine lstepB rfl rfl rfl (run_assign (.tmp rfl)) ?_
    refine lstepB rfl rfl rfl (run_assign (.tmp rfl)) ?_
    refine lstepB rfl rfl rfl (run_assign (.tmp rfl)) ?_
    refine lnil ?_
    refine xw_then ?_
    refine cw_seq ?_
    refine cw_region ?_
    refine lstepB rfl rfl rfl (run_loadN (.tmp rfl) kd25 sz25 (by repeat (first | exact List.Mem.head _ | apply List.Mem.tail)) (by repeat (first | exact Sub.done | apply Sub.take | apply Sub.skip))) ?_
    refine lstepB rfl rfl rfl (run_call1 cb14 (.cons (.tmp rfl) .nil) (fun w' hS => movedRK pc lc hm hm2 h8 h3 w' (hp.kept hS.kept))) ?_
    refine lstepB rfl rfl rfl (run_move (.tmp rfl)) ?_
    refine lstepB rfl rfl rfl (run_extract (.tmp rfl) rfl) ?_
    refine lstepB rfl rfl rfl (run_extract (.tmp rfl) rfl) ?_
    refine lstepB rfl rfl rfl (run_extract (.tmp rfl) rfl) ?_
    refine lstepB rfl rfl rfl (run_assign (.tmp rfl)) ?_
    refine lstepB rfl rfl rfl (run_assign (.tmp rfl)) ?_
    refine lstepB rfl rfl rfl (run_assign (.tmp rfl)) ?_
    refine lnil ?_
    refine xw_then ?_
    refine cw_seq ?_
    refine cw_region ?_
    refine lstepB rfl rfl rfl (run_loadN (.tmp rfl) kd25 sz25 (by repeat (first | exact List.Mem.head _ | apply List.Mem.tail)) (by repeat (first | exact Sub.done | apply Sub.take | apply Sub.skip))) ?_
    refine lstepB rfl rfl rfl (run_move (.tmp rfl)) ?_
    refine lstepB rfl rfl rfl (run_call1 cb15 (.cons (.tmp rfl) (.cons (.tmp rfl) .nil)) (fun w' hS => ⟨(where_any p n pa la pc lc w' hm hm2 (hp.kept hS.kept)).mono fun e w2 ⟨h1, k⟩ => ⟨h1, k⟩⟩)) ?_
    refine lstepB rfl rfl rfl (run_move (.tmp rfl)) ?_
    refine lstepB rfl rfl rfl (run_extract (.tmp rfl) rfl) ?_
    refine lstepB rfl rfl rfl (run_extract (.tmp rfl) rfl) ?_
    refine lstepB rfl rfl rfl (run_extract (.tmp rfl) rfl) ?_
    refine lstep rfl rfl rfl (run_alloc zr32) ?_
    intro b11 _
    refine lstep rfl rfl rfl (run_alloc zr32) ?_
    intro b12 _
    refine lstep0 rfl rfl (run_storeN (.tmp rfl) (.tmp rfl) rfl sz32 rfl (by repeat (first | exact Upd.here | apply Upd.there)) (by repeat (first | exact Put.done | apply Put.put | apply Put.skip))) ?_
    refine lstep0 rfl rfl (run_storeN (.tmp rfl) (.tmp rfl) rfl sz32 rfl (by repeat (first | exact Upd.here | apply Upd.there)) (by repeat (first | exact Put.done | apply Put.put | apply Put.skip))) ?_
    refine lstepB rfl rfl rfl (run_assign (.tmp rfl)) ?_
    refine lnil ?_
    refine xw_then ?_
    refine cw_seq ?_
    refine cw_region ?_
    refine lstepB rfl rfl rfl (run_loadN (.tmp rfl) kd25 sz25 (by repeat (first | exact List.Mem.head _ | apply List.Mem.tail)) (by repeat (first | exact Sub.done | apply Sub.take | apply Sub.skip))) ?_
    refine lstepB rfl rfl rfl (run_move (.tmp rfl)) ?_
    refine lstepB rfl rfl rfl (run_call1 cb16 (.cons (.tmp rfl) (.cons (.tmp rfl) .nil)) (fun w' hS => whereRK n pc lc hm hm2 h8 h3 w' (hp.kept hS.kept))) ?_
    refine lstepB rfl rfl rfl (run_move (.tmp rfl)) ?_
    refine lstepB rfl rfl rfl (run_extract (.tmp rfl) rfl) ?_
    refine lstepB rfl rfl rfl (run_extract (.tmp rfl) rfl) ?_
    refine lstepB rfl rfl rfl (run_extract (.tmp rfl) rfl) ?_
    refine lstep rfl rfl rfl (run_alloc zr32) ?_
    intro b14 _
    refine lstep rfl rfl rfl (run_alloc zr32) ?_
    intro b15 _
    refine lstep0 rfl rfl (run_storeN (.tmp rfl) (.tmp rfl) rfl sz32 rfl (by repeat (first | exact Upd.here | apply Upd.there)) (by repeat (first | exact Put.done | apply Put.put | apply Put.skip))) ?_
    refine lstep0 rfl rfl (run_storeN (.tmp rfl) (.tmp rfl) rfl sz32 rfl (by repeat (first | exact Upd.here | apply Upd.there)) (by repeat (first | exact Put.done | apply Put.put | apply Put.skip))) ?_
    refine lstepB rfl rfl rfl (run_assign (.tmp rfl)) ?_
    refine lnil ?_
    refine xw_then ?_
    refine cw_seq ?_
    refine cw_region ?_
    refine lstepB rfl rfl rfl (run_loadN (.tmp rfl) kd25 sz25 (by repeat (first | exact List.Mem.head _ | apply List.Mem.tail)) (by repeat (first | exact Sub.done | apply Sub.take | apply Sub.skip))) ?_
    refine lstepB rfl rfl rfl (run_move (.tmp rfl)) ?_
    refine lstepB rfl rfl rfl (run_call1 cb17 (.cons (.tmp rfl) (.cons (.tmp rfl) .nil)) (fun w' hS => ⟨(places_any p n pa la pc lc w' hm hm2 (hp.kept hS.kept)).mono fun e w2 ⟨h1, k⟩ => ⟨h1, k⟩⟩)) ?_
    refine lstepB rfl rfl rfl (run_move (.tmp rfl)) ?_
    refine lstepB rfl rfl rfl (run_extract (.tmp rfl) rfl) ?_
    refine lstepB rfl rfl rfl (run_extract (.tmp rfl) rfl) ?_
    refine lstepB rfl rfl rfl (run_assign (.tmp rfl)) ?_
    refine lstepB rfl rfl rfl (run_assign (.tmp rfl)) ?_
    refine lnil ?_
    refine xw_then ?_
    refine cw_seq ?_
    refine cw_region ?_
    refine lstepB rfl rfl rfl (run_loadN (.tmp rfl) kd25 sz25 (by repeat (first | exact List.Mem.head _ | apply List.Mem.tail)) (by repeat (first | exact Sub.done | apply Sub.take | apply Sub.skip))) ?_
    refine lstepB rfl rfl rfl (run_move (.tmp rfl)) ?_
    refine lstepB rfl rfl rfl (run_call1 cb18 (.cons (.tmp rfl) (.cons (.tmp rfl) .nil)) (fun w' hS => placesRK n pc lc hm hm2 h8 h3 w' (hp.kept hS.kept))) ?_
    refine lstepB rfl rfl rfl (run_move (.tmp rfl)) ?_
    refine lstepB rfl rfl rfl (run_extract (.tmp rfl) rfl) ?_
    refine lstepB rfl rfl rfl (run_extract (.tmp rfl) rfl) ?_
    refine lstepB rfl rfl rfl (run_assign (.tmp rfl)) ?_
    refine lstepB rfl rfl rfl (run_assign (.tmp rfl)) ?_
    refine lnil ?_
    refine xw_then ?_
    refine cw_seq ?_
    refine cw_region ?_
    refine lstepB rfl rfl rfl (run_loadN (.tmp rfl) kd25 sz25 (by repeat (first | exact List.Mem.head _ | apply List.Mem.tail)) (by repeat (first | exact Sub.done | apply Sub.take | apply Sub.skip))) ?_
    refine lstepB rfl rfl rfl (run_move (.tmp rfl)) ?_
    refine lstepB rfl rfl rfl (run_call1 cb19 (.cons (.tmp rfl) (.cons (.tmp rfl) .nil)) (fun w' hS => ⟨(back_any p n pa la pc lc w' hm hm2 (hp.kept hS.kept)).mono fun e w2 ⟨h1, k⟩ => ⟨h1, k⟩⟩)) ?_
    refine lstepB rfl rfl rfl (run_move (.tmp rfl)) ?_
    refine lstepB rfl rfl rfl (run_extract (.tmp rfl) rfl) ?_
    refine lstepB rfl rfl rfl (run_extract (.tmp rfl) rfl) ?_
    refine lstep rfl rfl rfl (run_alloc zr32) ?_
    intro b21 _
    refine lstep0 rfl rfl (run_storeN (.tmp rfl) (.tmp rfl) rfl sz32 rfl (by repeat (first | exact Upd.here | apply Upd.there)) (by repeat (first | exact Put.done | apply Put.put | apply Put.skip))) ?_
    refine lstepB rfl rfl rfl (run_assign (.tmp rfl)) ?_
    refine lnil ?_
    refine xw_then ?_
    refine cw_seq ?_
    refine cw_region ?_
    refine lstepB rfl rfl rfl (run_loadN (.tmp rfl) kd25 sz25 (by repeat (first | exact List.Mem.head _ | apply List.Mem.tail)) (by repeat (first | exact Sub.done | apply Sub.take | apply Sub.skip))) ?_
    refine lstepB rfl rfl rfl (run_move (.tmp rfl)) ?_
    refine lstepB rfl rfl rfl (run_call1 cb20 (.cons (.tmp rfl) (.cons (.tmp rfl) .nil)) (fun w' hS => backRK n pc lc hm hm2 h8 h3 w' (hp.kept hS.kept))) ?_
    refine lstepB rfl rfl rfl (run_move (.tmp rfl)) ?_
    refine lstepB rfl rfl rfl (run_extract (.tmp rfl) rfl) ?_
    refine lstepB rfl rfl rfl (run_extract (.tmp rfl) rfl) ?_
    refine lstep rfl rfl rfl (run_alloc zr32) ?_
    intro b23 _
    refine lstep0 rfl rfl (run_storeN (.tmp rfl) (.tmp rfl) rfl sz32 rfl (by repeat (first | exact Upd.here | apply Upd.there)) (by repeat (first | exact Put.done | apply Put.put | apply Put.skip))) ?_
    refine lstepB rfl rfl rfl (run_assign (.tmp rfl)) ?_
    refine lnil ?_
    refine xw_then ?_
    refine cw_seq ?_
    refine cw_region ?_
    refine lstepB rfl rfl rfl (run_move (.tmp rfl)) ?_
    refine lstepB rfl rfl rfl (run_move (.tmp rfl)) ?_
    refine lstepB rfl rfl rfl (run_eql (.tmp rfl) (.tmp rfl) (by first | exact decide_eq_true (by omega) | exact decide_eq_false (by omega) | exact rfl)) ?_
    refine lstepB rfl rfl rfl (run_move (.tmp rfl)) ?_
    refine lyes rfl rfl rfl rfl ?_
    refine gstepB rfl rfl (run_move (.tmp rfl)) ?_
    refine lyes rfl rfl rfl rfl ?_
    refine gstepB rfl rfl (run_move (.tmp rfl)) ?_
    refine lyes rfl rfl rfl rfl ?_
    refine gstepB rfl rfl (En.run_eql_bool (.tmp rfl) (.tmp rfl) bl4 (show ((valOf (0, 0, false) (movedR p)).2.2 == (valOf (0, 0, false) (movedR p)).2.2) = true by simp)) ?_
    refine lstepB rfl rfl rfl (by first | exact run_pick_true (.tmp rfl) (.tmp rfl) | exact run_pick_false (.tmp rfl) .const) ?_
    refine lstepB rfl rfl rfl (run_move (.tmp rfl)) ?_
    refine lyes rfl rfl rfl rfl ?_
    refine gstepB rfl rfl (run_move (.tmp rfl)) ?_
    refine lyes rfl rfl rfl rfl ?_
    refine gstepB rfl rfl (run_move (.tmp rfl)) ?_
    refine lyes rfl rfl rfl rfl ?_
    refine gstepB rfl rfl (run_eql (.tmp rfl) (.tmp rfl) (by first | exact decide_eq_true (by omega) | exact decide_eq_false (by omega) | exact rfl)) ?_
    refine lstepB rfl rfl rfl (by first | exact run_pick_true (.tmp rfl) (.tmp rfl) | exact run_pick_false (.tmp rfl) .const) ?_
    refine lstepB rfl rfl rfl (run_move (.tmp rfl)) ?_
    refine lyes rfl rfl rfl rfl ?_
    refine gstepB rfl rfl (run_loadN (.tmp rfl) kd32 sz32 (by repeat (first | exact List.Mem.head _ | apply List.Mem.tail)) (by repeat (first | exact Sub.done | apply Sub.take | apply Sub.skip))) ?_
    refine lyes rfl rfl rfl rfl ?_
    refine gstepB rfl rfl (run_loadN (.tmp rfl) kd32 sz32 (by repeat (first | exact List.Mem.head _ | apply List.Mem.tail)) (by repeat (first | exact Sub.done | apply Sub.take | apply Sub.skip))) ?_
    refine lyes rfl rfl rfl rfl ?_
    refine gstepB rfl rfl (run_eql_agg (.tmp rfl) (.tmp rfl) eg32 (eql32 (r := true) (by simp))) ?_
    refine lstepB rfl rfl rfl (by first | exact run_pick_true (.tmp rfl) (.tmp rfl) | exact run_pick_false (.tmp rfl) .const) ?_
    refine lstepB rfl rfl rfl (run_move (.tmp rfl)) ?_
    refine lyes rfl rfl rfl rfl ?_
    refine gstepB rfl rfl (run_loadN (.tmp rfl) kd32 sz32 (by repeat (first | exact List.Mem.head _ | apply List.Mem.tail)) (by repeat (first | exact Sub.done | apply Sub.take | apply Sub.skip))) ?_
    refine lyes rfl rfl rfl rfl ?_
    refine gstepB rfl rfl (run_loadN (.tmp rfl) kd32 sz32 (by repeat (first | exact List.Mem.head _ | apply List.Mem.tail)) (by repeat (first | exact Sub.done | apply Sub.take | apply Sub.skip))) ?_
    refine lyes rfl rfl rfl rfl ?_
    refine gstepB rfl rfl (run_eql_agg (.tmp rfl) (.tmp rfl) eg32 (eql32 (r := true) (by simp))) ?_
    refine lstepB rfl rfl rfl (by first | exact run_pick_true (.tmp rfl) (.tmp rfl) | exact run_pick_false (.tmp rfl) .const) ?_
    refine lstepB rfl rfl rfl (run_move (.tmp rfl)) ?_
    refine lyes rfl rfl rfl rfl ?_
    refine gstepB rfl rfl (run_move (.tmp rfl)) ?_
    refine lyes rfl rfl rfl rfl ?_
    refine gstepB rfl rfl (run_move (.tmp rfl)) ?_
    refine lyes rfl rfl rfl rfl ?_
    refine gstepB rfl rfl (run_eql (.tmp rfl) (.tmp rfl) (by first | exact decide_eq_true (by omega) | exact decide_eq_false (by omega) | exact rfl)) ?_
    refine lstepB rfl rfl rfl (by first | exact run_pick_true (.tmp rfl) (.tmp rfl) | exact run_pick_false (.tmp rfl) .const) ?_
    refine lstepB rfl rfl rfl (run_move (.tmp rfl)) ?_
    refine lyes rfl rfl rfl rfl ?_
    refine gstepB rfl rfl (run_move (.tmp rfl)) ?_
    refine lyes rfl rfl rfl rfl ?_
    refine gstepB rfl rfl (run_move (.tmp rfl)) ?_
    refine lyes rfl rfl rfl rfl ?_
    refine gstepB rfl rfl (run_eql (.tmp rfl) (.tmp rfl) (by first | exact decide_eq_true (by omega) | exact decide_eq_false (by omega) | exact rfl)) ?_
    refine lstepB rfl rfl rfl (by first | exact run_pick_true (.tmp rfl) (.tmp rfl) | exact run_pick_false (.tmp rfl) .const) ?_
    refine lstepB rfl rfl rfl (run_move (.tmp rfl)) ?_
    refine lyes rfl rfl rfl rfl ?_
    refine gstepB rfl rfl (run_move (.tmp rfl)) ?_
    refine lyes rfl rfl rfl rfl ?_
    refine gstepB rfl rfl (run_move (.tmp rfl)) ?_
    refine lyes rfl rfl rfl rfl ?_
    refine gstepB rfl rfl (run_eql (.tmp rfl) (.tmp rfl) (by first | exact decide_eq_true (by omega) | exact decide_eq_false (by omega) | exact rfl)) ?_
    refine lstepB rfl rfl rfl (by first | exact run_pick_true (.tmp rfl) (.tmp rfl) | exact run_pick_false (.tmp rfl) .const) ?_
    refine lstepB rfl rfl rfl (run_move (.tmp rfl)) ?_
    refine lyes rfl rfl rfl rfl ?_
    refine gstepB rfl rfl (run_loadN (.tmp rfl) kd32 sz32 (by repeat (first | exact List.Mem.head _ | apply List.Mem.tail)) (by repeat (first | exact Sub.done | apply Sub.take | apply Sub.skip))) ?_
    refine lyes rfl rfl rfl rfl ?_
    refine gstepB rfl rfl (run_loadN (.tmp rfl) kd32 sz32 (by repeat (first | exact List.Mem.head _ | apply List.Mem.tail)) (by repeat (first | exact Sub.done | apply Sub.take | apply Sub.skip))) ?_
    refine lyes rfl rfl rfl rfl ?_
    refine gstepB rfl rfl (run_eql_agg (.tmp rfl) (.tmp rfl) eg32 (eql32 (r := true) (by simp))) ?_
    refine lstepB rfl rfl rfl (by first | exact run_pick_true (.tmp rfl) (.tmp rfl) | exact run_pick_false (.tmp rfl) .const) ?_
    refine lstepB rfl rfl rfl (run_move (.tmp rfl)) ?_
    refine lyes rfl rfl rfl rfl ?_
    refine gstepB rfl rfl (run_move (.tmp rfl)) ?_
    refine lyes rfl rfl rfl rfl ?_
    refine gstepB rfl rfl (run_move (.tmp rfl)) ?_
    refine lyes rfl rfl rfl rfl ?_
    refine gstepB rfl rfl (run_eql (.tmp rfl) (.tmp rfl) (by first | exact decide_eq_true (by omega) | exact decide_eq_false (by omega) | exact rfl)) ?_
    refine lstepB rfl rfl rfl (by first | exact run_pick_true (.tmp rfl) (.tmp rfl) | exact run_pick_false (.tmp rfl) .const) ?_
    refine lstepB rfl rfl rfl (run_move (.tmp rfl)) ?_
    refine lyes rfl rfl rfl rfl ?_
    refine gstepB rfl rfl (run_call1 cb12 .nil (fun w' _ => ⟨alive_any w'⟩)) ?_
    refine lstepB rfl rfl rfl (by first | exact run_pick_true (.tmp rfl) (.tmp rfl) | exact run_pick_false (.tmp rfl) .const) ?_
    refine lstepB rfl rfl rfl (run_assign (.tmp rfl)) ?_
    refine lnil ?_
    refine xw_then ?_
    refine cw_ret ?_
    refine xw_ret1 Try.results3 rfl (fun w' hS => ⟨rfl, hS.kept⟩)
end Go.Proofs.Ytkjciobphbcknaa
