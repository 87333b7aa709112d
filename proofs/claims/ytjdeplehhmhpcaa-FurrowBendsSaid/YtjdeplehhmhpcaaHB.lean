/- Furrow: the document's own Worst. -/
import Derived.Test.YtjdeplehhmhpcaaHA
import Derived.Test.YtjdeplehhmhpcaaGG
namespace Go.Proofs.Ytjdeplehhmhpcaa
open Go.RowKit En

def leadsB (f : FurrowD) (s : Nat) (i : Nat) : Bool := decide (bentT (atL f i) s = mostT (atL f i))
def cntW (f : FurrowD) (s : Nat) : Nat → Nat
  | 0 => 0
  | i + 1 => if leadsB f s i then cntW f s i + 1 else cntW f s i
theorem cntW_le (f : FurrowD) (s : Nat) : ∀ i, cntW f s i ≤ i
  | 0 => Nat.le_refl 0
  | i + 1 => by have := cntW_le f s i; unfold cntW; split <;> omega
theorem cntW_full (f : FurrowD) (s : Nat) : ∀ i, cntW f s i = i ↔ ∀ j, j < i → leadsB f s j = true
  | 0 => by simp [cntW]
  | i + 1 => by
    have ih := cntW_full f s i
    have hle := cntW_le f s i
    unfold cntW
    cases hb : leadsB f s i
    · simp only [Bool.false_eq_true, if_false]
      constructor
      · intro h; omega
      · intro h; have := h i (Nat.lt_succ_self i); rw [hb] at this; cases this
    · simp only [if_true]
      constructor
      · intro h j hj
        rcases Nat.lt_succ_iff_lt_or_eq.1 hj with h2 | h2
        · exact ih.1 (by omega) j h2
        · rw [h2]; exact hb
      · intro h
        have := ih.2 (fun j hj => h j (by omega))
        omega
theorem cntW_some (f : FurrowD) (s : Nat) : ∀ i, 0 < cntW f s i ↔ ∃ j, j < i ∧ leadsB f s j = true
  | 0 => by simp [cntW]
  | i + 1 => by
    have ih := cntW_some f s i
    unfold cntW
    cases hb : leadsB f s i
    · simp only [Bool.false_eq_true, if_false]
      constructor
      · intro h; obtain ⟨j, h1, h2⟩ := ih.1 h; exact ⟨j, by omega, h2⟩
      · rintro ⟨j, h1, h2⟩
        rcases Nat.lt_succ_iff_lt_or_eq.1 h1 with h3 | h3
        · exact ih.2 ⟨j, h3, h2⟩
        · rw [h3, hb] at h2; cases h2
    · simp only [if_true]
      exact ⟨fun _ => ⟨i, Nat.lt_succ_self i, hb⟩, fun _ => Nat.succ_pos _⟩
theorem leads_iff {f : FurrowD} {s i : Nat} (hs : Inner f.offs s) (hi : i < (lsF f).length) : leadsB f s i = true ↔ ∀ k, Inner f.offs k → bentT (atL f i) k ≤ bentT (atL f i) s := by
  have hI := atL_inn hi
  unfold leadsB
  rw [decide_eq_true_eq]
  constructor
  · intro h k hk; rw [h]; exact mostT_ge hI.1 hk
  · intro h
    have h1 := mostT_ge hI.1 hs
    have h2 := (mostT_le hI.1 (m := bentT (atL f i) s)).2 ⟨bentT_nonneg _ _, h⟩
    omega
theorem idx_of {f : FurrowD} {t : List Int} (h : Inn f.offs t) : ∃ i, i < (lsF f).length ∧ atL f i = t := by
  obtain ⟨i, hi, e⟩ := List.getElem_of_mem (mem_all.2 h : t ∈ lsF f)
  exact ⟨i, hi, by rw [atL, List.getD_eq_getElem?_getD, List.getElem?_eq_getElem hi]; exact e⟩
theorem full_iff {f : FurrowD} (hv : ValidF f) {s : Nat} (hs : Inner f.offs s) : cntW f s (lsF f).length = (lsF f).length ↔ outB f.offs s = false := by
  rw [cntW_full, ← Bool.not_eq_true, out_iff hv.fine hs]
  constructor
  · rintro h ⟨k, hk, t, ht, hlt⟩
    obtain ⟨i, hi, rfl⟩ := idx_of ht
    have := (leads_iff hs hi).1 (h i hi) k hk
    omega
  · intro h i hi
    refine (leads_iff hs hi).2 fun k hk => ?_
    rcases Int.lt_or_le (bentT (atL f i) s) (bentT (atL f i) k) with h2 | h2
    · exact absurd ⟨k, hk, _, atL_inn hi, h2⟩ h
    · exact h2
theorem some_iff {f : FurrowD} (hv : ValidF f) {s : Nat} (hs : Inner f.offs s) : 0 < cntW f s (lsF f).length ↔ leadAny f.offs s = true := by
  rw [cntW_some, lead_iff hv.fine hs]
  constructor
  · rintro ⟨i, hi, h⟩; exact ⟨_, atL_inn hi, (leads_iff hs hi).1 h⟩
  · rintro ⟨t, ht, h⟩
    obtain ⟨i, hi, rfl⟩ := idx_of ht
    exact ⟨i, hi, (leads_iff hs hi).2 h⟩
theorem worstN_lt2 (l : List SpanD) : ∀ k, (worstN l k).1 < 2 ^ (k + 1) ∧ (worstN l k).2 < 2 ^ (k + 1)
  | 0 => ⟨by show 0 < 2 ^ 1; decide, by show 0 < 2 ^ 1; decide⟩
  | k + 1 => by
    obtain ⟨h1, h2⟩ := worstN_lt2 l k
    have e : 2 ^ (k + 1) < 2 ^ (k + 1 + 1) := Nat.pow_lt_pow_right (by omega) (by omega)
    exact ⟨noteN_lt (by omega) (by omega), noteN_lt (by omega) (by omega)⟩
set_option maxRecDepth 100000 in
set_option maxHeartbeats 4000000 in
theorem refWorstK (f : FurrowD) (oa wa da : Option Addr) (oc wc dc : Nat) (hwv : validB f = true → (∀ s ∈ f.offs, s.hi - s.lo ≤ 3) ∧ f.offs.length ≤ 6) (w : World) (hm : Lens f) (hf : FurrowAt w f oa wa da) : Gives Try.prog 21 [furrowV f oa wa da oc wc dc] w (.tuple #[.int .i64 ((worstR f).1.1 : Int), .int .i64 ((worstR f).1.2 : Int), .int .i64 (worstR f).2]) := by
  unfold worstR
  cases hv : validB f
  ·
    refine .mk <| enter (n := 60) Try.func21 rfl rfl rfl (by repeat (first | exact Fill.nil | apply Fill.cons)) ?_
    refine cw_seq ?_
    refine cw_region ?_
    refine lstep rfl rfl rfl (run_boxN (.tmp rfl)) ?_
    intro b1 _
    refine lstepB rfl rfl rfl (run_assign .const) ?_
    refine lstepB rfl rfl rfl (run_assign .const) ?_
    refine lstepB rfl rfl rfl (run_assign .const) ?_
    refine lnil ?_
    refine xw_then ?_
    refine cw_seq ?_
    refine cw_seq ?_
    refine cw_region ?_
    refine lstepB rfl rfl rfl (run_loadN (.tmp rfl) kd24 sz24 (by repeat (first | exact List.Mem.head _ | apply List.Mem.tail)) (by repeat (first | exact Sub.done | apply Sub.take | apply Sub.skip))) ?_
    refine lstepB rfl rfl rfl (run_call1 cb35 (.cons (.tmp rfl) .nil) (fun w2 hS => (rFurrowK f oa wa da oc wc dc w2 hm (hf.kept hS.kept)).as (congrArg Value.bool hv))) ?_
    refine lstepB rfl rfl rfl (run_not (.tmp rfl) (by first | exact Bool.not_true | exact Bool.not_false | exact rfl)) ?_
    refine lnil ?_
    refine xw_then ?_
    refine cw_cond_true (.tmp rfl) ?_
    refine cw_seq ?_
    refine cw_region ?_
    refine lstepB rfl rfl rfl (run_assign .const) ?_
    refine lstepB rfl rfl rfl (run_assign .const) ?_
    refine lstepB rfl rfl rfl (run_assign .const) ?_
    refine lnil ?_
    refine xw_then ?_
    refine cw_ret ?_
    refine xw_then_ret ?_
    refine xw_ret3 Try.results21 rfl rfl rfl (fun w hS => ⟨rfl, hS.kept⟩)
  ·
    have hvf := validF hv
    obtain ⟨hw3, h6⟩ := hwv hv
    refine .mk <| enter (n := 60) Try.func21 rfl rfl rfl (by repeat (first | exact Fill.nil | apply Fill.cons)) ?_
    refine cw_seq ?_
    refine cw_region ?_
    refine lstep rfl rfl rfl (run_boxN (.tmp rfl)) ?_
    intro b1 _
    refine lstepB rfl rfl rfl (run_assign .const) ?_
    refine lstepB rfl rfl rfl (run_assign .const) ?_
    refine lstepB rfl rfl rfl (run_assign .const) ?_
    refine lnil ?_
    refine xw_then ?_
    refine cw_seq ?_
    refine cw_seq ?_
    refine cw_region ?_
    refine lstepB rfl rfl rfl (run_loadN (.tmp rfl) kd24 sz24 (by repeat (first | exact List.Mem.head _ | apply List.Mem.tail)) (by repeat (first | exact Sub.done | apply Sub.take | apply Sub.skip))) ?_
    refine lstepB rfl rfl rfl (run_call1 cb35 (.cons (.tmp rfl) .nil) (fun w2 hS => (rFurrowK f oa wa da oc wc dc w2 hm (hf.kept hS.kept)).as (congrArg Value.bool hv))) ?_
    refine lstepB rfl rfl rfl (run_not (.tmp rfl) (by first | exact Bool.not_true | exact Bool.not_false | exact rfl)) ?_
    refine lnil ?_
    refine xw_then ?_
    refine cw_cond_false (.tmp rfl) ?_
    refine cw_skip ?_
    refine xw_then ?_
    refine cw_seq ?_
    refine cw_region ?_
    refine lstepB rfl rfl rfl (run_loadN (.tmp rfl) kd24 sz24 (by repeat (first | exact List.Mem.head _ | apply List.Mem.tail)) (by repeat (first | exact Sub.done | apply Sub.take | apply Sub.skip))) ?_
    refine lcallN rfl cb46 (.cons (.tmp rfl) .nil) (F := fun (g : Nat × Nat × List Value) lo w' => AllAt lo w' g (lsF f)) (rv := fun g => outV (some g) (lsF f).length) (fun w2 hS => allWaysK f oa wa da oc wc dc hvf hw3 h6 w2 hm (hf.kept hS.kept)) ?_
    rintro g lo w1 hA hlo hs0 hs1 hS0
    dsimp only [outV]
    have hllen := lsF_len hw3 h6
    have hcap := hA.cap
    have hfine := hvf.fine
    have hpos : 0 < (lsF f).length := allF_some hfine f.offs.length [] (by simp)
    refine lstepB rfl rfl rfl (run_assign (.tmp rfl)) ?_
    refine lnil ?_
    refine xw_then ?_
    refine cw_seq ?_
    refine cw_region ?_
    refine lstepB rfl rfl rfl (run_assign .const) ?_
    refine lstepB rfl rfl rfl (run_assign .const) ?_
    refine lnil ?_
    refine xw_then ?_
    refine cw_seq ?_
    refine cw_seq ?_
    refine cw_region ?_
    refine lstepB rfl rfl rfl (run_assign .const) ?_
    refine lnil ?_
    refine xw_then ?_
    refine cw_block ?_
    refine cw_loop (S := Nat) (fun k => [(8, .int .i64 ((k + 1 : Nat) : Int)), (6, .int .i64 (((worstN f.offs k).1 : Nat) : Int)), (7, .int .i64 (((worstN f.offs k).2 : Nat) : Int))]) [(1, _), (5, _)] (fun k => (b1, Obj.cells (furrowC f oa wa da oc wc dc).toArray 24 (0, 0)) :: []) (fun k => k ≤ f.offs.length - 2) (fun k => f.offs.length - 2 - k) 0 (Nat.zero_le _) (by repeat (first | exact Less.nil | refine Less.cons rfl ?_)) (by repeat (first | exact Pick.nil | (apply Pick.cons; focus (repeat (first | exact Del.here | apply Del.there))))) ?_
    intro k hk
    have hwl := worstN_lt2 f.offs k
    have hpk := pow9U ⟨k + 1, by omega⟩
    have hpk2 := pow9U ⟨k + 1 + 1, by omega⟩
    simp only at hpk hpk2
    refine cw_seq ?_
    refine cw_seq ?_
    refine cw_region ?_
    refine lstepB rfl rfl rfl (run_move (.tmp rfl)) ?_
    refine lstepB rfl rfl rfl (run_add (c := ((k + 2 : Nat) : Int)) (.tmp rfl) .const (by rw [show ((k + 2 : Nat) : Int) = ((k + 1 : Nat) : Int) + 1 by omega]; exact IntWalk.i64_in _ (by omega))) ?_
    refine lstepB rfl rfl rfl (run_fieldAddr (.tmp rfl) fa24_0 (by first | exact Nat.zero_add _ | exact rfl)) ?_
    refine lstepB rfl rfl rfl (run_load1 (.tmp rfl) kd22 (by repeat (first | exact List.Mem.head _ | apply List.Mem.tail)) (by exact rfl)) ?_
    refine lstepB rfl rfl rfl (run_len (.tmp rfl) sl22) ?_
    refine lstepB rfl rfl rfl (run_lss (.tmp rfl) (.tmp rfl) rfl) ?_
    refine lnil ?_
    refine xw_then ?_
    refine cw_cond_p (.tmp rfl) (fun hl => ?_) (fun hl => ?_)
    ·
      have hs : Inner f.offs (k + 1) := ⟨by omega, by omega⟩
      refine cw_skip ?_
      refine xw_then ?_
      refine cw_seq ?_
      refine cw_block ?_
      refine cw_seq ?_
      refine cw_region ?_
      refine lstepB rfl rfl rfl (run_assign .const) ?_
      refine lnil ?_
      refine xw_then ?_
      refine cw_seq ?_
      refine cw_seq ?_
      refine cw_region ?_
      refine lstepB rfl rfl rfl (run_assign .const) ?_
      refine lnil ?_
      refine xw_then ?_
      refine cw_block ?_
      refine cw_loop (S := Nat) (fun i => [(10, .int .i64 (i : Int)), (9, .int .i64 ((cntW f (k + 1) i : Nat) : Int))]) [(1, _), (5, _), (6, _), (7, _), (8, _)] (fun i => (b1, Obj.cells (furrowC f oa wa da oc wc dc).toArray 24 (0, 0)) :: []) (fun i => i ≤ (lsF f).length) (fun i => (lsF f).length - i) 0 (Nat.zero_le _) (by repeat (first | exact Less.nil | refine Less.cons rfl ?_)) (by repeat (first | exact Pick.nil | (apply Pick.cons; focus (repeat (first | exact Del.here | apply Del.there))))) ?_
      intro i hi
      have hcl := cntW_le f (k + 1) i
      refine cw_seq ?_
      refine cw_seq ?_
      refine cw_region ?_
      refine lstepB rfl rfl rfl (run_move (.tmp rfl)) ?_
      refine lstepB rfl rfl rfl (run_move (.tmp rfl)) ?_
      refine lstepB rfl rfl rfl (run_len (.tmp rfl) sl73) ?_
      refine lstepB rfl rfl rfl (run_lss (.tmp rfl) (.tmp rfl) rfl) ?_
      refine lnil ?_
      refine xw_then ?_
      refine cw_cond_p (.tmp rfl) (fun hl2 => ?_) (fun hl2 => ?_)
      ·
        have hil : i < (lsF f).length := by omega
        obtain ⟨ai, ci, hcell, hints, hlow⟩ := hA.at_ i (atL f i) (atL_some hil)
        have hI := atL_inn hil
        have hIl := hI.1
        rw [hIl] at hcell
        have hn6 : f.offs.length ≤ 1000000 := by omega
        refine cw_skip ?_
        refine xw_then ?_
        refine cw_seq ?_
        refine cw_block ?_
        refine cw_seq ?_
        refine cw_chain2 (σ := [0, 1, 2, 3, 4, 5, 6, 7, 8, 9, 10, 11]) [⟨0, [], [], [], 0⟩, ⟨0, [], [], [], 0⟩, ⟨0, [], [], [], 3⟩, ⟨0, [], [], [], 7⟩, ⟨0, [], [], [], 0⟩, ⟨0, [], [], [], 31⟩, ⟨0, [], [], [], 0⟩, ⟨0, [], [], [], 0⟩, ⟨0, [], [], [], 192⟩, ⟨0, [], [], [], 448⟩, ⟨0, [], [], [], 1023⟩, ⟨0, [], [], [], 2047⟩] [(0, _)] (by kernel_rfl) (by kernel_rfl) rfl ?_
        refine .det (B := []) rfl rfl (.inl rfl) .nil .nil rfl (RunB.lr (run_move (.tmp rfl))) ?_
        refine .det (B := []) rfl rfl (.inl rfl) .nil .nil rfl (RunB.lr (run_move (.tmp rfl))) ?_
        refine .det (B := []) rfl rfl (.inl rfl) .nil .nil rfl (RunB.lr (run_indexAddr (i := i) (off' := i) (.tmp rfl) (.tmp rfl) el73 (by omega) (by rw [Nat.mul_one, Nat.zero_add]))) ?_
        refine .det (B := []) rfl rfl (.inl rfl) .nil .nil rfl (RunB.lr (run_load1_at (v := .slice ai f.offs.length ci) (.tmp rfl) kd33 (fun w' hS => hS.old_cell (low_not hlo hA.low) hcell))) ?_
        refine .det (B := []) rfl rfl (.inl rfl) .nil .nil rfl (RunB.lr (run_move (.tmp rfl))) ?_
        refine .det (B := []) rfl rfl (.inl rfl) .nil .nil rfl (RunB.lr (run_call1 cb52 (.cons (.tmp rfl) (.cons (.tmp rfl) .nil)) (fun w2 hS => rbendKz (atL f i) hIl (k + 1) (by omega) (by omega) hn6 (inn_small hvf hI) ai ci w2 (AllAt.ints hints hlow hlo hS)))) ?_
        refine .det (B := []) rfl rfl (.inl rfl) .nil .nil rfl (RunB.lr (run_move (.tmp rfl))) ?_
        refine .det (B := []) rfl rfl (.inl rfl) .nil .nil rfl (RunB.lr (run_move (.tmp rfl))) ?_
        refine .det (B := []) rfl rfl (.inl rfl) .nil .nil rfl (RunB.lr (run_indexAddr (i := i) (off' := i) (.tmp rfl) (.tmp rfl) el73 (by omega) (by rw [Nat.mul_one, Nat.zero_add]))) ?_
        refine .det (B := []) rfl rfl (.inl rfl) .nil .nil rfl (RunB.lr (run_load1_at (v := .slice ai f.offs.length ci) (.tmp rfl) kd33 (fun w' hS => hS.old_cell (low_not hlo hA.low) hcell))) ?_
        refine .det (B := []) rfl rfl (.inl rfl) .nil .nil rfl (RunB.lr (run_call1 cb32 (.cons (.tmp rfl) .nil) (fun w2 hS => rmostKz (atL f i) hIl hn6 (inn_small hvf hI) ai ci w2 (AllAt.ints hints hlow hlo hS)))) ?_
        refine .det (B := []) rfl rfl (.inl rfl) .nil .nil rfl (RunB.lr (run_eql (.tmp rfl) (.tmp rfl) rfl)) ?_
        refine chain_nil (ts := [0]) (.cons rfl .nil) (by decide) ?_
        refine xw_then ?_
        refine cw_cond_p (.tmp rfl) (fun hc2 => ?_) (fun hc2 => ?_)
        ·
          have hc3 : cntW f (k + 1) (i + 1) = cntW f (k + 1) i + 1 := by show (if leadsB f (k + 1) i then _ else _) = _; rw [if_pos (show leadsB f (k + 1) i = true from decide_eq_true hc2)]
          refine cw_region ?_
          refine lstepB rfl rfl rfl (run_move (.tmp rfl)) ?_
          refine lstepB rfl rfl rfl (run_add (c := ((cntW f (k + 1) (i + 1) : Nat) : Int)) (.tmp rfl) .const (by rw [hc3, show ((cntW f (k + 1) i + 1 : Nat) : Int) = (cntW f (k + 1) i : Int) + 1 by omega]; exact IntWalk.i64_in _ (by omega))) ?_
          refine lstepB rfl rfl rfl (run_assign (.tmp rfl)) ?_
          refine lnil ?_
          refine xw_in ?_
          refine xw_then ?_
          refine cw_region ?_
          refine lstepB rfl rfl rfl (run_move (.tmp rfl)) ?_
          refine lstepB rfl rfl rfl (run_add (.tmp rfl) .const (by first | exact IntWalk.i64_in _ (by omega) | exact rfl)) ?_
          refine lstepB rfl rfl rfl (run_assign (.tmp rfl)) ?_
          refine lnil ?_
          exact xw_round (i + 1) (by show i + 1 ≤ _; omega) (by show (lsF f).length - (i + 1) < (lsF f).length - i; omega) (by repeat (first | exact Less.nil | refine Less.cons rfl ?_)) (by repeat (first | exact Pick.nil | (apply Pick.cons; focus (repeat (first | exact Del.here | apply Del.there)))))
        ·
          have hc3 : cntW f (k + 1) (i + 1) = cntW f (k + 1) i := by show (if leadsB f (k + 1) i then _ else _) = _; rw [if_neg (show ¬ leadsB f (k + 1) i = true from fun h => hc2 (of_decide_eq_true h))]
          rw [← hc3]
          refine cw_skip ?_
          refine xw_in ?_
          refine xw_then ?_
          refine cw_region ?_
          refine lstepB rfl rfl rfl (run_move (.tmp rfl)) ?_
          refine lstepB rfl rfl rfl (run_add (.tmp rfl) .const (by first | exact IntWalk.i64_in _ (by omega) | exact rfl)) ?_
          refine lstepB rfl rfl rfl (run_assign (.tmp rfl)) ?_
          refine lnil ?_
          exact xw_round (i + 1) (by show i + 1 ≤ _; omega) (by show (lsF f).length - (i + 1) < (lsF f).length - i; omega) (by repeat (first | exact Less.nil | refine Less.cons rfl ?_)) (by repeat (first | exact Pick.nil | (apply Pick.cons; focus (repeat (first | exact Del.here | apply Del.there)))))
      ·
        obtain rfl : i = (lsF f).length := by omega
        have hfi := full_iff hvf hs
        have hsi := some_iff hvf hs
        have e1 : noteN (worstN f.offs k).1 (k + 1) true = (worstN f.offs k).1 + 2 ^ (k + 1) := note_add hwl.1
        have e2 : noteN (worstN f.offs k).2 (k + 1) true = (worstN f.offs k).2 + 2 ^ (k + 1) := note_add hwl.2
        cases hob : outB f.offs (k + 1)
        all_goals cases hlb : leadAny f.offs (k + 1)
        ·
          have es1 : (worstN f.offs (k + 1)).1 = (worstN f.offs k).1 + 2 ^ (k + 1) := by show noteN _ _ (!outB f.offs (k + 1)) = _; rw [hob]; exact e1
          have es2 : (worstN f.offs (k + 1)).2 = (worstN f.offs k).2 := by show noteN _ _ (leadAny f.offs (k + 1)) = _; rw [hlb]; rfl
          have q1 : cntW f (k + 1) (lsF f).length = (lsF f).length := hfi.2 hob
          have q2 : ¬ 0 < cntW f (k + 1) (lsF f).length := fun h => by have := hsi.1 h; rw [hlb] at this; cases this
          refine cw_exit ?_
          refine xw_then_exit ?_
          refine xw_then_exit ?_
          refine xw_in_exit ?_
          refine xw_then ?_
          refine cw_seq ?_
          refine cw_seq ?_
          refine cw_region ?_
          refine lstepB rfl rfl rfl (run_move (.tmp rfl)) ?_
          refine lstepB rfl rfl rfl (run_move (.tmp rfl)) ?_
          refine lstepB rfl rfl rfl (run_len (.tmp rfl) sl73) ?_
          refine lstepB rfl rfl rfl (run_eql (.tmp rfl) (.tmp rfl) (decide_eq_true (by omega))) ?_
          refine lnil ?_
          refine xw_then ?_
          refine cw_cond_true (.tmp rfl) ?_
          refine cw_region ?_
          refine lstepB rfl rfl rfl (run_move (.tmp rfl)) ?_
          refine lstepB rfl rfl rfl (run_move (.tmp rfl)) ?_
          refine lstepB rfl rfl rfl (run_call1 cb59 (.cons (.tmp rfl) .nil) (fun w _ => powerK (k + 1) (by omega) w)) ?_
          refine lstepB rfl rfl rfl (run_add (c := (((worstN f.offs k).1 + 2 ^ (k + 1) : Nat) : Int)) (.tmp rfl) (.tmp rfl) (IntWalk.i64_in _ (by omega))) ?_
          refine lstepB rfl rfl rfl (run_assign (.tmp rfl)) ?_
          refine lnil ?_
          refine xw_then ?_
          refine cw_seq ?_
          refine cw_region ?_
          refine lstepB rfl rfl rfl (run_move (.tmp rfl)) ?_
          refine lstepB rfl rfl rfl (run_gtr (.tmp rfl) .const (decide_eq_false (by omega))) ?_
          refine lnil ?_
          refine xw_then ?_
          refine cw_cond_false (.tmp rfl) ?_
          refine cw_skip ?_
          refine xw_in ?_
          refine xw_then ?_
          refine cw_region ?_
          refine lstepB rfl rfl rfl (run_move (.tmp rfl)) ?_
          refine lstepB rfl rfl rfl (run_add (c := ((k + 1 + 1 : Nat) : Int)) (.tmp rfl) .const (by rw [show ((k + 1 + 1 : Nat) : Int) = ((k + 1 : Nat) : Int) + 1 by omega]; exact IntWalk.i64_in _ (by omega))) ?_
          refine lstepB rfl rfl rfl (run_assign (.tmp rfl)) ?_
          refine lnil ?_
          rw [← es1]
          rw [← es2]
          exact xw_round (k + 1) (by show k + 1 ≤ _; omega) (by show f.offs.length - 2 - (k + 1) < f.offs.length - 2 - k; omega) (by repeat (first | exact Less.nil | refine Less.cons rfl ?_)) (by repeat (first | exact Pick.nil | (apply Pick.cons; focus (repeat (first | exact Del.here | apply Del.there)))))
        ·
          have es1 : (worstN f.offs (k + 1)).1 = (worstN f.offs k).1 + 2 ^ (k + 1) := by show noteN _ _ (!outB f.offs (k + 1)) = _; rw [hob]; exact e1
          have es2 : (worstN f.offs (k + 1)).2 = (worstN f.offs k).2 + 2 ^ (k + 1) := by show noteN _ _ (leadAny f.offs (k + 1)) = _; rw [hlb]; exact e2
          have q1 : cntW f (k + 1) (lsF f).length = (lsF f).length := hfi.2 hob
          have q2 : 0 < cntW f (k + 1) (lsF f).length := hsi.2 hlb
          refine cw_exit ?_
          refine xw_then_exit ?_
          refine xw_then_exit ?_
          refine xw_in_exit ?_
          refine xw_then ?_
          refine cw_seq ?_
          refine cw_seq ?_
          refine cw_region ?_
          refine lstepB rfl rfl rfl (run_move (.tmp rfl)) ?_
          refine lstepB rfl rfl rfl (run_move (.tmp rfl)) ?_
          refine lstepB rfl rfl rfl (run_len (.tmp rfl) sl73) ?_
          refine lstepB rfl rfl rfl (run_eql (.tmp rfl) (.tmp rfl) (decide_eq_true (by omega))) ?_
          refine lnil ?_
          refine xw_then ?_
          refine cw_cond_true (.tmp rfl) ?_
          refine cw_region ?_
          refine lstepB rfl rfl rfl (run_move (.tmp rfl)) ?_
          refine lstepB rfl rfl rfl (run_move (.tmp rfl)) ?_
          refine lstepB rfl rfl rfl (run_call1 cb59 (.cons (.tmp rfl) .nil) (fun w _ => powerK (k + 1) (by omega) w)) ?_
          refine lstepB rfl rfl rfl (run_add (c := (((worstN f.offs k).1 + 2 ^ (k + 1) : Nat) : Int)) (.tmp rfl) (.tmp rfl) (IntWalk.i64_in _ (by omega))) ?_
          refine lstepB rfl rfl rfl (run_assign (.tmp rfl)) ?_
          refine lnil ?_
          refine xw_then ?_
          refine cw_seq ?_
          refine cw_region ?_
          refine lstepB rfl rfl rfl (run_move (.tmp rfl)) ?_
          refine lstepB rfl rfl rfl (run_gtr (.tmp rfl) .const (decide_eq_true (by omega))) ?_
          refine lnil ?_
          refine xw_then ?_
          refine cw_cond_true (.tmp rfl) ?_
          refine cw_region ?_
          refine lstepB rfl rfl rfl (run_move (.tmp rfl)) ?_
          refine lstepB rfl rfl rfl (run_move (.tmp rfl)) ?_
          refine lstepB rfl rfl rfl (run_call1 cb59 (.cons (.tmp rfl) .nil) (fun w _ => powerK (k + 1) (by omega) w)) ?_
          refine lstepB rfl rfl rfl (run_add (c := (((worstN f.offs k).2 + 2 ^ (k + 1) : Nat) : Int)) (.tmp rfl) (.tmp rfl) (IntWalk.i64_in _ (by omega))) ?_
          refine lstepB rfl rfl rfl (run_assign (.tmp rfl)) ?_
          refine lnil ?_
          refine xw_in ?_
          refine xw_then ?_
          refine cw_region ?_
          refine lstepB rfl rfl rfl (run_move (.tmp rfl)) ?_
          refine lstepB rfl rfl rfl (run_add (c := ((k + 1 + 1 : Nat) : Int)) (.tmp rfl) .const (by rw [show ((k + 1 + 1 : Nat) : Int) = ((k + 1 : Nat) : Int) + 1 by omega]; exact IntWalk.i64_in _ (by omega))) ?_
          refine lstepB rfl rfl rfl (run_assign (.tmp rfl)) ?_
          refine lnil ?_
          rw [← es1]
          rw [← es2]
          exact xw_round (k + 1) (by show k + 1 ≤ _; omega) (by show f.offs.length - 2 - (k + 1) < f.offs.length - 2 - k; omega) (by repeat (first | exact Less.nil | refine Less.cons rfl ?_)) (by repeat (first | exact Pick.nil | (apply Pick.cons; focus (repeat (first | exact Del.here | apply Del.there)))))
        ·
          have es1 : (worstN f.offs (k + 1)).1 = (worstN f.offs k).1 := by show noteN _ _ (!outB f.offs (k + 1)) = _; rw [hob]; rfl
          have es2 : (worstN f.offs (k + 1)).2 = (worstN f.offs k).2 := by show noteN _ _ (leadAny f.offs (k + 1)) = _; rw [hlb]; rfl
          have q1 : ¬ cntW f (k + 1) (lsF f).length = (lsF f).length := fun h => by have := hfi.1 h; rw [hob] at this; cases this
          have q2 : ¬ 0 < cntW f (k + 1) (lsF f).length := fun h => by have := hsi.1 h; rw [hlb] at this; cases this
          refine cw_exit ?_
          refine xw_then_exit ?_
          refine xw_then_exit ?_
          refine xw_in_exit ?_
          refine xw_then ?_
          refine cw_seq ?_
          refine cw_seq ?_
          refine cw_region ?_
          refine lstepB rfl rfl rfl (run_move (.tmp rfl)) ?_
          refine lstepB rfl rfl rfl (run_move (.tmp rfl)) ?_
          refine lstepB rfl rfl rfl (run_len (.tmp rfl) sl73) ?_
          refine lstepB rfl rfl rfl (run_eql (.tmp rfl) (.tmp rfl) (decide_eq_false (by omega))) ?_
          refine lnil ?_
          refine xw_then ?_
          refine cw_cond_false (.tmp rfl) ?_
          refine cw_skip ?_
          refine xw_then ?_
          refine cw_seq ?_
          refine cw_region ?_
          refine lstepB rfl rfl rfl (run_move (.tmp rfl)) ?_
          refine lstepB rfl rfl rfl (run_gtr (.tmp rfl) .const (decide_eq_false (by omega))) ?_
          refine lnil ?_
          refine xw_then ?_
          refine cw_cond_false (.tmp rfl) ?_
          refine cw_skip ?_
          refine xw_in ?_
          refine xw_then ?_
          refine cw_region ?_
          refine lstepB rfl rfl rfl (run_move (.tmp rfl)) ?_
          refine lstepB rfl rfl rfl (run_add (c := ((k + 1 + 1 : Nat) : Int)) (.tmp rfl) .const (by rw [show ((k + 1 + 1 : Nat) : Int) = ((k + 1 : Nat) : Int) + 1 by omega]; exact IntWalk.i64_in _ (by omega))) ?_
          refine lstepB rfl rfl rfl (run_assign (.tmp rfl)) ?_
          refine lnil ?_
          rw [← es1]
          rw [← es2]
          exact xw_round (k + 1) (by show k + 1 ≤ _; omega) (by show f.offs.length - 2 - (k + 1) < f.offs.length - 2 - k; omega) (by repeat (first | exact Less.nil | refine Less.cons rfl ?_)) (by repeat (first | exact Pick.nil | (apply Pick.cons; focus (repeat (first | exact Del.here | apply Del.there)))))
        ·
          have es1 : (worstN f.offs (k + 1)).1 = (worstN f.offs k).1 := by show noteN _ _ (!outB f.offs (k + 1)) = _; rw [hob]; rfl
          have es2 : (worstN f.offs (k + 1)).2 = (worstN f.offs k).2 + 2 ^ (k + 1) := by show noteN _ _ (leadAny f.offs (k + 1)) = _; rw [hlb]; exact e2
          have q1 : ¬ cntW f (k + 1) (lsF f).length = (lsF f).length := fun h => by have := hfi.1 h; rw [hob] at this; cases this
          have q2 : 0 < cntW f (k + 1) (lsF f).length := hsi.2 hlb
          refine cw_exit ?_
          refine xw_then_exit ?_
          refine xw_then_exit ?_
          refine xw_in_exit ?_
          refine xw_then ?_
          refine cw_seq ?_
          refine cw_seq ?_
          refine cw_region ?_
          refine lstepB rfl rfl rfl (run_move (.tmp rfl)) ?_
          refine lstepB rfl rfl rfl (run_move (.tmp rfl)) ?_
          refine lstepB rfl rfl rfl (run_len (.tmp rfl) sl73) ?_
          refine lstepB rfl rfl rfl (run_eql (.tmp rfl) (.tmp rfl) (decide_eq_false (by omega))) ?_
          refine lnil ?_
          refine xw_then ?_
          refine cw_cond_false (.tmp rfl) ?_
          refine cw_skip ?_
          refine xw_then ?_
          refine cw_seq ?_
          refine cw_region ?_
          refine lstepB rfl rfl rfl (run_move (.tmp rfl)) ?_
          refine lstepB rfl rfl rfl (run_gtr (.tmp rfl) .const (decide_eq_true (by omega))) ?_
          refine lnil ?_
          refine xw_then ?_
          refine cw_cond_true (.tmp rfl) ?_
          refine cw_region ?_
          refine lstepB rfl rfl rfl (run_move (.tmp rfl)) ?_
          refine lstepB rfl rfl rfl (run_move (.tmp rfl)) ?_
          refine lstepB rfl rfl rfl (run_call1 cb59 (.cons (.tmp rfl) .nil) (fun w _ => powerK (k + 1) (by omega) w)) ?_
          refine lstepB rfl rfl rfl (run_add (c := (((worstN f.offs k).2 + 2 ^ (k + 1) : Nat) : Int)) (.tmp rfl) (.tmp rfl) (IntWalk.i64_in _ (by omega))) ?_
          refine lstepB rfl rfl rfl (run_assign (.tmp rfl)) ?_
          refine lnil ?_
          refine xw_in ?_
          refine xw_then ?_
          refine cw_region ?_
          refine lstepB rfl rfl rfl (run_move (.tmp rfl)) ?_
          refine lstepB rfl rfl rfl (run_add (c := ((k + 1 + 1 : Nat) : Int)) (.tmp rfl) .const (by rw [show ((k + 1 + 1 : Nat) : Int) = ((k + 1 : Nat) : Int) + 1 by omega]; exact IntWalk.i64_in _ (by omega))) ?_
          refine lstepB rfl rfl rfl (run_assign (.tmp rfl)) ?_
          refine lnil ?_
          rw [← es1]
          rw [← es2]
          exact xw_round (k + 1) (by show k + 1 ≤ _; omega) (by show f.offs.length - 2 - (k + 1) < f.offs.length - 2 - k; omega) (by repeat (first | exact Less.nil | refine Less.cons rfl ?_)) (by repeat (first | exact Pick.nil | (apply Pick.cons; focus (repeat (first | exact Del.here | apply Del.there)))))
    ·
      obtain rfl : k = f.offs.length - 2 := by omega
      refine cw_exit ?_
      refine xw_then_exit ?_
      refine xw_then_exit ?_
      refine xw_in_exit ?_
      refine xw_then ?_
      refine cw_seq ?_
      refine cw_region ?_
      refine lstepB rfl rfl rfl (run_move (.tmp rfl)) ?_
      refine lstepB rfl rfl rfl (run_move (.tmp rfl)) ?_
      refine lstepB rfl rfl rfl (run_assign (.tmp rfl)) ?_
      refine lstepB rfl rfl rfl (run_assign (.tmp rfl)) ?_
      refine lstepB rfl rfl rfl (run_assign .const) ?_
      refine lnil ?_
      refine xw_then ?_
      refine cw_ret ?_
      refine xw_ret3 Try.results21 rfl rfl rfl (fun w hS => ⟨rfl, below_blk hS0 hS⟩)
theorem intsKn (l : List Int) {n1 : Nat} (h : l.length = n1) (hn : n1 ≤ 1000000) (a b : Option Addr) (ca cb : Nat) (w : World) (hp : IntsAt w a l) (hq : IntsAt w b l) : Gives Try.prog 22 [.slice a n1 ca, .slice b n1 cb] w (.bool true) := by
  subst h
  have h := intsK l l a b ca cb w hn hn hp hq
  rw [decide_eq_true rfl] at h
  exact h
set_option maxRecDepth 100000 in
set_option maxHeartbeats 4000000 in
theorem furrowBends_any (f : FurrowD) (oa wa da : Option Addr) (oc wc dc : Nat) (st : Int) (w : World) (hbnd : f.offs.length ≤ 9223372036854775807 ∧ f.wids.length ≤ 9223372036854775807 ∧ f.deps.length ≤ 9223372036854775807) (hf : FurrowAt w f oa wa da) : Gives Try.prog 3 [furrowV f oa wa da oc wc dc, .int .i64 st] w (.bool true) := by
  cases hh : heavyB f 6 3
  ·
    have h40 : ¬ 40 < lenM f := fun h => by unfold heavyB at hh; rw [if_pos h] at hh; cases hh
    have hm := lenM_lens h40
    have hwv : validB f = true → (∀ s ∈ f.offs, s.hi - s.lo ≤ 3) ∧ f.offs.length ≤ 6 := fun hv => by
      have hh2 := hh
      unfold heavyB at hh2
      rw [if_neg h40, hv, if_pos rfl, Bool.or_eq_false_iff, decide_eq_false_iff_not] at hh2
      refine ⟨fun s hs => ?_, by have := hh2.2; unfold lenM at this; omega⟩
      have h1 := hh2.1
      unfold wideB at h1
      rw [List.any_eq_false] at h1
      have h2 := h1 s hs
      simp only [decide_eq_true_eq] at h2
      omega
    cases hv : validB f
    ·
      refine .mk <| enter (n := 116) Try.func3 rfl rfl rfl (by repeat (first | exact Fill.nil | apply Fill.cons)) ?_
      refine cw_seq ?_
      refine cw_region ?_
      refine lstep rfl rfl rfl (run_boxN (.tmp rfl)) ?_
      intro b2 _
      refine lstepB rfl rfl rfl (run_assign .const) ?_
      refine lnil ?_
      refine xw_then ?_
      refine cw_seq ?_
      refine cw_seq ?_
      refine cw_region ?_
      refine lstepB rfl rfl rfl (run_loadN (.tmp rfl) kd24 sz24 (by repeat (first | exact List.Mem.head _ | apply List.Mem.tail)) (by repeat (first | exact Sub.done | apply Sub.take | apply Sub.skip))) ?_
      refine lstepB rfl rfl rfl (run_call1 cb12 (.cons (.tmp rfl) (.cons .const (.cons .const .nil))) (fun w2 hS => (heavyK f oa wa da oc wc dc 6 3 w2 hbnd (hf.kept hS.kept)).as (congrArg Value.bool hh))) ?_
      refine lnil ?_
      refine xw_then ?_
      refine cw_cond_false (.tmp rfl) ?_
      refine cw_skip ?_
      refine xw_then ?_
      refine cw_seq ?_
      refine cw_region ?_
      refine lstepB rfl rfl rfl (run_loadN (.tmp rfl) kd24 sz24 (by repeat (first | exact List.Mem.head _ | apply List.Mem.tail)) (by repeat (first | exact Sub.done | apply Sub.take | apply Sub.skip))) ?_
      refine lstepB rfl rfl rfl (run_call1 cb14 (.cons (.tmp rfl) .nil) (fun w2 hS => bendQ f oa wa da oc wc dc w2 hm (hf.kept hS.kept))) ?_
      refine lstepB rfl rfl rfl (run_move (.tmp rfl)) ?_
      refine lstepB rfl rfl rfl (run_extract (.tmp rfl) rfl) ?_
      refine lstepB rfl rfl rfl (run_extract (.tmp rfl) rfl) ?_
      refine lstep rfl rfl rfl (run_alloc zr28) ?_
      intro b5 _
      refine lstep0 rfl rfl (run_storeN (.tmp rfl) (.tmp rfl) rfl sz28 rfl (by repeat (first | exact Upd.here | apply Upd.there)) (by repeat (first | exact Put.done | apply Put.put | apply Put.skip))) ?_
      refine lstepB rfl rfl rfl (run_assign (.tmp rfl)) ?_
      refine lnil ?_
      refine xw_then ?_
      refine cw_seq ?_
      refine cw_region ?_
      refine lstepB rfl rfl rfl (run_loadN (.tmp rfl) kd24 sz24 (by repeat (first | exact List.Mem.head _ | apply List.Mem.tail)) (by repeat (first | exact Sub.done | apply Sub.take | apply Sub.skip))) ?_
      refine lstepB rfl rfl rfl (run_call1 cb15 (.cons (.tmp rfl) .nil) (fun w2 hS => refBendK f oa wa da oc wc dc hwv w2 hm (hf.kept hS.kept))) ?_
      refine lstepB rfl rfl rfl (run_move (.tmp rfl)) ?_
      refine lstepB rfl rfl rfl (run_extract (.tmp rfl) rfl) ?_
      refine lstepB rfl rfl rfl (run_extract (.tmp rfl) rfl) ?_
      refine lstep rfl rfl rfl (run_alloc zr28) ?_
      intro b7 _
      refine lstep0 rfl rfl (run_storeN (.tmp rfl) (.tmp rfl) rfl sz28 rfl (by repeat (first | exact Upd.here | apply Upd.there)) (by repeat (first | exact Put.done | apply Put.put | apply Put.skip))) ?_
      refine lstepB rfl rfl rfl (run_assign (.tmp rfl)) ?_
      refine lnil ?_
      refine xw_then ?_
      refine cw_seq ?_
      refine cw_region ?_
      refine lstepB rfl rfl rfl (run_loadN (.tmp rfl) kd24 sz24 (by repeat (first | exact List.Mem.head _ | apply List.Mem.tail)) (by repeat (first | exact Sub.done | apply Sub.take | apply Sub.skip))) ?_
      refine lstepB rfl rfl rfl (run_move (.tmp rfl)) ?_
      refine lstepB rfl rfl rfl (run_call1 cb16 (.cons (.tmp rfl) (.cons (.tmp rfl) .nil)) (fun w2 hS => atQ f oa wa da oc wc dc st w2 hm (hf.kept hS.kept))) ?_
      refine lstepB rfl rfl rfl (run_move (.tmp rfl)) ?_
      refine lstepB rfl rfl rfl (run_extract (.tmp rfl) rfl) ?_
      refine lstepB rfl rfl rfl (run_extract (.tmp rfl) rfl) ?_
      refine lstep rfl rfl rfl (run_alloc zr28) ?_
      intro b9 _
      refine lstep0 rfl rfl (run_storeN (.tmp rfl) (.tmp rfl) rfl sz28 rfl (by repeat (first | exact Upd.here | apply Upd.there)) (by repeat (first | exact Put.done | apply Put.put | apply Put.skip))) ?_
      refine lstepB rfl rfl rfl (run_assign (.tmp rfl)) ?_
      refine lnil ?_
      refine xw_then ?_
      refine cw_seq ?_
      refine cw_region ?_
      refine lstepB rfl rfl rfl (run_loadN (.tmp rfl) kd24 sz24 (by repeat (first | exact List.Mem.head _ | apply List.Mem.tail)) (by repeat (first | exact Sub.done | apply Sub.take | apply Sub.skip))) ?_
      refine lstepB rfl rfl rfl (run_move (.tmp rfl)) ?_
      refine lstepB rfl rfl rfl (run_call1 cb17 (.cons (.tmp rfl) (.cons (.tmp rfl) .nil)) (fun w2 hS => refAtK f oa wa da oc wc dc st hwv w2 hm (hf.kept hS.kept))) ?_
      refine lstepB rfl rfl rfl (run_move (.tmp rfl)) ?_
      refine lstepB rfl rfl rfl (run_extract (.tmp rfl) rfl) ?_
      refine lstepB rfl rfl rfl (run_extract (.tmp rfl) rfl) ?_
      refine lstep rfl rfl rfl (run_alloc zr28) ?_
      intro b11 _
      refine lstep0 rfl rfl (run_storeN (.tmp rfl) (.tmp rfl) rfl sz28 rfl (by repeat (first | exact Upd.here | apply Upd.there)) (by repeat (first | exact Put.done | apply Put.put | apply Put.skip))) ?_
      refine lstepB rfl rfl rfl (run_assign (.tmp rfl)) ?_
      refine lnil ?_
      refine xw_then ?_
      refine cw_seq ?_
      refine cw_region ?_
      refine lstepB rfl rfl rfl (run_loadN (.tmp rfl) kd24 sz24 (by repeat (first | exact List.Mem.head _ | apply List.Mem.tail)) (by repeat (first | exact Sub.done | apply Sub.take | apply Sub.skip))) ?_
      refine lstepB rfl rfl rfl (run_call1 cb18 (.cons (.tmp rfl) .nil) (fun w2 hS => straightQ_bad f oa wa da oc wc dc w2 hm (hf.kept hS.kept) hv)) ?_
      refine lstepB rfl rfl rfl (run_move (.tmp rfl)) ?_
      refine lstepB rfl rfl rfl (run_extract (.tmp rfl) rfl) ?_
      refine lstepB rfl rfl rfl (run_extract (.tmp rfl) rfl) ?_
      refine lstepB rfl rfl rfl (run_assign (.tmp rfl)) ?_
      refine lstepB rfl rfl rfl (run_assign (.tmp rfl)) ?_
      refine lnil ?_
      refine xw_then ?_
      refine cw_seq ?_
      refine cw_region ?_
      refine lstepB rfl rfl rfl (run_loadN (.tmp rfl) kd24 sz24 (by repeat (first | exact List.Mem.head _ | apply List.Mem.tail)) (by repeat (first | exact Sub.done | apply Sub.take | apply Sub.skip))) ?_
      refine lstepB rfl rfl rfl (run_call1 cb19 (.cons (.tmp rfl) .nil) (fun w2 hS => refStraight_bad f oa wa da oc wc dc hv w2 hm (hf.kept hS.kept))) ?_
      refine lstepB rfl rfl rfl (run_move (.tmp rfl)) ?_
      refine lstepB rfl rfl rfl (run_extract (.tmp rfl) rfl) ?_
      refine lstepB rfl rfl rfl (run_extract (.tmp rfl) rfl) ?_
      refine lstepB rfl rfl rfl (run_assign (.tmp rfl)) ?_
      refine lstepB rfl rfl rfl (run_assign (.tmp rfl)) ?_
      refine lnil ?_
      refine xw_then ?_
      refine cw_seq ?_
      refine cw_region ?_
      refine lstepB rfl rfl rfl (run_loadN (.tmp rfl) kd24 sz24 (by repeat (first | exact List.Mem.head _ | apply List.Mem.tail)) (by repeat (first | exact Sub.done | apply Sub.take | apply Sub.skip))) ?_
      refine lstepB rfl rfl rfl (run_call1 cb20 (.cons (.tmp rfl) .nil) (fun w2 hS => worstQ f oa wa da oc wc dc w2 hm (hf.kept hS.kept))) ?_
      refine lstepB rfl rfl rfl (run_move (.tmp rfl)) ?_
      refine lstepB rfl rfl rfl (run_extract (.tmp rfl) rfl) ?_
      refine lstepB rfl rfl rfl (run_extract (.tmp rfl) rfl) ?_
      refine lstepB rfl rfl rfl (run_extract (.tmp rfl) rfl) ?_
      refine lstepB rfl rfl rfl (run_assign (.tmp rfl)) ?_
      refine lstepB rfl rfl rfl (run_assign (.tmp rfl)) ?_
      refine lstepB rfl rfl rfl (run_assign (.tmp rfl)) ?_
      refine lnil ?_
      refine xw_then ?_
      refine cw_seq ?_
      refine cw_region ?_
      refine lstepB rfl rfl rfl (run_loadN (.tmp rfl) kd24 sz24 (by repeat (first | exact List.Mem.head _ | apply List.Mem.tail)) (by repeat (first | exact Sub.done | apply Sub.take | apply Sub.skip))) ?_
      refine lstepB rfl rfl rfl (run_call1 cb21 (.cons (.tmp rfl) .nil) (fun w2 hS => refWorstK f oa wa da oc wc dc hwv w2 hm (hf.kept hS.kept))) ?_
      refine lstepB rfl rfl rfl (run_move (.tmp rfl)) ?_
      refine lstepB rfl rfl rfl (run_extract (.tmp rfl) rfl) ?_
      refine lstepB rfl rfl rfl (run_extract (.tmp rfl) rfl) ?_
      refine lstepB rfl rfl rfl (run_extract (.tmp rfl) rfl) ?_
      refine lstepB rfl rfl rfl (run_assign (.tmp rfl)) ?_
      refine lstepB rfl rfl rfl (run_assign (.tmp rfl)) ?_
      refine lstepB rfl rfl rfl (run_assign (.tmp rfl)) ?_
      refine lnil ?_
      refine xw_then ?_
      refine cw_seq ?_
      refine cw_region ?_
      refine lstepB rfl rfl rfl (run_loadN (.tmp rfl) kd28 sz28 (by repeat (first | exact List.Mem.head _ | apply List.Mem.tail)) (by repeat (first | exact Sub.done | apply Sub.take | apply Sub.skip))) ?_
      refine lstepB rfl rfl rfl (run_loadN (.tmp rfl) kd28 sz28 (by repeat (first | exact List.Mem.head _ | apply List.Mem.tail)) (by repeat (first | exact Sub.done | apply Sub.take | apply Sub.skip))) ?_
      refine lstepB rfl rfl rfl (run_eql_agg (.tmp rfl) (.tmp rfl) eg28 (eql28 (r := true) (by simp))) ?_
      refine lstepB rfl rfl rfl (run_move (.tmp rfl)) ?_
      refine lyes rfl rfl rfl rfl ?_
      refine gstepB rfl rfl (run_move (.tmp rfl)) ?_
      refine lyes rfl rfl rfl rfl ?_
      refine gstepB rfl rfl (run_move (.tmp rfl)) ?_
      refine lyes rfl rfl rfl rfl ?_
      refine gstepB rfl rfl (run_eql (.tmp rfl) (.tmp rfl) (decide_eq_true rfl)) ?_
      refine lstepB rfl rfl rfl (by first | exact run_pick_true (.tmp rfl) (.tmp rfl) | exact run_pick_false (.tmp rfl) .const) ?_
      refine lstepB rfl rfl rfl (run_move (.tmp rfl)) ?_
      refine lyes rfl rfl rfl rfl ?_
      refine gstepB rfl rfl (run_loadN (.tmp rfl) kd28 sz28 (by repeat (first | exact List.Mem.head _ | apply List.Mem.tail)) (by repeat (first | exact Sub.done | apply Sub.take | apply Sub.skip))) ?_
      refine lyes rfl rfl rfl rfl ?_
      refine gstepB rfl rfl (run_loadN (.tmp rfl) kd28 sz28 (by repeat (first | exact List.Mem.head _ | apply List.Mem.tail)) (by repeat (first | exact Sub.done | apply Sub.take | apply Sub.skip))) ?_
      refine lyes rfl rfl rfl rfl ?_
      refine gstepB rfl rfl (run_eql_agg (.tmp rfl) (.tmp rfl) eg28 (eql28 (r := true) (by simp))) ?_
      refine lstepB rfl rfl rfl (by first | exact run_pick_true (.tmp rfl) (.tmp rfl) | exact run_pick_false (.tmp rfl) .const) ?_
      refine lstepB rfl rfl rfl (run_move (.tmp rfl)) ?_
      refine lyes rfl rfl rfl rfl ?_
      refine gstepB rfl rfl (run_move (.tmp rfl)) ?_
      refine lyes rfl rfl rfl rfl ?_
      refine gstepB rfl rfl (run_move (.tmp rfl)) ?_
      refine lyes rfl rfl rfl rfl ?_
      refine gstepB rfl rfl (run_eql (.tmp rfl) (.tmp rfl) (decide_eq_true rfl)) ?_
      refine lstepB rfl rfl rfl (by first | exact run_pick_true (.tmp rfl) (.tmp rfl) | exact run_pick_false (.tmp rfl) .const) ?_
      refine lstepB rfl rfl rfl (run_move (.tmp rfl)) ?_
      refine lyes rfl rfl rfl rfl ?_
      refine gstepB rfl rfl (run_move (.tmp rfl)) ?_
      refine lyes rfl rfl rfl rfl ?_
      refine gstepB rfl rfl (run_move (.tmp rfl)) ?_
      refine lyes rfl rfl rfl rfl ?_
      refine gstepB rfl rfl (run_call1 cb22 (.cons (.tmp rfl) (.cons (.tmp rfl) .nil)) (fun w2 hS => intsKn [] rfl (Nat.zero_le _) none none 0 0 w2 (fun i r h => by simp at h) (fun i r h => by simp at h))) ?_
      refine lstepB rfl rfl rfl (by first | exact run_pick_true (.tmp rfl) (.tmp rfl) | exact run_pick_false (.tmp rfl) .const) ?_
      refine lstepB rfl rfl rfl (run_move (.tmp rfl)) ?_
      refine lyes rfl rfl rfl rfl ?_
      refine gstepB rfl rfl (run_move (.tmp rfl)) ?_
      refine lyes rfl rfl rfl rfl ?_
      refine gstepB rfl rfl (run_move (.tmp rfl)) ?_
      refine lyes rfl rfl rfl rfl ?_
      refine gstepB rfl rfl (run_eql (.tmp rfl) (.tmp rfl) (decide_eq_true rfl)) ?_
      refine lstepB rfl rfl rfl (by first | exact run_pick_true (.tmp rfl) (.tmp rfl) | exact run_pick_false (.tmp rfl) .const) ?_
      refine lstepB rfl rfl rfl (run_move (.tmp rfl)) ?_
      refine lyes rfl rfl rfl rfl ?_
      refine gstepB rfl rfl (run_move (.tmp rfl)) ?_
      refine lyes rfl rfl rfl rfl ?_
      refine gstepB rfl rfl (run_move (.tmp rfl)) ?_
      refine lyes rfl rfl rfl rfl ?_
      refine gstepB rfl rfl (run_eql (.tmp rfl) (.tmp rfl) (decide_eq_true rfl)) ?_
      refine lstepB rfl rfl rfl (by first | exact run_pick_true (.tmp rfl) (.tmp rfl) | exact run_pick_false (.tmp rfl) .const) ?_
      refine lstepB rfl rfl rfl (run_move (.tmp rfl)) ?_
      refine lyes rfl rfl rfl rfl ?_
      refine gstepB rfl rfl (run_move (.tmp rfl)) ?_
      refine lyes rfl rfl rfl rfl ?_
      refine gstepB rfl rfl (run_move (.tmp rfl)) ?_
      refine lyes rfl rfl rfl rfl ?_
      refine gstepB rfl rfl (run_eql (.tmp rfl) (.tmp rfl) (decide_eq_true rfl)) ?_
      refine lstepB rfl rfl rfl (by first | exact run_pick_true (.tmp rfl) (.tmp rfl) | exact run_pick_false (.tmp rfl) .const) ?_
      refine lstepB rfl rfl rfl (run_move (.tmp rfl)) ?_
      refine lyes rfl rfl rfl rfl ?_
      refine gstepB rfl rfl (run_move (.tmp rfl)) ?_
      refine lyes rfl rfl rfl rfl ?_
      refine gstepB rfl rfl (run_move (.tmp rfl)) ?_
      refine lyes rfl rfl rfl rfl ?_
      refine gstepB rfl rfl (run_eql (.tmp rfl) (.tmp rfl) (decide_eq_true rfl)) ?_
      refine lstepB rfl rfl rfl (by first | exact run_pick_true (.tmp rfl) (.tmp rfl) | exact run_pick_false (.tmp rfl) .const) ?_
      refine lstepB rfl rfl rfl (run_move (.tmp rfl)) ?_
      refine lyes rfl rfl rfl rfl ?_
      refine gstepB rfl rfl (run_call1 cb13 .nil (fun w _ => aliveK w)) ?_
      refine lstepB rfl rfl rfl (by first | exact run_pick_true (.tmp rfl) (.tmp rfl) | exact run_pick_false (.tmp rfl) .const) ?_
      refine lstepB rfl rfl rfl (run_assign (.tmp rfl)) ?_
      refine lnil ?_
      refine xw_then ?_
      refine cw_ret ?_
      refine xw_ret1 Try.results3 rfl (fun w hS => ⟨rfl, hS.kept⟩)
    ·
      have hvf := validF hv
      obtain ⟨hw3, h6⟩ := hwv hv
      obtain ⟨t, hway, htI, htm, hfirst⟩ := straight_spec hvf.fine
      refine .mk <| enter (n := 116) Try.func3 rfl rfl rfl (by repeat (first | exact Fill.nil | apply Fill.cons)) ?_
      refine cw_seq ?_
      refine cw_region ?_
      refine lstep rfl rfl rfl (run_boxN (.tmp rfl)) ?_
      intro b2 _
      refine lstepB rfl rfl rfl (run_assign .const) ?_
      refine lnil ?_
      refine xw_then ?_
      refine cw_seq ?_
      refine cw_seq ?_
      refine cw_region ?_
      refine lstepB rfl rfl rfl (run_loadN (.tmp rfl) kd24 sz24 (by repeat (first | exact List.Mem.head _ | apply List.Mem.tail)) (by repeat (first | exact Sub.done | apply Sub.take | apply Sub.skip))) ?_
      refine lstepB rfl rfl rfl (run_call1 cb12 (.cons (.tmp rfl) (.cons .const (.cons .const .nil))) (fun w2 hS => (heavyK f oa wa da oc wc dc 6 3 w2 hbnd (hf.kept hS.kept)).as (congrArg Value.bool hh))) ?_
      refine lnil ?_
      refine xw_then ?_
      refine cw_cond_false (.tmp rfl) ?_
      refine cw_skip ?_
      refine xw_then ?_
      refine cw_seq ?_
      refine cw_region ?_
      refine lstepB rfl rfl rfl (run_loadN (.tmp rfl) kd24 sz24 (by repeat (first | exact List.Mem.head _ | apply List.Mem.tail)) (by repeat (first | exact Sub.done | apply Sub.take | apply Sub.skip))) ?_
      refine lstepB rfl rfl rfl (run_call1 cb14 (.cons (.tmp rfl) .nil) (fun w2 hS => bendQ f oa wa da oc wc dc w2 hm (hf.kept hS.kept))) ?_
      refine lstepB rfl rfl rfl (run_move (.tmp rfl)) ?_
      refine lstepB rfl rfl rfl (run_extract (.tmp rfl) rfl) ?_
      refine lstepB rfl rfl rfl (run_extract (.tmp rfl) rfl) ?_
      refine lstep rfl rfl rfl (run_alloc zr28) ?_
      intro b5 _
      refine lstep0 rfl rfl (run_storeN (.tmp rfl) (.tmp rfl) rfl sz28 rfl (by repeat (first | exact Upd.here | apply Upd.there)) (by repeat (first | exact Put.done | apply Put.put | apply Put.skip))) ?_
      refine lstepB rfl rfl rfl (run_assign (.tmp rfl)) ?_
      refine lnil ?_
      refine xw_then ?_
      refine cw_seq ?_
      refine cw_region ?_
      refine lstepB rfl rfl rfl (run_loadN (.tmp rfl) kd24 sz24 (by repeat (first | exact List.Mem.head _ | apply List.Mem.tail)) (by repeat (first | exact Sub.done | apply Sub.take | apply Sub.skip))) ?_
      refine lstepB rfl rfl rfl (run_call1 cb15 (.cons (.tmp rfl) .nil) (fun w2 hS => refBendK f oa wa da oc wc dc hwv w2 hm (hf.kept hS.kept))) ?_
      refine lstepB rfl rfl rfl (run_move (.tmp rfl)) ?_
      refine lstepB rfl rfl rfl (run_extract (.tmp rfl) rfl) ?_
      refine lstepB rfl rfl rfl (run_extract (.tmp rfl) rfl) ?_
      refine lstep rfl rfl rfl (run_alloc zr28) ?_
      intro b7 _
      refine lstep0 rfl rfl (run_storeN (.tmp rfl) (.tmp rfl) rfl sz28 rfl (by repeat (first | exact Upd.here | apply Upd.there)) (by repeat (first | exact Put.done | apply Put.put | apply Put.skip))) ?_
      refine lstepB rfl rfl rfl (run_assign (.tmp rfl)) ?_
      refine lnil ?_
      refine xw_then ?_
      refine cw_seq ?_
      refine cw_region ?_
      refine lstepB rfl rfl rfl (run_loadN (.tmp rfl) kd24 sz24 (by repeat (first | exact List.Mem.head _ | apply List.Mem.tail)) (by repeat (first | exact Sub.done | apply Sub.take | apply Sub.skip))) ?_
      refine lstepB rfl rfl rfl (run_move (.tmp rfl)) ?_
      refine lstepB rfl rfl rfl (run_call1 cb16 (.cons (.tmp rfl) (.cons (.tmp rfl) .nil)) (fun w2 hS => atQ f oa wa da oc wc dc st w2 hm (hf.kept hS.kept))) ?_
      refine lstepB rfl rfl rfl (run_move (.tmp rfl)) ?_
      refine lstepB rfl rfl rfl (run_extract (.tmp rfl) rfl) ?_
      refine lstepB rfl rfl rfl (run_extract (.tmp rfl) rfl) ?_
      refine lstep rfl rfl rfl (run_alloc zr28) ?_
      intro b9 _
      refine lstep0 rfl rfl (run_storeN (.tmp rfl) (.tmp rfl) rfl sz28 rfl (by repeat (first | exact Upd.here | apply Upd.there)) (by repeat (first | exact Put.done | apply Put.put | apply Put.skip))) ?_
      refine lstepB rfl rfl rfl (run_assign (.tmp rfl)) ?_
      refine lnil ?_
      refine xw_then ?_
      refine cw_seq ?_
      refine cw_region ?_
      refine lstepB rfl rfl rfl (run_loadN (.tmp rfl) kd24 sz24 (by repeat (first | exact List.Mem.head _ | apply List.Mem.tail)) (by repeat (first | exact Sub.done | apply Sub.take | apply Sub.skip))) ?_
      refine lstepB rfl rfl rfl (run_move (.tmp rfl)) ?_
      refine lstepB rfl rfl rfl (run_call1 cb17 (.cons (.tmp rfl) (.cons (.tmp rfl) .nil)) (fun w2 hS => refAtK f oa wa da oc wc dc st hwv w2 hm (hf.kept hS.kept))) ?_
      refine lstepB rfl rfl rfl (run_move (.tmp rfl)) ?_
      refine lstepB rfl rfl rfl (run_extract (.tmp rfl) rfl) ?_
      refine lstepB rfl rfl rfl (run_extract (.tmp rfl) rfl) ?_
      refine lstep rfl rfl rfl (run_alloc zr28) ?_
      intro b11 _
      refine lstep0 rfl rfl (run_storeN (.tmp rfl) (.tmp rfl) rfl sz28 rfl (by repeat (first | exact Upd.here | apply Upd.there)) (by repeat (first | exact Put.done | apply Put.put | apply Put.skip))) ?_
      refine lstepB rfl rfl rfl (run_assign (.tmp rfl)) ?_
      refine lnil ?_
      refine xw_then ?_
      refine cw_seq ?_
      refine cw_region ?_
      refine lstepB rfl rfl rfl (run_loadN (.tmp rfl) kd24 sz24 (by repeat (first | exact List.Mem.head _ | apply List.Mem.tail)) (by repeat (first | exact Sub.done | apply Sub.take | apply Sub.skip))) ?_
      refine lstep rfl rfl rfl (LR.runs (R := []) (A := []) (lr_gives cb18 (.cons (.tmp rfl) .nil) (fun w2 hS => straightQ_ok f oa wa da oc wc dc w2 hm (hf.kept hS.kept) hv)) (by repeat (first | exact Pick.nil | (apply Pick.cons; focus (repeat (first | exact Del.here | apply Del.there))))) (by repeat (first | exact Dels.nil | (apply Dels.cons; focus (repeat (first | exact Del.here | apply Del.there)))))) ?_
      intro ⟨gS, s1⟩ ⟨hs1, hs2⟩
      dsimp only at hs1 hs2 ⊢
      obtain rfl := hs2 t hway
      refine lstepB rfl rfl rfl (run_move (.tmp rfl)) ?_
      refine lstepB rfl rfl rfl (run_extract (.tmp rfl) rfl) ?_
      refine lstepB rfl rfl rfl (run_extract (.tmp rfl) rfl) ?_
      refine lstepB rfl rfl rfl (run_assign (.tmp rfl)) ?_
      refine lstepB rfl rfl rfl (run_assign (.tmp rfl)) ?_
      refine lnil ?_
      refine xw_then ?_
      refine cw_seq ?_
      refine cw_region ?_
      refine lstepB rfl rfl rfl (run_loadN (.tmp rfl) kd24 sz24 (by repeat (first | exact List.Mem.head _ | apply List.Mem.tail)) (by repeat (first | exact Sub.done | apply Sub.take | apply Sub.skip))) ?_
      refine lcallN rfl cb19 (.cons (.tmp rfl) .nil) (F := fun (q : Option Addr × Nat × List Int) lo w' => q.2.2 = s1 ∧ IntsAt w' q.1 q.2.2 ∧ Low lo q.1) (rv := fun q => .tuple #[.slice q.1 f.offs.length q.2.1, .int .i64 0]) (fun w2 hS => (refStraightK f oa wa da oc wc dc hv hw3 h6 w2 hm (hf.kept hS.kept)).mono fun e w' ⟨a, c, u, ⟨h1, h2⟩, h3, h4, h5, h7⟩ => ⟨(a, c, u), ⟨h2 _ hway, h4, h5⟩, h3, h7⟩) ?_
      rintro ⟨ra, rc, ru⟩ lo w1 ⟨hru, hri, hrl⟩ hlo hs0 hs3 hS0
      dsimp only at hru hri hrl ⊢
      subst hru
      refine lstepB rfl rfl rfl (run_move (.tmp rfl)) ?_
      refine lstepB rfl rfl rfl (run_extract (.tmp rfl) rfl) ?_
      refine lstepB rfl rfl rfl (run_extract (.tmp rfl) rfl) ?_
      refine lstepB rfl rfl rfl (run_assign (.tmp rfl)) ?_
      refine lstepB rfl rfl rfl (run_assign (.tmp rfl)) ?_
      refine lnil ?_
      refine xw_then ?_
      refine cw_seq ?_
      refine cw_region ?_
      refine lstepB rfl rfl rfl (run_loadN (.tmp rfl) kd24 sz24 (by repeat (first | exact List.Mem.head _ | apply List.Mem.tail)) (by repeat (first | exact Sub.done | apply Sub.take | apply Sub.skip))) ?_
      refine lstepB rfl rfl rfl (run_call1 cb20 (.cons (.tmp rfl) .nil) (fun w2 hS => worstQ f oa wa da oc wc dc w2 hm (hf.kept (below_blk hS0 hS)))) ?_
      refine lstepB rfl rfl rfl (run_move (.tmp rfl)) ?_
      refine lstepB rfl rfl rfl (run_extract (.tmp rfl) rfl) ?_
      refine lstepB rfl rfl rfl (run_extract (.tmp rfl) rfl) ?_
      refine lstepB rfl rfl rfl (run_extract (.tmp rfl) rfl) ?_
      refine lstepB rfl rfl rfl (run_assign (.tmp rfl)) ?_
      refine lstepB rfl rfl rfl (run_assign (.tmp rfl)) ?_
      refine lstepB rfl rfl rfl (run_assign (.tmp rfl)) ?_
      refine lnil ?_
      refine xw_then ?_
      refine cw_seq ?_
      refine cw_region ?_
      refine lstepB rfl rfl rfl (run_loadN (.tmp rfl) kd24 sz24 (by repeat (first | exact List.Mem.head _ | apply List.Mem.tail)) (by repeat (first | exact Sub.done | apply Sub.take | apply Sub.skip))) ?_
      refine lstepB rfl rfl rfl (run_call1 cb21 (.cons (.tmp rfl) .nil) (fun w2 hS => refWorstK f oa wa da oc wc dc hwv w2 hm (hf.kept (below_blk hS0 hS)))) ?_
      refine lstepB rfl rfl rfl (run_move (.tmp rfl)) ?_
      refine lstepB rfl rfl rfl (run_extract (.tmp rfl) rfl) ?_
      refine lstepB rfl rfl rfl (run_extract (.tmp rfl) rfl) ?_
      refine lstepB rfl rfl rfl (run_extract (.tmp rfl) rfl) ?_
      refine lstepB rfl rfl rfl (run_assign (.tmp rfl)) ?_
      refine lstepB rfl rfl rfl (run_assign (.tmp rfl)) ?_
      refine lstepB rfl rfl rfl (run_assign (.tmp rfl)) ?_
      refine lnil ?_
      refine xw_then ?_
      refine cw_seq ?_
      refine cw_region ?_
      refine lstepB rfl rfl rfl (run_loadN (.tmp rfl) kd28 sz28 (by repeat (first | exact List.Mem.head _ | apply List.Mem.tail)) (by repeat (first | exact Sub.done | apply Sub.take | apply Sub.skip))) ?_
      refine lstepB rfl rfl rfl (run_loadN (.tmp rfl) kd28 sz28 (by repeat (first | exact List.Mem.head _ | apply List.Mem.tail)) (by repeat (first | exact Sub.done | apply Sub.take | apply Sub.skip))) ?_
      refine lstepB rfl rfl rfl (run_eql_agg (.tmp rfl) (.tmp rfl) eg28 (eql28 (r := true) (by simp))) ?_
      refine lstepB rfl rfl rfl (run_move (.tmp rfl)) ?_
      refine lyes rfl rfl rfl rfl ?_
      refine gstepB rfl rfl (run_move (.tmp rfl)) ?_
      refine lyes rfl rfl rfl rfl ?_
      refine gstepB rfl rfl (run_move (.tmp rfl)) ?_
      refine lyes rfl rfl rfl rfl ?_
      refine gstepB rfl rfl (run_eql (.tmp rfl) (.tmp rfl) (decide_eq_true rfl)) ?_
      refine lstepB rfl rfl rfl (by first | exact run_pick_true (.tmp rfl) (.tmp rfl) | exact run_pick_false (.tmp rfl) .const) ?_
      refine lstepB rfl rfl rfl (run_move (.tmp rfl)) ?_
      refine lyes rfl rfl rfl rfl ?_
      refine gstepB rfl rfl (run_loadN (.tmp rfl) kd28 sz28 (by repeat (first | exact List.Mem.head _ | apply List.Mem.tail)) (by repeat (first | exact Sub.done | apply Sub.take | apply Sub.skip))) ?_
      refine lyes rfl rfl rfl rfl ?_
      refine gstepB rfl rfl (run_loadN (.tmp rfl) kd28 sz28 (by repeat (first | exact List.Mem.head _ | apply List.Mem.tail)) (by repeat (first | exact Sub.done | apply Sub.take | apply Sub.skip))) ?_
      refine lyes rfl rfl rfl rfl ?_
      refine gstepB rfl rfl (run_eql_agg (.tmp rfl) (.tmp rfl) eg28 (eql28 (r := true) (by simp))) ?_
      refine lstepB rfl rfl rfl (by first | exact run_pick_true (.tmp rfl) (.tmp rfl) | exact run_pick_false (.tmp rfl) .const) ?_
      refine lstepB rfl rfl rfl (run_move (.tmp rfl)) ?_
      refine lyes rfl rfl rfl rfl ?_
      refine gstepB rfl rfl (run_move (.tmp rfl)) ?_
      refine lyes rfl rfl rfl rfl ?_
      refine gstepB rfl rfl (run_move (.tmp rfl)) ?_
      refine lyes rfl rfl rfl rfl ?_
      refine gstepB rfl rfl (run_eql (.tmp rfl) (.tmp rfl) (decide_eq_true rfl)) ?_
      refine lstepB rfl rfl rfl (by first | exact run_pick_true (.tmp rfl) (.tmp rfl) | exact run_pick_false (.tmp rfl) .const) ?_
      refine lstepB rfl rfl rfl (run_move (.tmp rfl)) ?_
      refine lyes rfl rfl rfl rfl ?_
      refine gstepB rfl rfl (run_move (.tmp rfl)) ?_
      refine lyes rfl rfl rfl rfl ?_
      refine gstepB rfl rfl (run_move (.tmp rfl)) ?_
      refine lyes rfl rfl rfl rfl ?_
      refine gstepB rfl rfl (run_call1 cb22 (.cons (.tmp rfl) (.cons (.tmp rfl) .nil)) (fun w2 hS => intsKn ru hs1 (by omega) (some ⟨gS, 0, none⟩) ra f.offs.length rc w2 (intsAt_cells (hS.mem (b := gS) (by repeat (first | exact List.Mem.head _ | apply List.Mem.tail)))) (AllAt.ints hri hrl hlo hS))) ?_
      refine lstepB rfl rfl rfl (by first | exact run_pick_true (.tmp rfl) (.tmp rfl) | exact run_pick_false (.tmp rfl) .const) ?_
      refine lstepB rfl rfl rfl (run_move (.tmp rfl)) ?_
      refine lyes rfl rfl rfl rfl ?_
      refine gstepB rfl rfl (run_move (.tmp rfl)) ?_
      refine lyes rfl rfl rfl rfl ?_
      refine gstepB rfl rfl (run_move (.tmp rfl)) ?_
      refine lyes rfl rfl rfl rfl ?_
      refine gstepB rfl rfl (run_eql (.tmp rfl) (.tmp rfl) (decide_eq_true rfl)) ?_
      refine lstepB rfl rfl rfl (by first | exact run_pick_true (.tmp rfl) (.tmp rfl) | exact run_pick_false (.tmp rfl) .const) ?_
      refine lstepB rfl rfl rfl (run_move (.tmp rfl)) ?_
      refine lyes rfl rfl rfl rfl ?_
      refine gstepB rfl rfl (run_move (.tmp rfl)) ?_
      refine lyes rfl rfl rfl rfl ?_
      refine gstepB rfl rfl (run_move (.tmp rfl)) ?_
      refine lyes rfl rfl rfl rfl ?_
      refine gstepB rfl rfl (run_eql (.tmp rfl) (.tmp rfl) (decide_eq_true rfl)) ?_
      refine lstepB rfl rfl rfl (by first | exact run_pick_true (.tmp rfl) (.tmp rfl) | exact run_pick_false (.tmp rfl) .const) ?_
      refine lstepB rfl rfl rfl (run_move (.tmp rfl)) ?_
      refine lyes rfl rfl rfl rfl ?_
      refine gstepB rfl rfl (run_move (.tmp rfl)) ?_
      refine lyes rfl rfl rfl rfl ?_
      refine gstepB rfl rfl (run_move (.tmp rfl)) ?_
      refine lyes rfl rfl rfl rfl ?_
      refine gstepB rfl rfl (run_eql (.tmp rfl) (.tmp rfl) (decide_eq_true rfl)) ?_
      refine lstepB rfl rfl rfl (by first | exact run_pick_true (.tmp rfl) (.tmp rfl) | exact run_pick_false (.tmp rfl) .const) ?_
      refine lstepB rfl rfl rfl (run_move (.tmp rfl)) ?_
      refine lyes rfl rfl rfl rfl ?_
      refine gstepB rfl rfl (run_move (.tmp rfl)) ?_
      refine lyes rfl rfl rfl rfl ?_
      refine gstepB rfl rfl (run_move (.tmp rfl)) ?_
      refine lyes rfl rfl rfl rfl ?_
      refine gstepB rfl rfl (run_eql (.tmp rfl) (.tmp rfl) (decide_eq_true rfl)) ?_
      refine lstepB rfl rfl rfl (by first | exact run_pick_true (.tmp rfl) (.tmp rfl) | exact run_pick_false (.tmp rfl) .const) ?_
      refine lstepB rfl rfl rfl (run_move (.tmp rfl)) ?_
      refine lyes rfl rfl rfl rfl ?_
      refine gstepB rfl rfl (run_call1 cb13 .nil (fun w _ => aliveK w)) ?_
      refine lstepB rfl rfl rfl (by first | exact run_pick_true (.tmp rfl) (.tmp rfl) | exact run_pick_false (.tmp rfl) .const) ?_
      refine lstepB rfl rfl rfl (run_assign (.tmp rfl)) ?_
      refine lnil ?_
      refine xw_then ?_
      refine cw_ret ?_
      refine xw_ret1 Try.results3 rfl (fun w hS => ⟨rfl, below_blk hS0 hS⟩)
  ·
    refine .mk <| enter (n := 116) Try.func3 rfl rfl rfl (by repeat (first | exact Fill.nil | apply Fill.cons)) ?_
    refine cw_seq ?_
    refine cw_region ?_
    refine lstep rfl rfl rfl (run_boxN (.tmp rfl)) ?_
    intro b2 _
    refine lstepB rfl rfl rfl (run_assign .const) ?_
    refine lnil ?_
    refine xw_then ?_
    refine cw_seq ?_
    refine cw_seq ?_
    refine cw_region ?_
    refine lstepB rfl rfl rfl (run_loadN (.tmp rfl) kd24 sz24 (by repeat (first | exact List.Mem.head _ | apply List.Mem.tail)) (by repeat (first | exact Sub.done | apply Sub.take | apply Sub.skip))) ?_
    refine lstepB rfl rfl rfl (run_call1 cb12 (.cons (.tmp rfl) (.cons .const (.cons .const .nil))) (fun w2 hS => (heavyK f oa wa da oc wc dc 6 3 w2 hbnd (hf.kept hS.kept)).as (congrArg Value.bool hh))) ?_
    refine lnil ?_
    refine xw_then ?_
    refine cw_cond_true (.tmp rfl) ?_
    refine cw_seq ?_
    refine cw_region ?_
    refine lstepB rfl rfl rfl (run_call1 cb13 .nil (fun w _ => aliveK w)) ?_
    refine lstepB rfl rfl rfl (run_assign (.tmp rfl)) ?_
    refine lnil ?_
    refine xw_then ?_
    refine cw_ret ?_
    refine xw_then_ret ?_
    refine xw_ret1 Try.results3 rfl (fun w hS => ⟨rfl, hS.kept⟩)
end Go.Proofs.Ytjdeplehhmhpcaa
