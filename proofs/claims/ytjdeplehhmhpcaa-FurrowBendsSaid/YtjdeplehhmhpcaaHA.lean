/- Furrow: the document's own Straightest and Worst. -/
import Derived.Test.YtjdeplehhmhpcaaGZ
namespace Go.Proofs.Ytjdeplehhmhpcaa
open Go.RowKit En

theorem leL_antisymm : ∀ {t u : List Int}, leL t u → leL u t → t.length = u.length → t = u
  | [], [], _, _, _ => rfl
  | [], _ :: _, _, _, h => by simp at h
  | _ :: _, [], _, _, h => by simp at h
  | x :: t, y :: u, h1, h2, h => by
    rcases h1 with h1 | ⟨h1, h3⟩
    · rcases h2 with h2 | ⟨h2, _⟩
      · omega
      · omega
    · rcases h2 with h2 | ⟨_, h4⟩
      · omega
      · rw [h1, leL_antisymm h3 h4 (by simpa using h)]
def atL (f : FurrowD) (i : Nat) : List Int := (lsF f).getD i []
theorem atL_some {f : FurrowD} {i : Nat} (h : i < (lsF f).length) : (lsF f)[i]? = some (atL f i) := by rw [atL, List.getD_eq_getElem?_getD, List.getElem?_eq_getElem h]; rfl
theorem atL_inn {f : FurrowD} {i : Nat} (h : i < (lsF f).length) : Inn f.offs (atL f i) := lsF_inn (atL_some h)
/-- The first straightest way is the straightest course that comes first. -/
theorem best_first {f : FurrowD} (hv : ValidF f) {k : Nat} (hk : k < (lsF f).length) (h1 : ∀ j, j < (lsF f).length → mostT (atL f k) ≤ mostT (atL f j)) (h2 : ∀ j, j < k → mostT (atL f k) < mostT (atL f j)) (u : List Int) (hu : wayS f.offs (mostB (bendT f.offs).lo) = some u) : atL f k = u := by
  obtain ⟨t, e, ht, hm, hfirst⟩ := straight_spec hv.fine
  rw [e] at hu
  have htu : t = u := Option.some.inj hu
  clear hu
  subst htu
  obtain ⟨j, hj, ej⟩ := List.getElem_of_mem (mem_all.2 ht : t ∈ lsF f)
  have ej2 : atL f j = t := by rw [atL, List.getD_eq_getElem?_getD, List.getElem?_eq_getElem hj]; exact ej
  have hkI := atL_inn hk
  have a := h1 j hj
  rw [ej2] at a
  have b := ((bendT_spec hv.fine).1 _ hkI).1
  have hle := hfirst _ hkI (by omega)
  rcases Nat.lt_trichotomy j k with h | h | h
  · have := h2 j h
    rw [ej2] at this
    omega
  · rw [← h, ej2]
  · have hp := List.pairwise_iff_getElem.1 (allF_order (L := f.offs) f.offs.length []).1 k j hk hj h
    have e1 : (lsF f)[k] = atL f k := by rw [atL, List.getD_eq_getElem?_getD, List.getElem?_eq_getElem hk]; rfl
    have hp2 : leL (atL f k) t := by rw [← e1, ← ej]; exact hp
    exact leL_antisymm hp2 hle (by rw [hkI.1, ht.1])
theorem rmostKz (t : List Int) {n1 : Nat} (h1 : t.length = n1) (hn : n1 ≤ 1000000) (hs : SmallL t) (a : Option Addr) (c : Nat) (w : World) (hp : IntsAt w a t) : Gives Try.prog 32 [.slice a n1 c] w (.int .i64 (mostT t)) := by
  subst h1
  exact rmostK t hn hs a c w hp
theorem rbendKz (t : List Int) {n1 : Nat} (h1 : t.length = n1) (k : Nat) (hk : 1 ≤ k) (hk2 : k + 1 < n1) (hn : n1 ≤ 1000000) (hs : SmallL t) (a : Option Addr) (c : Nat) (w : World) (hp : IntsAt w a t) : Gives Try.prog 52 [.slice a n1 c, .int .i64 (k : Int)] w (.int .i64 (bentT t k)) := by
  subst h1
  exact rbendK t k hk hk2 hn hs a c w hp
set_option maxRecDepth 100000 in
set_option maxHeartbeats 4000000 in
theorem refStraightK (f : FurrowD) (oa wa da : Option Addr) (oc wc dc : Nat) (hv : validB f = true) (hw3 : ∀ s ∈ f.offs, s.hi - s.lo ≤ 3) (h6 : f.offs.length ≤ 6) (w : World) (hm : Lens f) (hf : FurrowAt w f oa wa da) : CallsF Try.prog 19 (([furrowV f oa wa da oc wc dc] : List Value)).toArray w fun e w' => ∃ (a : Option Addr) (c : Nat) (t : List Int), (t.length = f.offs.length ∧ ∀ u, wayS f.offs (mostB (bendT f.offs).lo) = some u → t = u) ∧ e = .returned (.tuple #[.slice a f.offs.length c, .int .i64 0]) ∧ IntsAt w' a t ∧ Low w.heap.size a ∧ Below w.heap.size w w' := by
  have hvf := validF hv
  refine enter (n := 34) Try.func19 rfl rfl rfl (by repeat (first | exact Fill.nil | apply Fill.cons)) ?_
  refine cw_seq ?_
  refine cw_region ?_
  refine lstep rfl rfl rfl (run_boxN (.tmp rfl)) ?_
  intro b1 _
  refine lstepB rfl rfl rfl (run_assign .const) ?_
  refine lstepB rfl rfl rfl (run_assign .const) ?_
  refine lnil ?_
  refine xw_then ?_
  refine cw_seq ?_
  refine cw_seq ?_
  refine cw_region ?_
  refine lstepB rfl rfl rfl (run_loadN (.tmp rfl) kd24 sz24 (by repeat (first | exact List.Mem.head _ | apply List.Mem.tail)) (by repeat (first | exact Sub.done | apply Sub.take | apply Sub.skip))) ?_
  refine lstepB rfl rfl rfl (run_call1 cb35 (.cons (.tmp rfl) .nil) (fun w2 hS => (rFurrowK f oa wa da oc wc dc w2 hm (hf.kept hS.kept)).as (congrArg Value.bool hv))) ?_
  refine lstepB rfl rfl rfl (run_not (.tmp rfl) (by first | exact Bool.not_true | exact Bool.not_false | exact rfl)) ?_
  refine lnil ?_
  refine xw_then ?_
  refine cw_cond_false (.tmp rfl) ?_
  refine cw_skip ?_
  refine xw_then ?_
  refine cw_seq ?_
  refine cw_region ?_
  refine lstepB rfl rfl rfl (run_loadN (.tmp rfl) kd24 sz24 (by repeat (first | exact List.Mem.head _ | apply List.Mem.tail)) (by repeat (first | exact Sub.done | apply Sub.take | apply Sub.skip))) ?_
  refine lcallN rfl cb46 (.cons (.tmp rfl) .nil) (F := fun (g : Nat × Nat × List Value) lo w' => AllAt lo w' g (lsF f)) (rv := fun g => outV (some g) (lsF f).length) (fun w2 hS => allWaysK f oa wa da oc wc dc hvf hw3 h6 w2 hm (hf.kept hS.kept)) ?_
  rintro g lo w1 hA hlo hs0 hs1 hS0
  dsimp only [outV]
  have hllen := lsF_len hw3 h6
  have hcap := hA.cap
  have hfine := hvf.fine
  have hpos : 0 < (lsF f).length := allF_some hfine f.offs.length [] (by simp)
  obtain ⟨a0, c0, hcell0, hints0, hlow0⟩ := hA.at_ 0 (atL f 0) (atL_some hpos)
  have hl0 := (atL_inn hpos).1
  refine lstepB rfl rfl rfl (run_assign (.tmp rfl)) ?_
  refine lnil ?_
  refine xw_then ?_
  refine cw_seq ?_
  refine cw_region ?_
  refine lstepB rfl rfl rfl (run_move (.tmp rfl)) ?_
  refine lstepB rfl rfl rfl (run_indexAddr (i := 0) (off' := 0) (.tmp rfl) (.const (v := .int .i64 ((0 : Nat) : Int))) el73 (by omega) rfl) ?_
  refine lstepB rfl rfl rfl (run_load1_at (v := .slice a0 (atL f 0).length c0) (.tmp rfl) kd33 (fun w' hS => hS.old_cell (low_not hlo hA.low) hcell0)) ?_
  refine lstepB rfl rfl rfl (run_assign (.tmp rfl)) ?_
  refine lnil ?_
  refine xw_then ?_
  refine cw_seq ?_
  refine cw_seq ?_
  refine cw_region ?_
  refine lstepB rfl rfl rfl (run_assign .const) ?_
  refine lnil ?_
  refine xw_then ?_
  refine cw_block ?_
  rw [hl0]
  refine cw_loop (S := Nat × Nat × Option Addr × Nat) (fun st => [(6, .int .i64 ((st.1 : Nat) : Int)), (5, .slice st.2.2.1 f.offs.length st.2.2.2)]) [(1, _), (4, _)] (fun st => (b1, Obj.cells (furrowC f oa wa da oc wc dc).toArray 24 (0, 0)) :: []) (fun st => st.1 ≤ (lsF f).length ∧ st.2.1 < (lsF f).length ∧ IntsAt w1 st.2.2.1 (atL f st.2.1) ∧ Low lo st.2.2.1 ∧ (∀ j, j < st.1 → mostT (atL f st.2.1) ≤ mostT (atL f j)) ∧ ∀ j, j < st.2.1 → mostT (atL f st.2.1) < mostT (atL f j)) (fun st => (lsF f).length - st.1) (0, 0, a0, c0) ⟨Nat.zero_le _, hpos, hints0, hlow0, fun j h => absurd h (Nat.not_lt_zero j), fun j h => absurd h (Nat.not_lt_zero j)⟩ (by repeat (first | exact Less.nil | refine Less.cons rfl ?_)) (by repeat (first | exact Pick.nil | (apply Pick.cons; focus (repeat (first | exact Del.here | apply Del.there))))) ?_
  intro st hs
  obtain ⟨i, k, a, c⟩ := st
  obtain ⟨hi, hk, hpa, hla, hle, hlt⟩ := hs
  dsimp only at hi hk hpa hla hle hlt ⊢
  refine cw_seq ?_
  refine cw_seq ?_
  refine cw_region ?_
  refine lstepB rfl rfl rfl (run_move (.tmp rfl)) ?_
  refine lstepB rfl rfl rfl (run_move (.tmp rfl)) ?_
  refine lstepB rfl rfl rfl (run_len (.tmp rfl) sl73) ?_
  refine lstepB rfl rfl rfl (run_lss (.tmp rfl) (.tmp rfl) rfl) ?_
  refine lnil ?_
  refine xw_then ?_
  refine cw_cond_p (.tmp rfl) (fun hl => ?_) (fun hl => ?_)
  ·
    have hil : i < (lsF f).length := by omega
    obtain ⟨ai, ci, hcell, hints, hlow⟩ := hA.at_ i (atL f i) (atL_some hil)
    have hI := atL_inn hil
    have hK := atL_inn hk
    have hIl := hI.1
    have hKl := hK.1
    have hn6 : f.offs.length ≤ 1000000 := by omega
    refine cw_skip ?_
    refine xw_then ?_
    refine cw_seq ?_
    refine cw_block ?_
    refine cw_seq ?_
    refine cw_region ?_
    refine lstepB rfl rfl rfl (run_move (.tmp rfl)) ?_
    refine lstepB rfl rfl rfl (run_move (.tmp rfl)) ?_
    refine lstepB rfl rfl rfl (run_indexAddr (i := i) (off' := i) (.tmp rfl) (.tmp rfl) el73 (by omega) (by rw [Nat.mul_one, Nat.zero_add])) ?_
    refine lstepB rfl rfl rfl (run_load1_at (v := .slice ai f.offs.length ci) (.tmp rfl) kd33 (fun w' hS => hS.old_cell (low_not hlo hA.low) (by rw [hIl] at hcell; exact hcell))) ?_
    refine lstepB rfl rfl rfl (run_call1 cb32 (.cons (.tmp rfl) .nil) (fun w2 hS => rmostKz (atL f i) hIl hn6 (inn_small hvf hI) ai ci w2 (AllAt.ints hints hlow hlo hS))) ?_
    refine lstepB rfl rfl rfl (run_move (.tmp rfl)) ?_
    refine lstepB rfl rfl rfl (run_call1 cb32 (.cons (.tmp rfl) .nil) (fun w2 hS => rmostKz (atL f k) hKl hn6 (inn_small hvf hK) a c w2 (AllAt.ints hpa hla hlo hS))) ?_
    refine lstepB rfl rfl rfl (run_lss (.tmp rfl) (.tmp rfl) rfl) ?_
    refine lnil ?_
    refine xw_then ?_
    refine cw_cond_p (.tmp rfl) (fun hc2 => ?_) (fun hc2 => ?_)
    ·
      refine cw_region ?_
      refine lstepB rfl rfl rfl (run_move (.tmp rfl)) ?_
      refine lstepB rfl rfl rfl (run_move (.tmp rfl)) ?_
      refine lstepB rfl rfl rfl (run_indexAddr (i := i) (off' := i) (.tmp rfl) (.tmp rfl) el73 (by omega) (by rw [Nat.mul_one, Nat.zero_add])) ?_
      refine lstepB rfl rfl rfl (run_load1_at (v := .slice ai f.offs.length ci) (.tmp rfl) kd33 (fun w' hS => hS.old_cell (low_not hlo hA.low) (by rw [hIl] at hcell; exact hcell))) ?_
      refine lstepB rfl rfl rfl (run_assign (.tmp rfl)) ?_
      refine lnil ?_
      refine xw_in ?_
      refine xw_then ?_
      refine cw_region ?_
      refine lstepB rfl rfl rfl (run_move (.tmp rfl)) ?_
      refine lstepB rfl rfl rfl (run_add (.tmp rfl) .const (by first | exact IntWalk.i64_in _ (by omega) | exact rfl)) ?_
      refine lstepB rfl rfl rfl (run_assign (.tmp rfl)) ?_
      refine lnil ?_
      exact xw_round (i + 1, i, ai, ci) ⟨by simp only; omega, hil, hints, hlow, (fun j hj => by rcases Nat.lt_succ_iff_lt_or_eq.1 hj with h | h; have := hle j h; simp only; omega; rw [h]; exact Int.le_refl _), (fun j hj => by have := hle j hj; simp only; omega)⟩ (by show (lsF f).length - (i + 1) < (lsF f).length - i; omega) (by repeat (first | exact Less.nil | refine Less.cons rfl ?_)) (by repeat (first | exact Pick.nil | (apply Pick.cons; focus (repeat (first | exact Del.here | apply Del.there)))))
    ·
      refine cw_skip ?_
      refine xw_in ?_
      refine xw_then ?_
      refine cw_region ?_
      refine lstepB rfl rfl rfl (run_move (.tmp rfl)) ?_
      refine lstepB rfl rfl rfl (run_add (.tmp rfl) .const (by first | exact IntWalk.i64_in _ (by omega) | exact rfl)) ?_
      refine lstepB rfl rfl rfl (run_assign (.tmp rfl)) ?_
      refine lnil ?_
      exact xw_round (i + 1, k, a, c) ⟨by simp only; omega, hk, hpa, hla, (fun j hj => by rcases Nat.lt_succ_iff_lt_or_eq.1 hj with h | h; exact hle j h; rw [h]; simp only; omega), hlt⟩ (by show (lsF f).length - (i + 1) < (lsF f).length - i; omega) (by repeat (first | exact Less.nil | refine Less.cons rfl ?_)) (by repeat (first | exact Pick.nil | (apply Pick.cons; focus (repeat (first | exact Del.here | apply Del.there)))))
  ·
    obtain rfl : i = (lsF f).length := by omega
    refine cw_exit ?_
    refine xw_then_exit ?_
    refine xw_then_exit ?_
    refine xw_in_exit ?_
    refine xw_then ?_
    refine cw_seq ?_
    refine cw_region ?_
    refine lstepB rfl rfl rfl (run_move (.tmp rfl)) ?_
    refine lstepB rfl rfl rfl (run_assign (.tmp rfl)) ?_
    refine lstepB rfl rfl rfl (run_assign .const) ?_
    refine lnil ?_
    refine xw_then ?_
    refine cw_ret ?_
    refine xw_ret2 Try.results19 rfl rfl (fun w3 hS3 => ⟨a, c, atL f k, ⟨(atL_inn hk).1, best_first hvf hk hle hlt⟩, rfl, AllAt.ints hpa hla hlo hS3, (fun b off e => Nat.le_trans hs0 (hla b off e)), below_blk hS0 hS3⟩)
set_option maxRecDepth 100000 in
set_option maxHeartbeats 4000000 in
theorem refStraight_bad (f : FurrowD) (oa wa da : Option Addr) (oc wc dc : Nat) (hv : validB f = false) (w : World) (hm : Lens f) (hf : FurrowAt w f oa wa da) : Gives Try.prog 19 [furrowV f oa wa da oc wc dc] w (.tuple #[.slice none 0 0, .int .i64 1]) := by
  refine .mk <| enter (n := 34) Try.func19 rfl rfl rfl (by repeat (first | exact Fill.nil | apply Fill.cons)) ?_
  refine cw_seq ?_
  refine cw_region ?_
  refine lstep rfl rfl rfl (run_boxN (.tmp rfl)) ?_
  intro b1 _
  refine lstepB rfl rfl rfl (run_assign .const) ?_
  refine lstepB rfl rfl rfl (run_assign .const) ?_
  refine lnil ?_
  refine xw_then ?_
  refine cw_seq ?_
  refine cw_seq ?_
  refine cw_region ?_
  refine lstepB rfl rfl rfl (run_loadN (.tmp rfl) kd24 sz24 (by repeat (first | exact List.Mem.head _ | apply List.Mem.tail)) (by repeat (first | exact Sub.done | apply Sub.take | apply Sub.skip))) ?_
  refine lstepB rfl rfl rfl (run_call1 cb35 (.cons (.tmp rfl) .nil) (fun w2 hS => (rFurrowK f oa wa da oc wc dc w2 hm (hf.kept hS.kept)).as (congrArg Value.bool hv))) ?_
  refine lstepB rfl rfl rfl (run_not (.tmp rfl) (by first | exact Bool.not_true | exact Bool.not_false | exact rfl)) ?_
  refine lnil ?_
  refine xw_then ?_
  refine cw_cond_true (.tmp rfl) ?_
  refine cw_seq ?_
  refine cw_region ?_
  refine lstepB rfl rfl rfl (run_assign .const) ?_
  refine lstepB rfl rfl rfl (run_assign .const) ?_
  refine lnil ?_
  refine xw_then ?_
  refine cw_ret ?_
  refine xw_then_ret ?_
  refine xw_ret2 Try.results19 rfl rfl (fun w hS => ⟨rfl, hS.kept⟩)
end Go.Proofs.Ytjdeplehhmhpcaa
