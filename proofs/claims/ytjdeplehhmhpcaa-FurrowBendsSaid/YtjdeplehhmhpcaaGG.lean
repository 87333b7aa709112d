/- Furrow: where the furrow bends most, in words of truths. -/
import Derived.Test.YtjdeplehhmhpcaaGE
namespace Go.Proofs.Ytjdeplehhmhpcaa
open Go.RowKit En

theorem setOk_getD {L : List SpotD} {k : Nat} {v : Value} {ok : Int → Bool} (hk : k < L.length) (j : Nat) : (setOk L k v ok).getD j default = if k = j then ⟨(L.getD k default).lo, (L.getD k default).hi, v, ok⟩ else L.getD j default := by
  unfold setOk
  rw [List.getD_eq_getElem?_getD, List.getElem?_set, List.getD_eq_getElem?_getD]
  by_cases h : k = j
  · subst h; simp [hk]
  · simp [h]
theorem setOk_within {L : List SpotD} {k : Nat} {v : Value} {ok : Int → Bool} (hk : k < L.length) {T : List Int} : Within (setOk L k v ok) T ↔ Within L T := by
  unfold Within
  rw [setOk_length]
  refine forall_congr' fun j => ?_
  rw [setOk_getD hk]
  by_cases h : k = j
  · subst h; simp
  · simp [h]
theorem setOk_suits {L : List SpotD} {k : Nat} {v : Value} {ok : Int → Bool} (hk : 1 ≤ k ∧ k + 1 < L.length) {T : List Int} : Suits (setOk L k v ok) T ↔ ok (bentT T k) = true ∧ ∀ j, 1 ≤ j → j + 1 < L.length → j ≠ k → (L.getD j default).ok (bentT T j) = true := by
  unfold Suits
  rw [setOk_length]
  constructor
  · intro h
    refine ⟨?_, fun j h1 h2 h3 => ?_⟩
    · have := h k hk.1 hk.2
      rw [setOk_getD (by omega), if_pos rfl] at this
      exact this
    · have := h j h1 h2
      rw [setOk_getD (by omega), if_neg (fun e => h3 e.symm)] at this
      exact this
  · rintro ⟨h1, h2⟩ j h3 h4
    rw [setOk_getD (by omega)]
    by_cases h : k = j
    · subst h; rw [if_pos rfl]; exact h1
    · rw [if_neg h]; exact h2 j h3 h4 (fun e => h e.symm)
theorem wayL_iff {L : List SpotD} : (wayL L).isSome = true ↔ ∃ t, t.length = L.length ∧ Within L t ∧ Suits L t := by
  rw [Option.isSome_iff_exists]
  constructor
  · rintro ⟨t, ht⟩; exact ⟨t, wayL_some ht⟩
  · rintro ⟨u, h1, h2, h3⟩
    obtain ⟨t, ht, _⟩ := wayL_first h1 h2 h3
    exact ⟨t, ht⟩
theorem asked_within {l : List SpanD} {v : Value} {ok : Int → Bool} {T : List Int} : (T.length = (askedL l v ok).length ∧ Within (askedL l v ok) T) ↔ Inn l T := by
  unfold Within Inn
  rw [askedL_length]
  refine and_congr_right fun _ => forall_congr' fun j => ?_
  constructor
  · intro h hj
    have := h hj
    rw [askedL_getD hj] at this
    exact this
  · intro h hj
    rw [askedL_getD hj]
    exact h hj
theorem leadB_iff {l : List SpanD} {st : Nat} (hst : Inner l st) {x : Int} : leadB l st x = true ↔ ∃ t, Inn l t ∧ x ≤ bentT t st ∧ ∀ k, Inner l k → k ≠ st → bentT t k ≤ x := by
  unfold leadB
  have hlen : (askedL l .nilFunc (mostB x)).length = l.length := askedL_length _ _ _
  have h1 := hst.1
  have h2 := hst.2
  rw [wayL_iff]
  refine exists_congr fun t => ?_
  rw [setOk_length, setOk_within (by omega), setOk_suits ⟨h1, by omega⟩, ← and_assoc, asked_within]
  refine and_congr_right fun _ => and_congr (by simp [leastB]) ?_
  constructor
  · intro h k hk hne
    have := h k hk.1 (by rw [hlen]; exact hk.2) hne
    rw [askedL_getD (by have := hk.2; omega)] at this
    simpa [mostB] using this
  · intro h k h3 h4 hne
    rw [hlen] at h4
    rw [askedL_getD (by omega)]
    simpa [mostB] using h k ⟨h3, h4⟩ hne
theorem lead_iff {l : List SpanD} (hl : FineC l) {st : Nat} (hst : Inner l st) : leadAny l st = true ↔ ∃ t, Inn l t ∧ ∀ k, Inner l k → bentT t k ≤ bentT t st := by
  unfold leadAny
  rw [List.any_eq_true]
  constructor
  · rintro ⟨x, hx, h⟩
    obtain ⟨t, h1, h2, h3⟩ := (leadB_iff hst).1 h
    refine ⟨t, h1, fun k hk => ?_⟩
    by_cases e : k = st
    · subst e; exact Int.le_refl _
    · exact Int.le_trans (h3 k hk e) h2
  · rintro ⟨t, h1, h2⟩
    exact ⟨_, mem_upL.2 (bendS_at hl hst h1), (leadB_iff hst).2 ⟨t, h1, Int.le_refl _, fun k hk _ => h2 k hk⟩⟩
theorem lessB_iff {l : List SpanD} {st ot : Nat} (hst : Inner l st) (hot : Inner l ot) (hne : st ≠ ot) {x : Int} : lessB l st ot x = true ↔ ∃ t, Inn l t ∧ bentT t st ≤ x ∧ x + 1 ≤ bentT t ot := by
  unfold lessB
  have hlen : (askedL l .nilFunc (leastB 0)).length = l.length := askedL_length _ _ _
  have h1 := hst.1
  have h2 := hst.2
  have h3 := hot.1
  have h4 := hot.2
  rw [wayL_iff]
  refine exists_congr fun t => ?_
  rw [setOk_length, setOk_length, setOk_within (by rw [setOk_length]; omega), setOk_within (by omega), setOk_suits ⟨h3, by rw [setOk_length]; omega⟩, ← and_assoc, asked_within]
  refine and_congr_right fun _ => ?_
  constructor
  · rintro ⟨h5, h6⟩
    have h7 := h6 st h1 (by rw [setOk_length]; omega) hne
    rw [setOk_getD (by omega), if_pos rfl] at h7
    exact ⟨by simpa [mostB] using h7, by simpa [leastB] using h5⟩
  · rintro ⟨h5, h6⟩
    refine ⟨by simpa [leastB] using h6, fun j h7 h8 h9 => ?_⟩
    rw [setOk_length, hlen] at h8
    rw [setOk_getD (by omega)]
    split
    · subst_vars; simpa [mostB] using h5
    · rw [askedL_getD (by omega)]
      simpa [leastB] using bentT_nonneg t j
theorem less_iff {l : List SpanD} (hl : FineC l) {st ot : Nat} (hst : Inner l st) (hot : Inner l ot) (hne : st ≠ ot) : lessAny l st ot = true ↔ ∃ t, Inn l t ∧ bentT t st < bentT t ot := by
  unfold lessAny
  rw [List.any_eq_true]
  constructor
  · rintro ⟨x, hx, h⟩
    obtain ⟨t, h1, h2, h3⟩ := (lessB_iff hst hot hne).1 h
    exact ⟨t, h1, by omega⟩
  · rintro ⟨t, h1, h2⟩
    exact ⟨_, mem_upL.2 (bendS_at hl hst h1), (lessB_iff hst hot hne).2 ⟨t, h1, Int.le_refl _, by omega⟩⟩
theorem out_iff {l : List SpanD} (hl : FineC l) {st : Nat} (hst : Inner l st) : outB l st = true ↔ ∃ ot, Inner l ot ∧ ∃ t, Inn l t ∧ bentT t st < bentT t ot := by
  unfold outB
  rw [List.any_eq_true]
  constructor
  · rintro ⟨o, ho, h⟩
    rw [mem_upL] at ho
    unfold outP at h
    rw [Bool.and_eq_true, decide_eq_true_eq] at h
    have hot : Inner l o.toNat := ⟨by omega, by omega⟩
    exact ⟨o.toNat, hot, (less_iff hl hst hot (by omega)).1 h.2⟩
  · rintro ⟨ot, hot, t, h1, h2⟩
    have hne : st ≠ ot := fun e => by subst e; omega
    have h3 := hot.1
    have h4 := hot.2
    refine ⟨(ot : Int), mem_upL.2 ⟨by omega, by omega⟩, ?_⟩
    unfold outP
    rw [Bool.and_eq_true, decide_eq_true_eq, Int.toNat_natCast]
    exact ⟨by omega, (less_iff hl hst hot hne).2 ⟨t, h1, h2⟩⟩
/-- The stations that surely bend most, and those that can. -/
abbrev sureN (l : List SpanD) : Nat := (worstN l (l.length - 2)).1
abbrev canN (l : List SpanD) : Nat := (worstN l (l.length - 2)).2
/-- The inner stations. -/
def innerN : Nat → Nat
  | 0 => 0
  | k + 1 => innerN k ||| 2 ^ (k + 1)
end Go.Proofs.Ytjdeplehhmhpcaa
