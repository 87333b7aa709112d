/- Furrow: what is told is what truths say. -/
import Derived.Test.YtjdeplehhmhpcaaFY
namespace Go.Proofs.Ytjdeplehhmhpcaa
open Go.RowKit En

/-- A list comes not behind another one. -/
def leL : List Int → List Int → Prop
  | [], _ => True
  | _ :: _, [] => False
  | x :: t, y :: u => x < y ∨ (x = y ∧ leL t u)
def Ext (L : List SpotD) : Nat → Int → Int → List Int → Prop
  | _, _, _, [] => True
  | k, a, b, o :: t => ((L.getD k default).lo ≤ o ∧ o ≤ (L.getD k default).hi) ∧ letsB L k a b o = true ∧ Ext L (k + 1) b o t
theorem goes_ext {L : List SpotD} : ∀ {d k : Nat} {a b : Int} {t : List Int}, goes L d k a b = some t → Ext L k a b t
  | 0, _, _, _, t, h => by cases h; trivial
  | d + 1, k, a, b, t, h => by
    rw [goes_succ] at h
    obtain ⟨o, ho, hc⟩ := List.exists_of_findSome?_eq_some h
    unfold cand at hc
    split at hc
    · rename_i hl
      obtain ⟨t', h1, rfl⟩ := Option.map_eq_some_iff.1 hc
      exact ⟨mem_upL.1 ho, hl, goes_ext h1⟩
    · cases hc
theorem findSome_upto {lo hi o : Int} {f : Int → Option (List Int)} (h1 : lo ≤ o) (h2 : o ≤ hi) {v : List Int} (h : f o = some v) : ∃ o' v', (upL lo hi).findSome? f = some v' ∧ f o' = some v' ∧ (lo ≤ o' ∧ o' ≤ o) := by
  by_cases hh : ∃ i : Nat, lo + (i : Int) ≤ o ∧ (f (lo + (i : Int))).isSome = true ∧ ∀ j : Nat, j < i → f (lo + (j : Int)) = none
  · obtain ⟨i, h3, h4, h5⟩ := hh
    obtain ⟨w, hw⟩ := Option.isSome_iff_exists.1 h4
    exact ⟨lo + (i : Int), w, findUp h5 (by omega) hw, hw, by omega, h3⟩
  · exfalso
    have key : ∀ i : Nat, lo + (i : Int) ≤ o → ∀ j : Nat, j ≤ i → f (lo + (j : Int)) = none := by
      intro i
      induction i with
      | zero =>
        intro hi0 j hj
        obtain rfl : j = 0 := by omega
        cases hf : f (lo + ((0 : Nat) : Int)) with
        | none => rfl
        | some w => exact absurd ⟨0, hi0, by rw [hf]; rfl, fun j hj => absurd hj (Nat.not_lt_zero j)⟩ hh
      | succ i ih =>
        intro hi0 j hj
        have ih := ih (by omega)
        rcases Nat.lt_or_ge j (i + 1) with h6 | h6
        · exact ih j (by omega)
        · obtain rfl : j = i + 1 := by omega
          cases hf : f (lo + ((i + 1 : Nat) : Int)) with
          | none => rfl
          | some w => exact absurd ⟨i + 1, hi0, by rw [hf]; rfl, fun j hj => ih j (by omega)⟩ hh
    have := key (o - lo).toNat (by omega) (o - lo).toNat (Nat.le_refl _)
    rw [show lo + ((o - lo).toNat : Int) = o by omega, h] at this
    cases this
theorem goes_first {L : List SpotD} : ∀ {d k : Nat} {a b : Int} {u : List Int}, u.length = d → Ext L k a b u → ∃ t, goes L d k a b = some t ∧ leL t u
  | 0, _, _, _, u, h, _ => ⟨[], rfl, trivial⟩
  | d + 1, k, a, b, [], h, _ => by simp at h
  | d + 1, k, a, b, o :: u, h, hu => by
    obtain ⟨⟨h1, h2⟩, h3, h4⟩ := hu
    obtain ⟨t, h5, h6⟩ := goes_first (d := d) (by simpa using h) h4
    have hc : cand L d k a b o = some (o :: t) := by unfold cand; rw [h3, if_pos rfl, h5]; rfl
    obtain ⟨o', v', h7, h8, h9, h10⟩ := findSome_upto h1 h2 hc
    refine ⟨v', by rw [goes_succ]; exact h7, ?_⟩
    unfold cand at h8
    split at h8
    · obtain ⟨t', h11, rfl⟩ := Option.map_eq_some_iff.1 h8
      by_cases e : o' = o
      · subst e
        rw [h5] at h11
        cases h11
        exact .inr ⟨rfl, h6⟩
      · exact .inl (by omega)
    · cases h8
def bentT (t : List Int) (k : Nat) : Int := bendI (t.getD (k - 1) 0) (t.getD k 0) (t.getD (k + 1) 0)
def Within (L : List SpotD) (T : List Int) : Prop := ∀ j, j < L.length → (L.getD j default).lo ≤ T.getD j 0 ∧ T.getD j 0 ≤ (L.getD j default).hi
def Suits (L : List SpotD) (T : List Int) : Prop := ∀ j, 1 ≤ j → j + 1 < L.length → (L.getD j default).ok (bentT T j) = true
theorem getD_lt {T : List Int} {k : Nat} (h : k < T.length) : T.drop k = T.getD k 0 :: T.drop (k + 1) := by
  rw [List.drop_eq_getElem_cons h, List.getD_eq_getElem?_getD, List.getElem?_eq_getElem h]; rfl
theorem ext_iff {L : List SpotD} {T : List Int} (hT : T.length = L.length) : ∀ (d k : Nat) (a b : Int), k + d = L.length → (2 ≤ k → a = T.getD (k - 2) 0) → (1 ≤ k → b = T.getD (k - 1) 0) →
    (Ext L k a b (T.drop k) ↔ (∀ j, k ≤ j → j < L.length → (L.getD j default).lo ≤ T.getD j 0 ∧ T.getD j 0 ≤ (L.getD j default).hi) ∧ ∀ j, 1 ≤ j → k ≤ j + 1 → j + 1 < L.length → (L.getD j default).ok (bentT T j) = true)
  | 0, k, a, b, hk, _, _ => by
    rw [List.drop_of_length_le (by omega)]
    exact ⟨fun _ => ⟨fun j h1 h2 => by omega, fun j _ h1 h2 => by omega⟩, fun _ => trivial⟩
  | d + 1, k, a, b, hk, ha, hb => by
    have ih := ext_iff hT d (k + 1) b (T.getD k 0) (by omega) (fun h => by rw [show k + 1 - 2 = k - 1 by omega]; exact hb (by omega)) (fun _ => rfl)
    rw [getD_lt (by omega), Ext, ih]
    have hlet : letsB L k a b (T.getD k 0) = true ↔ (2 ≤ k → (L.getD (k - 1) default).ok (bentT T (k - 1)) = true) := by
      unfold letsB
      split
      · exact ⟨fun _ h => by omega, fun _ => rfl⟩
      · rename_i h
        rw [ha (by omega), hb (by omega)]
        unfold bentT
        rw [show k - 1 - 1 = k - 2 by omega, show k - 1 + 1 = k by omega]
        exact ⟨fun h _ => h, fun h => h (by omega)⟩
    rw [hlet]
    constructor
    · rintro ⟨h1, h2, h3, h4⟩
      refine ⟨fun j hj1 hj2 => ?_, fun j hj0 hj1 hj2 => ?_⟩
      · rcases Nat.eq_or_lt_of_le hj1 with rfl | h
        · exact h1
        · exact h3 j h hj2
      · rcases Nat.eq_or_lt_of_le hj1 with h | h
        · have := h2 (by omega)
          rwa [show k - 1 = j by omega] at this
        · exact h4 j hj0 (by omega) hj2
    · rintro ⟨h1, h2⟩
      exact ⟨h1 k (Nat.le_refl _) (by omega), fun h => h2 (k - 1) (by omega) (by omega) (by omega), fun j hj1 hj2 => h1 j (by omega) hj2, fun j hj0 hj1 hj2 => h2 j hj0 (by omega) hj2⟩
theorem wayL_some {L : List SpotD} {t : List Int} (h : wayL L = some t) : t.length = L.length ∧ Within L t ∧ Suits L t := by
  have hl := goes_length h
  have he := goes_ext h
  rw [show t = t.drop 0 from rfl, ext_iff hl L.length 0 0 0 (by omega) (fun h => by omega) (fun h => by omega)] at he
  exact ⟨hl, fun j hj => he.1 j (Nat.zero_le _) hj, fun j h1 h2 => he.2 j h1 (by omega) h2⟩
theorem wayL_first {L : List SpotD} {u : List Int} (hl : u.length = L.length) (hw : Within L u) (hs : Suits L u) : ∃ t, wayL L = some t ∧ leL t u := by
  have he := (ext_iff hl L.length 0 0 0 (by omega) (fun h => by omega) (fun h => by omega)).2 ⟨fun j _ hj => hw j hj, fun j h1 _ h2 => hs j h1 h2⟩
  exact goes_first hl (by simpa using he)
/-- Offsets that rods can have told. -/
def Inn (l : List SpanD) (t : List Int) : Prop := t.length = l.length ∧ ∀ j, j < l.length → (l.getD j default).lo ≤ t.getD j 0 ∧ t.getD j 0 ≤ (l.getD j default).hi
def Inner (l : List SpanD) (k : Nat) : Prop := 1 ≤ k ∧ k + 1 < l.length
theorem askedL_getD {l : List SpanD} {v : Value} {ok : Int → Bool} {k : Nat} (h : k < l.length) : (askedL l v ok).getD k default = ⟨(l.getD k default).lo, (l.getD k default).hi, v, ok⟩ := by
  rw [List.getD_eq_getElem?_getD, askedL_at (getD_some h)]; rfl
theorem wayS_some {l : List SpanD} {ok : Int → Bool} {t : List Int} (h : wayS l ok = some t) : Inn l t ∧ ∀ k, Inner l k → ok (bentT t k) = true := by
  obtain ⟨h1, h2, h3⟩ := wayL_some h
  rw [askedL_length] at h1
  refine ⟨⟨h1, fun j hj => ?_⟩, fun k ⟨hk1, hk2⟩ => ?_⟩
  · have := h2 j (by rw [askedL_length]; exact hj)
    rw [askedL_getD hj] at this
    exact this
  · have := h3 k hk1 (by rw [askedL_length]; exact hk2)
    rw [askedL_getD (by omega)] at this
    exact this
theorem wayS_first {l : List SpanD} {ok : Int → Bool} {u : List Int} (hu : Inn l u) (hk : ∀ k, Inner l k → ok (bentT u k) = true) : ∃ t, wayS l ok = some t ∧ leL t u := by
  refine wayL_first (by rw [askedL_length]; exact hu.1) (fun j hj => ?_) (fun j h1 h2 => ?_)
  · rw [askedL_length] at hj
    rw [askedL_getD hj]
    exact hu.2 j hj
  · rw [askedL_length] at h2
    rw [askedL_getD (by omega)]
    exact hk j ⟨h1, h2⟩
theorem canMost_iff {l : List SpanD} {m : Int} : canMost l m = true ↔ ∃ t, Inn l t ∧ ∀ k, Inner l k → bentT t k ≤ m := by
  unfold canMost
  rw [Option.isSome_iff_exists]
  constructor
  · rintro ⟨t, ht⟩
    obtain ⟨h1, h2⟩ := wayS_some ht
    exact ⟨t, h1, fun k hk => by simpa [mostB] using h2 k hk⟩
  · rintro ⟨u, h1, h2⟩
    obtain ⟨t, ht, _⟩ := wayS_first (ok := mostB m) h1 (fun k hk => by simpa [mostB] using h2 k hk)
    exact ⟨t, ht⟩
def mostN (t : List Int) : Nat → Int
  | 0 => 0
  | k + 1 => max (mostN t k) (bentT t (k + 1))
/-- The bend of offsets. -/
def mostT (t : List Int) : Int := mostN t (t.length - 2)
theorem bentT_nonneg (t : List Int) (k : Nat) : 0 ≤ bentT t k := by unfold bentT bendI; omega
theorem mostN_le {t : List Int} {m : Int} : ∀ {n : Nat}, mostN t n ≤ m ↔ 0 ≤ m ∧ ∀ k, 1 ≤ k → k ≤ n → bentT t k ≤ m
  | 0 => ⟨fun h => ⟨h, fun k h1 h2 => by omega⟩, fun h => h.1⟩
  | n + 1 => by
    have ih := mostN_le (t := t) (m := m) (n := n)
    constructor
    · intro h
      have h1 : mostN t n ≤ m ∧ bentT t (n + 1) ≤ m := by simp only [mostN] at h; omega
      obtain ⟨h2, h3⟩ := ih.1 h1.1
      refine ⟨h2, fun k hk1 hk2 => ?_⟩
      rcases Nat.lt_or_ge k (n + 1) with h4 | h4
      · exact h3 k hk1 (by omega)
      · obtain rfl : k = n + 1 := by omega
        exact h1.2
    · rintro ⟨h1, h2⟩
      have h3 := ih.2 ⟨h1, fun k hk1 hk2 => h2 k hk1 (by omega)⟩
      have h4 := h2 (n + 1) (by omega) (Nat.le_refl _)
      simp only [mostN]; omega
theorem mostT_le {l : List SpanD} {t : List Int} (ht : t.length = l.length) {m : Int} : mostT t ≤ m ↔ 0 ≤ m ∧ ∀ k, Inner l k → bentT t k ≤ m := by
  unfold mostT
  rw [mostN_le, ht]
  exact ⟨fun ⟨h1, h2⟩ => ⟨h1, fun k ⟨h3, h4⟩ => h2 k h3 (by omega)⟩, fun ⟨h1, h2⟩ => ⟨h1, fun k h3 h4 => h2 k ⟨h3, by omega⟩⟩⟩
theorem mostT_ge {l : List SpanD} {t : List Int} (ht : t.length = l.length) {k : Nat} (hk : Inner l k) : bentT t k ≤ mostT t := ((mostT_le ht).1 (Int.le_refl _)).2 k hk
theorem mostT_nonneg (t : List Int) : 0 ≤ mostT t := by
  have := (mostN_le (t := t) (m := mostT t) (n := t.length - 2)).1 (Int.le_refl _)
  exact this.1
/-- Some offsets that rods can have told, three of them as one likes. -/
def lowT (l : List SpanD) : List Int := l.map (·.lo)
theorem lowT_inn {l : List SpanD} (hl : FineC l) : Inn l (lowT l) := by
  refine ⟨by simp [lowT], fun j hj => ?_⟩
  have h := hl _ (List.mem_of_getElem? (getD_some hj))
  have e : (lowT l).getD j 0 = (l.getD j default).lo := by
    rw [List.getD_eq_getElem?_getD, lowT, List.getElem?_map, getD_some hj]; rfl
  rw [e]
  exact ⟨Int.le_refl _, h.2.1⟩
theorem getD_set {t : List Int} {i j : Nat} {x : Int} (hi : i < t.length) : (t.set i x).getD j 0 = if i = j then x else t.getD j 0 := by
  rw [List.getD_eq_getElem?_getD, List.getElem?_set, List.getD_eq_getElem?_getD]
  split
  · simp [hi]
  · rfl
theorem inn_set {l : List SpanD} {t : List Int} (ht : Inn l t) {i : Nat} (hi : i < l.length) {x : Int} (h1 : (l.getD i default).lo ≤ x) (h2 : x ≤ (l.getD i default).hi) : Inn l (t.set i x) := by
  refine ⟨by rw [List.length_set, ht.1], fun j hj => ?_⟩
  rw [getD_set (by rw [ht.1]; exact hi)]
  split
  · subst_vars; exact ⟨h1, h2⟩
  · exact ht.2 j hj
theorem bendS_at {l : List SpanD} (hl : FineC l) {k : Nat} (hk : Inner l k) {t : List Int} (ht : Inn l t) : (bendS l k).lo ≤ bentT t k ∧ bentT t k ≤ (bendS l k).hi := by
  obtain ⟨_, _, _, _, h⟩ := bendS_spec hl hk.1 hk.2
  have h1 := hk.1
  have h2 := hk.2
  exact h _ (mem_bendsI.2 ⟨_, mem_upL.2 (ht.2 (k - 1) (by omega)), _, mem_upL.2 (ht.2 k (by omega)), _, mem_upL.2 (ht.2 (k + 1) h2), rfl⟩)
theorem bend_of {l : List SpanD} (hl : FineC l) {k : Nat} (hk : Inner l k) {x : Int} (hx : x ∈ bendsI (upL (l.getD (k - 1) default).lo (l.getD (k - 1) default).hi) (upL (l.getD k default).lo (l.getD k default).hi) (upL (l.getD (k + 1) default).lo (l.getD (k + 1) default).hi)) : ∃ t, Inn l t ∧ bentT t k = x := by
  obtain ⟨a, ha, b, hb, c, hc, rfl⟩ := mem_bendsI.1 hx
  rw [mem_upL] at ha hb hc
  have h1 := hk.1
  have h2 := hk.2
  have t0 := lowT_inn hl
  have t1 := inn_set t0 (i := k - 1) (by omega) ha.1 ha.2
  have t2 := inn_set t1 (i := k) (by omega) hb.1 hb.2
  have t3 := inn_set t2 (i := k + 1) (by omega) hc.1 hc.2
  refine ⟨_, t3, ?_⟩
  unfold bentT
  have l0 := t0.1
  have l1 := t1.1
  have l2 := t2.1
  rw [getD_set (j := k - 1) (by omega), getD_set (j := k - 1) (by omega), getD_set (j := k - 1) (by omega), getD_set (j := k) (by omega), getD_set (j := k) (by omega), getD_set (j := k + 1) (by omega)]
  rw [if_neg (by omega), if_neg (by omega), if_pos rfl, if_neg (by omega), if_pos rfl, if_pos rfl]
theorem bendS_lo {l : List SpanD} (hl : FineC l) {k : Nat} (hk : Inner l k) : ∃ t, Inn l t ∧ bentT t k = (bendS l k).lo := bend_of hl hk (bendS_spec hl hk.1 hk.2).2.2.1
theorem bendS_hi {l : List SpanD} (hl : FineC l) {k : Nat} (hk : Inner l k) : ∃ t, Inn l t ∧ bentT t k = (bendS l k).hi := bend_of hl hk (bendS_spec hl hk.1 hk.2).2.2.2.1
theorem boundsN_spec (l : List SpanD) : ∀ n : Nat, (0 ≤ (boundsN l n).lo ∧ 0 ≤ (boundsN l n).hi) ∧ (∀ k, 1 ≤ k → k ≤ n → (bendS l k).lo ≤ (boundsN l n).lo ∧ (bendS l k).hi ≤ (boundsN l n).hi) ∧ ((boundsN l n).lo = 0 ∨ ∃ k, (1 ≤ k ∧ k ≤ n) ∧ (boundsN l n).lo = (bendS l k).lo) ∧ ((boundsN l n).hi = 0 ∨ ∃ k, (1 ≤ k ∧ k ≤ n) ∧ (boundsN l n).hi = (bendS l k).hi)
  | 0 => ⟨⟨Int.le_refl _, Int.le_refl _⟩, fun k h1 h2 => by omega, .inl rfl, .inl rfl⟩
  | n + 1 => by
    obtain ⟨⟨h1, h2⟩, h3, h4, h5⟩ := boundsN_spec l n
    have e1 : (boundsN l (n + 1)).lo = max (boundsN l n).lo (bendS l (n + 1)).lo := rfl
    have e2 : (boundsN l (n + 1)).hi = max (boundsN l n).hi (bendS l (n + 1)).hi := rfl
    refine ⟨⟨by omega, by omega⟩, fun k hk1 hk2 => ?_, ?_, ?_⟩
    · rcases Nat.lt_or_ge k (n + 1) with h | h
      · have := h3 k hk1 (by omega); omega
      · obtain rfl : k = n + 1 := by omega
        omega
    · rcases Int.le_total (bendS l (n + 1)).lo (boundsN l n).lo with h | h
      · rw [e1, Int.max_eq_left h]
        rcases h4 with h4 | ⟨k, hk, h4⟩
        · exact .inl h4
        · exact .inr ⟨k, by omega, h4⟩
      · exact .inr ⟨n + 1, by omega, by rw [e1, Int.max_eq_right h]⟩
    · rcases Int.le_total (bendS l (n + 1)).hi (boundsN l n).hi with h | h
      · rw [e2, Int.max_eq_left h]
        rcases h5 with h5 | ⟨k, hk, h5⟩
        · exact .inl h5
        · exact .inr ⟨k, by omega, h5⟩
      · exact .inr ⟨n + 1, by omega, by rw [e2, Int.max_eq_right h]⟩
theorem bounds_most {l : List SpanD} (hl : FineC l) {t : List Int} (ht : Inn l t) : (boundsN l (l.length - 2)).lo ≤ mostT t ∧ mostT t ≤ (boundsN l (l.length - 2)).hi := by
  obtain ⟨⟨h1, h2⟩, h3, h4, h5⟩ := boundsN_spec l (l.length - 2)
  constructor
  · rcases h4 with h4 | ⟨k, ⟨hk1, hk2⟩, h4⟩
    · rw [h4]; exact mostT_nonneg t
    · have hk : Inner l k := ⟨hk1, by omega⟩
      rw [h4]
      exact Int.le_trans (bendS_at hl hk ht).1 (mostT_ge ht.1 hk)
  · rw [mostT_le ht.1]
    exact ⟨h2, fun k hk => Int.le_trans (bendS_at hl hk ht).2 (h3 k hk.1 (by have := hk.2; omega)).2⟩
theorem bendT_spec {l : List SpanD} (hl : FineC l) : (∀ t, Inn l t → (bendT l).lo ≤ mostT t ∧ mostT t ≤ (bendT l).hi) ∧ (∃ t, Inn l t ∧ mostT t = (bendT l).lo) ∧ (∃ t, Inn l t ∧ mostT t = (bendT l).hi) := by
  have t0 := lowT_inn hl
  have hb0 := bounds_most hl t0
  have hcan : canMost l (boundsN l (l.length - 2)).hi = true := canMost_iff.2 ⟨_, t0, ((mostT_le t0.1).1 hb0.2).2⟩
  obtain ⟨m, hm⟩ : ∃ m, (upL (boundsN l (l.length - 2)).lo (boundsN l (l.length - 2)).hi).find? (canMost l) = some m := by
    rw [← Option.isSome_iff_exists, List.find?_isSome]
    exact ⟨_, mem_upL.2 ⟨by omega, Int.le_refl _⟩, hcan⟩
  have hlo : (bendT l).lo = m := by show leastN l = m; unfold leastN; rw [hm]; rfl
  obtain ⟨hm1, A, B, hAB, hA⟩ := List.find?_eq_some_iff_append.1 hm
  have hmem : m ∈ upL (boundsN l (l.length - 2)).lo (boundsN l (l.length - 2)).hi := by rw [hAB]; simp
  have hmin : ∀ x, (boundsN l (l.length - 2)).lo ≤ x → canMost l x = true → m ≤ x := by
    intro x hx1 hx2
    rcases Int.lt_or_le x m with h | h
    · exfalso
      have hxm : x ∈ upL (boundsN l (l.length - 2)).lo (boundsN l (l.length - 2)).hi := mem_upL.2 ⟨hx1, by have := (mem_upL.1 hmem).2; omega⟩
      have hsort : (upL (boundsN l (l.length - 2)).lo (boundsN l (l.length - 2)).hi).Pairwise (· < ·) := by
        unfold upL
        rw [List.pairwise_map]
        exact List.pairwise_lt_range.imp (fun h => by omega)
      rw [hAB] at hxm hsort
      rcases List.mem_append.1 hxm with h1 | h1
      · have := hA x h1
        simp [hx2] at this
      · rcases List.mem_cons.1 h1 with h1 | h1
        · omega
        · have := List.rel_of_pairwise_cons (List.pairwise_append.1 hsort).2.1 h1
          omega
    · exact h
  have hle : ∀ t, Inn l t → m ≤ mostT t := fun t ht => hmin _ (bounds_most hl ht).1 (canMost_iff.2 ⟨t, ht, ((mostT_le ht.1).1 (Int.le_refl _)).2⟩)
  refine ⟨fun t ht => ⟨by rw [hlo]; exact hle t ht, (bounds_most hl ht).2⟩, ?_, ?_⟩
  · obtain ⟨t, ht, hk⟩ := canMost_iff.1 hm1
    refine ⟨t, ht, ?_⟩
    rw [hlo]
    have h0 : 0 ≤ m := by have := (boundsN_spec l (l.length - 2)).1.1; have := (mem_upL.1 hmem).1; omega
    have := hle t ht
    have := (mostT_le ht.1).2 ⟨h0, hk⟩
    omega
  · show ∃ t, Inn l t ∧ mostT t = (boundsN l (l.length - 2)).hi
    obtain ⟨_, _, _, h5⟩ := boundsN_spec l (l.length - 2)
    rcases h5 with h5 | ⟨k, ⟨hk1, hk2⟩, h5⟩
    · exact ⟨_, t0, by have := mostT_nonneg (lowT l); omega⟩
    · have hk : Inner l k := ⟨hk1, by omega⟩
      obtain ⟨t, ht, h6⟩ := bendS_hi hl hk
      refine ⟨t, ht, ?_⟩
      have h7 := mostT_ge ht.1 hk
      have h8 := (bounds_most hl ht).2
      omega
theorem canMost_bend {l : List SpanD} (hl : FineC l) {m : Int} (hm : 0 ≤ m) : canMost l m = true ↔ (bendT l).lo ≤ m := by
  obtain ⟨h1, ⟨t, ht, h2⟩, _⟩ := bendT_spec hl
  rw [canMost_iff]
  constructor
  · rintro ⟨u, hu, h3⟩
    exact Int.le_trans (h1 u hu).1 ((mostT_le hu.1).2 ⟨hm, h3⟩)
  · intro h
    exact ⟨t, ht, ((mostT_le ht.1).1 (by omega)).2⟩
/-- The straightest offsets. -/
theorem straight_spec {l : List SpanD} (hl : FineC l) : ∃ t, wayS l (mostB (bendT l).lo) = some t ∧ Inn l t ∧ mostT t = (bendT l).lo ∧ ∀ u, Inn l u → mostT u = (bendT l).lo → leL t u := by
  obtain ⟨h1, ⟨u, hu, h2⟩, _⟩ := bendT_spec hl
  have h0 : 0 ≤ (bendT l).lo := by rw [← h2]; exact mostT_nonneg u
  have key : ∀ u, Inn l u → mostT u = (bendT l).lo → ∃ t, wayS l (mostB (bendT l).lo) = some t ∧ leL t u := fun u hu h2 => wayS_first hu (fun k hk => by simpa [mostB] using ((mostT_le hu.1).1 (Int.le_of_eq h2)).2 k hk)
  obtain ⟨t, ht, _⟩ := key u hu h2
  obtain ⟨h3, h4⟩ := wayS_some ht
  refine ⟨t, ht, h3, ?_, fun u hu h2 => ?_⟩
  · have h5 := (h1 t h3).1
    have h6 := (mostT_le h3.1 (m := (bendT l).lo)).2 ⟨h0, fun k hk => by simpa [mostB] using h4 k hk⟩
    omega
  · obtain ⟨t', ht', h5⟩ := key u hu h2
    rw [ht] at ht'
    cases ht'
    exact h5
end Go.Proofs.Ytjdeplehhmhpcaa
