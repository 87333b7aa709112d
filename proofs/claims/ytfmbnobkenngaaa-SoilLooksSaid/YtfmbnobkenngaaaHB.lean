/- Soil: mathematics of what places can be made of: a mix that is told of a place has just the soils that some truth has there. -/
import Derived.Test.YtfmbnobkenngaaaHA
namespace Go.Proofs.Ytfmbnobkenngaaa
open Go.RowKit En
structure S3 where
  a : Int
  b : Int
  c : Int
def sum20 (s : S3) : Prop := s.a + s.b + s.c = 20
def InM (m : MixD) (s : S3) : Prop := m.sand.lo ≤ s.a ∧ s.a ≤ m.sand.hi ∧ m.silt.lo ≤ s.b ∧ s.b ≤ m.silt.hi ∧ m.clay.lo ≤ s.c ∧ s.c ≤ m.clay.hi
def nearS (n : Int) (s t : S3) : Prop := s.a - t.a ≤ n ∧ t.a - s.a ≤ n ∧ s.b - t.b ≤ n ∧ t.b - s.b ≤ n ∧ s.c - t.c ≤ n ∧ t.c - s.c ≤ n
theorem nearS.symm {n : Int} {s t : S3} (h : nearS n s t) : nearS n t s := by unfold nearS at *; omega
/-- No end of a mix can be left out. -/
structure Tight (m : MixD) : Prop where
  a : m.sand.lo ≤ m.sand.hi
  b : m.silt.lo ≤ m.silt.hi
  c : m.clay.lo ≤ m.clay.hi
  ah : m.sand.hi + m.silt.lo + m.clay.lo ≤ 20
  bh : m.silt.hi + m.sand.lo + m.clay.lo ≤ 20
  ch : m.clay.hi + m.sand.lo + m.silt.lo ≤ 20
  al : 20 ≤ m.sand.lo + m.silt.hi + m.clay.hi
  bl : 20 ≤ m.silt.lo + m.sand.hi + m.clay.hi
  cl : 20 ≤ m.clay.lo + m.sand.hi + m.silt.hi
theorem noMix_none {s : S3} (h : sum20 s) : ¬ InM noMix s := by
  unfold sum20 at h; unfold InM noMix; simp only; omega
theorem narrow_iff {m : MixD} {s : S3} (h : sum20 s) : InM (narrowM m) s ↔ InM m s := by
  unfold narrowM
  split
  · rename_i hc
    constructor
    · intro hh; exact absurd hh (noMix_none h)
    · intro hh
      exfalso
      unfold sum20 at h
      simp only [InM] at hh
      simp only [narrow0, overlapS, leftS] at hc
      omega
  · unfold sum20 at h
    simp only [InM, narrow0, overlapS, leftS]
    omega
theorem narrow_tight {m : MixD} (h : narrowM m ≠ noMix) : Tight (narrowM m) := by
  unfold narrowM at *
  split
  · rename_i hc; rw [if_pos hc] at h; exact absurd rfl h
  · rename_i hc
    simp only [narrow0, overlapS, leftS] at hc
    constructor <;> simp only [narrow0, overlapS, leftS] <;> omega
theorem Tight.some {m : MixD} (h : Tight m) : ∃ s, sum20 s ∧ InM m s := by
  obtain ⟨h1, h2, h3, h4, h5, h6, h7, h8, h9⟩ := h
  refine ⟨⟨m.sand.lo, min m.silt.hi (20 - m.sand.lo - m.clay.lo), 20 - m.sand.lo - min m.silt.hi (20 - m.sand.lo - m.clay.lo)⟩, ?_, ?_⟩
  · simp only [sum20]; omega
  · simp only [InM]; omega
theorem Tight.alo {m : MixD} (h : Tight m) : ∃ s, sum20 s ∧ InM m s ∧ s.a = m.sand.lo := by
  obtain ⟨h1, h2, h3, h4, h5, h6, h7, h8, h9⟩ := h
  refine ⟨⟨m.sand.lo, min m.silt.hi (20 - m.sand.lo - m.clay.lo), 20 - m.sand.lo - min m.silt.hi (20 - m.sand.lo - m.clay.lo)⟩, ?_, ?_, rfl⟩
  · simp only [sum20]; omega
  · simp only [InM]; omega
theorem Tight.ahi {m : MixD} (h : Tight m) : ∃ s, sum20 s ∧ InM m s ∧ s.a = m.sand.hi := by
  obtain ⟨h1, h2, h3, h4, h5, h6, h7, h8, h9⟩ := h
  refine ⟨⟨m.sand.hi, min m.silt.hi (20 - m.sand.hi - m.clay.lo), 20 - m.sand.hi - min m.silt.hi (20 - m.sand.hi - m.clay.lo)⟩, ?_, ?_, rfl⟩
  · simp only [sum20]; omega
  · simp only [InM]; omega
theorem Tight.blo {m : MixD} (h : Tight m) : ∃ s, sum20 s ∧ InM m s ∧ s.b = m.silt.lo := by
  obtain ⟨h1, h2, h3, h4, h5, h6, h7, h8, h9⟩ := h
  refine ⟨⟨min m.sand.hi (20 - m.silt.lo - m.clay.lo), m.silt.lo, 20 - m.silt.lo - min m.sand.hi (20 - m.silt.lo - m.clay.lo)⟩, ?_, ?_, rfl⟩
  · simp only [sum20]; omega
  · simp only [InM]; omega
theorem Tight.bhi {m : MixD} (h : Tight m) : ∃ s, sum20 s ∧ InM m s ∧ s.b = m.silt.hi := by
  obtain ⟨h1, h2, h3, h4, h5, h6, h7, h8, h9⟩ := h
  refine ⟨⟨min m.sand.hi (20 - m.silt.hi - m.clay.lo), m.silt.hi, 20 - m.silt.hi - min m.sand.hi (20 - m.silt.hi - m.clay.lo)⟩, ?_, ?_, rfl⟩
  · simp only [sum20]; omega
  · simp only [InM]; omega
theorem Tight.clo {m : MixD} (h : Tight m) : ∃ s, sum20 s ∧ InM m s ∧ s.c = m.clay.lo := by
  obtain ⟨h1, h2, h3, h4, h5, h6, h7, h8, h9⟩ := h
  refine ⟨⟨min m.sand.hi (20 - m.clay.lo - m.silt.lo), 20 - m.clay.lo - min m.sand.hi (20 - m.clay.lo - m.silt.lo), m.clay.lo⟩, ?_, ?_, rfl⟩
  · simp only [sum20]; omega
  · simp only [InM]; omega
theorem Tight.chi {m : MixD} (h : Tight m) : ∃ s, sum20 s ∧ InM m s ∧ s.c = m.clay.hi := by
  obtain ⟨h1, h2, h3, h4, h5, h6, h7, h8, h9⟩ := h
  refine ⟨⟨min m.sand.hi (20 - m.clay.hi - m.silt.lo), 20 - m.clay.hi - min m.sand.hi (20 - m.clay.hi - m.silt.lo), m.clay.hi⟩, ?_, ?_, rfl⟩
  · simp only [sum20]; omega
  · simp only [InM]; omega
theorem both_iff {m o : MixD} {s : S3} (h : sum20 s) : InM (bothM m o) s ↔ InM m s ∧ InM o s := by
  unfold bothM
  rw [narrow_iff h]
  simp only [InM, overM, overlapS]
  omega
theorem changed_of {m : MixD} {n : Int} {s t : S3} (hs : InM m s) (h : nearS n s t) : InM (changedM m n) t := by
  simp only [InM, nearS, changedM, widerS] at *
  omega
/-- Three parts of one sum that each change by so much have no bounds but those of the single parts. -/
theorem changed_some {m : MixD} {n : Int} (hn : 0 ≤ n) (hm : Tight m) {t : S3} (ht : sum20 t) (h : InM (changedM m n) t) : ∃ s, sum20 s ∧ InM m s ∧ nearS n s t := by
  obtain ⟨h1, h2, h3, h4, h5, h6, h7, h8, h9⟩ := hm
  obtain ⟨x, y, z⟩ := t
  obtain ⟨⟨al, ah⟩, ⟨bl, bh⟩, ⟨cl, ch⟩⟩ := m
  simp only [InM, sum20, changedM, widerS] at *
  obtain ⟨La, hLa⟩ : ∃ L, L = max al (x - n) := ⟨_, rfl⟩
  obtain ⟨Lb, hLb⟩ : ∃ L, L = max bl (y - n) := ⟨_, rfl⟩
  obtain ⟨Lc, hLc⟩ : ∃ L, L = max cl (z - n) := ⟨_, rfl⟩
  obtain ⟨Ua, hUa⟩ : ∃ L, L = min ah (x + n) := ⟨_, rfl⟩
  obtain ⟨Ub, hUb⟩ : ∃ L, L = min bh (y + n) := ⟨_, rfl⟩
  obtain ⟨Uc, hUc⟩ : ∃ L, L = min ch (z + n) := ⟨_, rfl⟩
  have e1 : La + Lb + Lc ≤ 20 := by omega
  have e2 : 20 ≤ Ua + Ub + Uc := by omega
  have e3 : La ≤ Ua := by omega
  have e4 : Lb ≤ Ub := by omega
  have e5 : Lc ≤ Uc := by omega
  have f1 : al ≤ La ∧ x - n ≤ La := by omega
  have f2 : bl ≤ Lb ∧ y - n ≤ Lb := by omega
  have f3 : cl ≤ Lc ∧ z - n ≤ Lc := by omega
  have f4 : Ua ≤ ah ∧ Ua ≤ x + n := by omega
  have f5 : Ub ≤ bh ∧ Ub ≤ y + n := by omega
  have f6 : Uc ≤ ch ∧ Uc ≤ z + n := by omega
  clear hLa hLb hLc hUa hUb hUc
  obtain ⟨p, hp⟩ : ∃ p, p = min Ua (20 - Lb - Lc) := ⟨_, rfl⟩
  obtain ⟨q, hq⟩ : ∃ q, q = min Ub (20 - p - Lc) := ⟨_, rfl⟩
  refine ⟨⟨p, q, 20 - p - q⟩, by show p + q + (20 - p - q) = 20; omega, ?_, ?_⟩
  · simp only; omega
  · simp only [nearS]; omega
/-- What soils there are at a way's step. -/
def CwS (g : GroundD) (back : Bool) (L0 : List MixD) : Nat → S3 → Prop
  | 0, s => sum20 s ∧ InM (L0.getD (idxN g back 0) noMix) s
  | k + 1, s => sum20 s ∧ InM (L0.getD (idxN g back (k + 1)) noMix) s ∧ ∃ t, CwS g back L0 k t ∧ nearS g.change t s
theorem CwS.sum {g : GroundD} {back : Bool} {L0 : List MixD} {k : Nat} {s : S3} (h : CwS g back L0 k s) : sum20 s := by
  cases k <;> exact h.1
theorem idxN_inj {g : GroundD} {back : Bool} {i k : Nat} (hi : i < placesN g) (hk : k < placesN g) (h : idxN g back i = idxN g back k) : i = k := by
  unfold idxN at h
  cases back
  · simpa using h
  · simp at h; omega
theorem getD_set_ne {L : List MixD} {i j : Nat} {m : MixD} (h : i ≠ j) : (L.set i m).getD j noMix = L.getD j noMix := by
  rw [List.getD_eq_getElem?_getD, List.getD_eq_getElem?_getD, List.getElem?_set_ne h]
theorem getD_set_self {L : List MixD} {i : Nat} {m : MixD} (h : i < L.length) : (L.set i m).getD i noMix = m := by
  rw [List.getD_eq_getElem?_getD, List.getElem?_set_self h]; rfl
theorem wayF_rest {g : GroundD} {back : Bool} {L0 : List MixD} : ∀ {k i : Nat}, k ≤ i → i < placesN g → (wayF g back L0 k).1.getD (idxN g back i) noMix = L0.getD (idxN g back i) noMix
  | 0, _, _, _ => rfl
  | k + 1, i, h, hi => by
    rw [wayF_succ]
    simp only
    rw [getD_set_ne (fun e => by have := idxN_inj (by omega) hi e; omega)]
    exact wayF_rest (by omega) hi
theorem wayF_done {g : GroundD} {back : Bool} {L0 : List MixD} (hl : L0.length = placesN g) : ∀ {k i : Nat}, i < k → k ≤ placesN g → (wayF g back L0 k).1.getD (idxN g back i) noMix = midM g back L0 i
  | 0, _, h, _ => absurd h (Nat.not_lt_zero _)
  | k + 1, i, h, hk => by
    rw [wayF_succ]
    simp only
    rcases Nat.lt_succ_iff_lt_or_eq.1 h with h | rfl
    · rw [getD_set_ne (fun e => by have := idxN_inj (by omega) (by omega) e; omega)]
      exact wayF_done hl h (by omega)
    · exact getD_set_self (by rw [wayF_length, hl]; exact idxN_lt (by omega))
theorem wayL_at {g : GroundD} {back : Bool} {L0 : List MixD} (hl : L0.length = placesN g) {i : Nat} (h : i < placesN g) : (wayL g back L0).getD (idxN g back i) noMix = midM g back L0 i := wayF_done hl h (Nat.le_refl _)
theorem midM_tight {g : GroundD} {back : Bool} {L0 : List MixD} {k : Nat} (h : midM g back L0 k ≠ noMix) : Tight (midM g back L0 k) := narrow_tight h
theorem mid_iff {g : GroundD} {back : Bool} {L0 : List MixD} (hc : 0 ≤ g.change) (h20 : ∀ m ∈ L0, In20M m) : ∀ {k : Nat}, k < placesN g → (∀ j, j < k → midM g back L0 j ≠ noMix) → ∀ {s : S3}, sum20 s → (InM (midM g back L0 k) s ↔ CwS g back L0 k s)
  | 0, hk, _, s, hs => by
    unfold midM
    rw [both_iff hs]
    simp only [wayF, CwS]
    constructor
    · intro h; exact ⟨hs, h.2⟩
    · intro h
      refine ⟨?_, h.2⟩
      have h1 := getD_in20 h20 (idxN g back 0)
      obtain ⟨q1, q2, q3⟩ := h1
      have h2 := h.2
      simp only [In20, InM, anyMix] at *
      omega
  | k + 1, hk, hj, s, hs => by
    have ih := @mid_iff g back L0 hc h20 k (by omega) (fun j h => hj j (by omega))
    unfold midM
    rw [both_iff hs, wayF_rest (Nat.le_refl _) hk, wayF_succ]
    simp only [CwS]
    constructor
    · rintro ⟨h1, h2⟩
      obtain ⟨t, t1, t2, t3⟩ := changed_some hc (midM_tight (hj k (by omega))) hs h1
      exact ⟨hs, h2, t, (ih t1).1 t2, t3⟩
    · rintro ⟨_, h2, t, t1, t3⟩
      exact ⟨changed_of ((ih t1.sum).2 t1) t3, h2⟩
theorem CwS.before {g : GroundD} {back : Bool} {L0 : List MixD} {k : Nat} {s : S3} (h : CwS g back L0 k s) : ∀ j, j ≤ k → ∃ t, CwS g back L0 j t := by
  induction k generalizing s with
  | zero => intro j hj; obtain rfl : j = 0 := by omega
            exact ⟨s, h⟩
  | succ k ih =>
    intro j hj
    by_cases e : j = k + 1
    · subst e; exact ⟨s, h⟩
    · obtain ⟨_, _, t, ht, _⟩ := h
      exact ih ht j (by omega)
theorem way_ok {g : GroundD} {back : Bool} {L0 : List MixD} (hc : 0 ≤ g.change) (h20 : ∀ m ∈ L0, In20M m) (hn : 0 < placesN g) : wayOk g back L0 = true ↔ ∃ s, CwS g back L0 (placesN g - 1) s := by
  constructor
  · intro h
    have h0 : ∀ j, j < placesN g → midM g back L0 j ≠ noMix := by
      simpa only [wayOk, List.all_eq_true, List.mem_range, decide_eq_true_eq] using h
    obtain ⟨s, s1, s2⟩ := (midM_tight (h0 (placesN g - 1) (by omega))).some
    exact ⟨s, (mid_iff hc h20 (by omega) (fun j hj => h0 j (by omega)) s1).1 s2⟩
  · rintro ⟨s, hs⟩
    refine wayOk_of fun j => ?_
    induction j using Nat.strongRecOn with
    | _ j ih =>
      intro hj e
      obtain ⟨t, ht⟩ := hs.before j (by omega)
      have := (mid_iff hc h20 hj (fun i hi => ih i hi (by omega)) ht.sum).2 ht
      rw [e] at this
      exact noMix_none ht.sum this
theorem wayOk_at {g : GroundD} {back : Bool} {L0 : List MixD} (h : wayOk g back L0 = true) {j : Nat} (hj : j < placesN g) : midM g back L0 j ≠ noMix := by
  have : ∀ j, j < placesN g → midM g back L0 j ≠ noMix := by
    simpa only [wayOk, List.all_eq_true, List.mem_range, decide_eq_true_eq] using h
  exact this j hj
/-- A truth of what places are made of. -/
def TruthS (g : GroundD) (T : Nat → S3) : Prop := ∀ j, j < placesN g → sum20 (T j) ∧ InM ((dugL g).getD j noMix) (T j) ∧ (j + 1 < placesN g → nearS g.change (T j) (T (j + 1)))
theorem dugL_length (g : GroundD) : (dugL g).length = placesN g := dugF_length g _
theorem fwd_chain {g : GroundD} {L0 : List MixD} : ∀ {k : Nat} {s : S3}, CwS g false L0 k s ↔ ∃ T : Nat → S3, T k = s ∧ ∀ j, j ≤ k → sum20 (T j) ∧ InM (L0.getD j noMix) (T j) ∧ (j < k → nearS g.change (T j) (T (j + 1)))
  | 0, s => by
    constructor
    · intro h
      refine ⟨fun _ => s, rfl, fun j hj => ?_⟩
      obtain rfl : j = 0 := by omega
      exact ⟨h.1, h.2, fun h => absurd h (Nat.lt_irrefl 0)⟩
    · rintro ⟨T, rfl, h⟩
      obtain ⟨h1, h2, _⟩ := h 0 (Nat.le_refl _)
      exact ⟨h1, h2⟩
  | k + 1, s => by
    constructor
    · rintro ⟨h1, h2, t, h3, h4⟩
      obtain ⟨T, rfl, hT⟩ := fwd_chain.1 h3
      refine ⟨fun j => if j ≤ k then T j else s, if_neg (by omega), fun j hj => ?_⟩
      by_cases hk : j ≤ k
      · obtain ⟨q1, q2, q3⟩ := hT j hk
        simp only [hk, if_true]
        refine ⟨q1, q2, fun _ => ?_⟩
        by_cases hk2 : j + 1 ≤ k
        · simp only [hk2, if_true]; exact q3 (by omega)
        · obtain rfl : j = k := by omega
          simp only [hk2, if_false]; exact h4
      · obtain rfl : j = k + 1 := by omega
        simp only [hk, if_false]
        exact ⟨h1, h2, fun h => absurd h (Nat.lt_irrefl _)⟩
    · rintro ⟨T, rfl, hT⟩
      obtain ⟨h1, h2, _⟩ := hT (k + 1) (Nat.le_refl _)
      refine ⟨h1, h2, T k, fwd_chain.2 ⟨T, rfl, fun j hj => ?_⟩, (hT k (by omega)).2.2 (by omega)⟩
      obtain ⟨q1, q2, q3⟩ := hT j (by omega)
      exact ⟨q1, q2, fun h => q3 (by omega)⟩
section
variable {g : GroundD}
theorem fwd_all (hn : 0 < placesN g) (s : S3) : CwS g false (dugL g) (placesN g - 1) s ↔ ∃ T, TruthS g T ∧ T (placesN g - 1) = s := by
  rw [fwd_chain]
  constructor
  · rintro ⟨T, h1, h2⟩
    refine ⟨T, fun j hj => ?_, h1⟩
    obtain ⟨q1, q2, q3⟩ := h2 j (by omega)
    exact ⟨q1, q2, fun h => q3 (by omega)⟩
  · rintro ⟨T, h1, h2⟩
    refine ⟨T, h2, fun j hj => ?_⟩
    obtain ⟨q1, q2, q3⟩ := h1 j (by omega)
    exact ⟨q1, q2, fun h => q3 (by omega)⟩
theorem placesN_pos (hg : ValidG g) : 0 < placesN g := by have := hg.long; unfold placesN; omega
theorem L1_in20 (hg : ValidG g) : ∀ m ∈ wayL g false (dugL g), In20M m := wayF_in20 (dugL_in20 hg) _
theorem L1_at (hg : ValidG g) (hok : wayOk g false (dugL g) = true) {i : Nat} (hi : i < placesN g) {s : S3} (hs : sum20 s) : InM ((wayL g false (dugL g)).getD i noMix) s ↔ CwS g false (dugL g) i s := by
  have e := wayL_at (back := false) (dugL_length g) hi
  simp only [idxN, Bool.false_eq_true, if_false] at e
  rw [e]
  exact mid_iff hg.change.1 (dugL_in20 hg) hi (fun j hj => wayOk_at hok (by omega)) hs
theorem back_chain (hg : ValidG g) (hok : wayOk g false (dugL g) = true) : ∀ {k : Nat}, k < placesN g → ∀ {s : S3}, CwS g true (wayL g false (dugL g)) k s ↔ ∃ T, TruthS g T ∧ T (placesN g - 1 - k) = s
  | 0, hk, s => by
    have hn := placesN_pos hg
    rw [Nat.sub_zero, ← fwd_all hn]
    show (sum20 s ∧ InM ((wayL g false (dugL g)).getD (idxN g true 0) noMix) s) ↔ _
    simp only [idxN, if_true, Nat.sub_zero]
    constructor
    · rintro ⟨h1, h2⟩; exact (L1_at hg hok (by omega) h1).1 h2
    · intro h; exact ⟨h.sum, (L1_at hg hok (by omega) h.sum).2 h⟩
  | k + 1, hk, s => by
    have ih := @back_chain hg hok k (by omega)
    show (sum20 s ∧ InM ((wayL g false (dugL g)).getD (idxN g true (k + 1)) noMix) s ∧ ∃ t, CwS g true (wayL g false (dugL g)) k t ∧ nearS g.change t s) ↔ _
    simp only [idxN, if_true]
    obtain ⟨i, hi⟩ : ∃ i, i = placesN g - 1 - (k + 1) := ⟨_, rfl⟩
    rw [← hi]
    have hi1 : placesN g - 1 - k = i + 1 := by omega
    constructor
    · rintro ⟨h1, h2, t, h3, h4⟩
      obtain ⟨T, hT, e⟩ := ih.1 h3
      rw [hi1] at e
      obtain ⟨U, e2, hU⟩ := fwd_chain.1 ((L1_at hg hok (by omega) h1).1 h2)
      refine ⟨fun j => if j ≤ i then U j else T j, fun j hj => ?_, by simp [e2]⟩
      by_cases hj1 : j ≤ i
      · obtain ⟨q1, q2, q3⟩ := hU j hj1
        simp only [hj1, if_true]
        refine ⟨q1, q2, fun _ => ?_⟩
        by_cases hj2 : j + 1 ≤ i
        · simp only [hj2, if_true]; exact q3 (by omega)
        · obtain rfl : j = i := by omega
          simp only [hj2, if_false]
          rw [e2, e]; exact h4.symm
      · have hj2 : ¬ j + 1 ≤ i := by omega
        simp only [hj1, hj2, if_false]
        exact hT j hj
    · rintro ⟨T, hT, rfl⟩
      have h0 := hT i (by omega)
      refine ⟨h0.1, (L1_at hg hok (by omega) h0.1).2 (fwd_chain.2 ⟨T, rfl, fun j hj => ?_⟩), T (i + 1), ih.2 ⟨T, hT, by rw [hi1]⟩, (h0.2.2 (by omega)).symm⟩
      obtain ⟨q1, q2, q3⟩ := hT j (by omega)
      exact ⟨q1, q2, fun h => q3 (by omega)⟩
/-- There is a truth just if all places have some mix. -/
theorem soilsOk_iff (hg : ValidG g) : soilsOk g = true ↔ ∃ T, TruthS g T := by
  have hn := placesN_pos hg
  have h1 := way_ok (back := false) hg.change.1 (dugL_in20 hg) hn
  have h2 := way_ok (back := true) hg.change.1 (L1_in20 hg) hn
  unfold soilsOk
  rw [Bool.and_eq_true]
  constructor
  · rintro ⟨a, _⟩
    obtain ⟨s, hs⟩ := h1.1 a
    obtain ⟨T, hT, _⟩ := (fwd_all hn s).1 hs
    exact ⟨T, hT⟩
  · rintro ⟨T, hT⟩
    have a := h1.2 ⟨_, (fwd_all hn _).2 ⟨T, hT, rfl⟩⟩
    exact ⟨a, h2.2 ⟨_, (back_chain hg a (k := placesN g - 1) (by omega)).2 ⟨T, hT, rfl⟩⟩⟩
/-- What is told of a place are the soils that it has in some truth. -/
theorem soils_iff (hg : ValidG g) (hok : soilsOk g = true) {i : Nat} (hi : i < placesN g) {s : S3} (hs : sum20 s) : InM ((soilsL g).getD i noMix) s ↔ ∃ T, TruthS g T ∧ T i = s := by
  simp only [soilsOk, Bool.and_eq_true] at hok
  have e := wayL_at (back := true) (L0 := wayL g false (dugL g)) (by rw [wayL_length, dugL_length]) (i := placesN g - 1 - i) (by omega)
  simp only [idxN, if_true] at e
  have e2 : placesN g - 1 - (placesN g - 1 - i) = i := by omega
  rw [e2] at e
  unfold soilsL
  rw [e, mid_iff hg.change.1 (L1_in20 hg) (by omega) (fun j hj => wayOk_at hok.2 (by omega)) hs, back_chain hg hok.1 (by omega), e2]
theorem soils_tight (hok : soilsOk g = true) {i : Nat} (hi : i < placesN g) : Tight ((soilsL g).getD i noMix) := by
  simp only [soilsOk, Bool.and_eq_true] at hok
  have e := wayL_at (back := true) (L0 := wayL g false (dugL g)) (by rw [wayL_length, dugL_length]) (i := placesN g - 1 - i) (by omega)
  simp only [idxN, if_true] at e
  have e2 : placesN g - 1 - (placesN g - 1 - i) = i := by omega
  rw [e2] at e
  unfold soilsL
  rw [e]
  exact midM_tight (wayOk_at hok.2 (by omega))
end
end Go.Proofs.Ytfmbnobkenngaaa
