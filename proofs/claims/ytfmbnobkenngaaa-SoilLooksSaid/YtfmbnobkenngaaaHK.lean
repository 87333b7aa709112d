/- Soil: truths of a ground, and what is told by them. -/
import Derived.Test.YtfmbnobkenngaaaHG
namespace Go.Proofs.Ytfmbnobkenngaaa
open Go.RowKit En

structure VG (g : GroundD) : Prop where
  v : ValidG g
  ord : g.pits.Pairwise fun p q => p.at_ < q.at_
theorem pitsB_pair {long : Int} : ∀ (l : List PitD) (bef : Int), pitsB long bef l = true → l.Pairwise (fun p q => p.at_ < q.at_) ∧ ∀ p ∈ l, bef < p.at_
  | [], _, _ => ⟨.nil, fun p h => by cases h⟩
  | a :: r, bef, h => by
    simp only [pitsB, Bool.and_eq_true, Bool.not_eq_true', decide_eq_false_iff_not] at h
    obtain ⟨⟨⟨h1, h2⟩, h3⟩, h4⟩ := h
    obtain ⟨q1, q2⟩ := pitsB_pair r a.at_ h4
    refine ⟨.cons q2 q1, fun p hp => ?_⟩
    rcases List.mem_cons.1 hp with rfl | hp
    · omega
    · have := q2 p hp; omega
theorem VG.of {g : GroundD} (h : validB g = true) : VG g := by
  refine ⟨validG h, ?_⟩
  simp only [validB, Bool.and_eq_true] at h
  exact (pitsB_pair _ _ h.2).1
theorem VG.inj {g : GroundD} (h : VG g) {p q : PitD} (hp : p ∈ g.pits) (hq : q ∈ g.pits) (e : p.at_ = q.at_) : p = q := by
  obtain ⟨i, hi, rfl⟩ := List.getElem_of_mem hp
  obtain ⟨j, hj, rfl⟩ := List.getElem_of_mem hq
  have := List.pairwise_iff_getElem.1 h.ord
  rcases Nat.lt_trichotomy i j with c | c | c
  · have := this i j hi hj c; omega
  · subst c; rfl
  · have := this j i hj hi c; omega
theorem VG.hard {g : GroundD} (h : VG g) {p : PitD} (hp : p ∈ g.pits) : 0 ≤ p.hard.lo ∧ p.hard.lo ≤ p.hard.hi ∧ p.hard.hi ≤ 1000 := by
  have := (h.v.pits p hp).2
  simp only [pitB, withinB, Bool.and_eq_true, decide_eq_true_eq] at this
  omega
theorem VG.parts {g : GroundD} (h : VG g) {p : PitD} (hp : p ∈ g.pits) : 0 ≤ p.sand.lo ∧ 0 ≤ p.silt.lo ∧ 0 ≤ p.clay.lo := by
  have := (h.v.pits p hp).2
  simp only [pitB, withinB, Bool.and_eq_true, decide_eq_true_eq] at this
  omega
theorem dug_other : ∀ (l : List PitD) (L : List MixD) (j : Nat), (∀ p ∈ l, p.at_.toNat ≠ j) → (l.foldl (fun L p => L.set p.at_.toNat (pitM p)) L).getD j noMix = L.getD j noMix
  | [], _, _, _ => rfl
  | a :: r, L, j, h => by
    rw [List.foldl_cons, dug_other r _ j (fun p hp => h p (by simp [hp])), getD_set_ne (h a (by simp))]
theorem dug_here : ∀ (l : List PitD) (L : List MixD) (p : PitD), l.Pairwise (fun p q => p.at_ < q.at_) → (∀ q ∈ l, 0 ≤ q.at_) → p ∈ l → p.at_.toNat < L.length → (l.foldl (fun L p => L.set p.at_.toNat (pitM p)) L).getD p.at_.toNat noMix = pitM p
  | [], _, _, _, _, h, _ => by cases h
  | a :: r, L, p, ho, h0, h, hl => by
    rw [List.foldl_cons]
    obtain ⟨o1, o2⟩ := List.pairwise_cons.1 ho
    have ha0 := h0 a (by simp)
    rcases List.mem_cons.1 h with rfl | h
    · rw [dug_other r _ _ (fun q hq => by have := o1 q hq; omega), getD_set_self hl]
    · exact dug_here r _ p o2 (fun q hq => h0 q (by simp [hq])) h (by rw [List.length_set]; exact hl)
theorem dug_pit {g : GroundD} (h : VG g) {p : PitD} (hp : p ∈ g.pits) : (dugL g).getD p.at_.toNat noMix = pitM p := by
  have h1 := (h.v.pits p hp).1
  unfold dugL dugF
  rw [List.take_length]
  exact dug_here g.pits _ p h.ord (fun q hq => (h.v.pits q hq).1.1) hp (by rw [List.length_replicate]; unfold placesN; omega)
theorem dug_none {g : GroundD} (h : VG g) {j : Nat} (hj : j < placesN g) (hn : ∀ p ∈ g.pits, p.at_ ≠ (j : Int)) : (dugL g).getD j noMix = anyMix := by
  unfold dugL dugF
  rw [List.take_length, dug_other _ _ _ (fun p hp => by have := hn p hp; have := (h.v.pits p hp).1.1; omega), List.getD_eq_getElem?_getD, List.getElem?_replicate, if_pos hj]
  rfl
def okS (s : S3) : Prop := sum20 s ∧ 0 ≤ s.a ∧ 0 ≤ s.b ∧ 0 ≤ s.c
/-- A truth of what places are made of, by the pits. -/
def TruthP (g : GroundD) (T : Nat → S3) : Prop := ∀ j, j < placesN g → okS (T j) ∧ (∀ p ∈ g.pits, p.at_ = (j : Int) → InM (pitM p) (T j)) ∧ (j + 1 < placesN g → nearS g.change (T j) (T (j + 1)))
theorem dug_iff {g : GroundD} (h : VG g) {j : Nat} (hj : j < placesN g) {s : S3} : (sum20 s ∧ InM ((dugL g).getD j noMix) s) ↔ (okS s ∧ ∀ p ∈ g.pits, p.at_ = (j : Int) → InM (pitM p) s) := by
  by_cases ex : ∃ p ∈ g.pits, p.at_ = (j : Int)
  · obtain ⟨p, hp, e⟩ := ex
    have e2 := dug_pit h hp
    rw [e, Int.toNat_natCast] at e2
    rw [e2]
    have hp0 := h.parts hp
    constructor
    · rintro ⟨h1, h2⟩
      refine ⟨⟨h1, ?_⟩, fun q hq eq => ?_⟩
      · simp only [InM, pitM] at h2; omega
      · rw [h.inj hq hp (by omega)]; exact h2
    · rintro ⟨h1, h2⟩
      exact ⟨h1.1, h2 p hp e⟩
  · have hn : ∀ p ∈ g.pits, p.at_ ≠ (j : Int) := fun p hp e => ex ⟨p, hp, e⟩
    rw [dug_none h hj hn]
    constructor
    · rintro ⟨h1, h2⟩
      refine ⟨⟨h1, ?_⟩, fun q hq eq => absurd eq (hn q hq)⟩
      simp only [InM, anyMix] at h2; omega
    · rintro ⟨⟨h1, h2⟩, _⟩
      refine ⟨h1, ?_⟩
      simp only [sum20] at h1
      simp only [InM, anyMix]; omega
theorem truth_iff {g : GroundD} (h : VG g) {T : Nat → S3} : TruthS g T ↔ TruthP g T := by
  constructor
  · intro ht j hj
    obtain ⟨h1, h2, h3⟩ := ht j hj
    have := (dug_iff h hj).1 ⟨h1, h2⟩
    exact ⟨this.1, this.2, h3⟩
  · intro ht j hj
    obtain ⟨h1, h2, h3⟩ := ht j hj
    have := (dug_iff h hj).2 ⟨h1, h2⟩
    exact ⟨this.1, this.2, h3⟩
theorem soilsOk_P {g : GroundD} (h : VG g) : soilsOk g = true ↔ ∃ T, TruthP g T := by
  rw [soilsOk_iff h.v]
  exact ⟨fun ⟨T, hT⟩ => ⟨T, (truth_iff h).1 hT⟩, fun ⟨T, hT⟩ => ⟨T, (truth_iff h).2 hT⟩⟩
theorem soils_P {g : GroundD} (h : VG g) (hok : soilsOk g = true) {i : Nat} (hi : i < placesN g) {s : S3} (hs : sum20 s) : InM ((soilsL g).getD i noMix) s ↔ ∃ T, TruthP g T ∧ T i = s := by
  rw [soils_iff h.v hok hi hs]
  exact ⟨fun ⟨T, hT, e⟩ => ⟨T, (truth_iff h).1 hT, e⟩, fun ⟨T, hT, e⟩ => ⟨T, (truth_iff h).2 hT, e⟩⟩
/-- A truth of hardness. -/
def TruthH (g : GroundD) (H : Nat → Int) : Prop := ∀ j, j < placesN g → (0 ≤ H j ∧ H j ≤ 1000) ∧ (∀ p ∈ g.pits, p.at_ = (j : Int) → p.hard.lo ≤ H j ∧ H j ≤ p.hard.hi) ∧ (j + 1 < placesN g → H j - H (j + 1) ≤ g.rise ∧ H (j + 1) - H j ≤ g.rise)
abbrev cS (g : GroundD) (i : Nat) : SpanD := commonS (voicesL g) (i : Int)
theorem TruthH.far {g : GroundD} {H : Nat → Int} (h : TruthH g H) (i : Nat) : ∀ d, i + d < placesN g → H i - H (i + d) ≤ g.rise * (d : Int) ∧ H (i + d) - H i ≤ g.rise * (d : Int)
  | 0, _ => by simp
  | d + 1, hd => by
    have ih := h.far i d (by omega)
    have h2 := (h (i + d) (by omega)).2.2 hd
    have e : g.rise * ((d + 1 : Nat) : Int) = g.rise * (d : Int) + g.rise := by rw [Int.natCast_add, Int.mul_add]; simp
    rw [e, show i + (d + 1) = i + d + 1 by omega]
    omega
theorem foldl_max_le_iff {b : Int} : ∀ (l : List Int) (a : Int), l.foldl max a ≤ b ↔ a ≤ b ∧ ∀ x ∈ l, x ≤ b
  | [], a => by simp
  | c :: r, a => by
    rw [List.foldl_cons, foldl_max_le_iff r]
    simp only [List.mem_cons, forall_eq_or_imp]
    constructor
    · rintro ⟨h1, h2⟩; exact ⟨by omega, by omega, h2⟩
    · rintro ⟨h1, h2, h3⟩; exact ⟨by omega, h3⟩
theorem foldl_min_ge_iff {b : Int} : ∀ (l : List Int) (a : Int), b ≤ l.foldl min a ↔ b ≤ a ∧ ∀ x ∈ l, b ≤ x
  | [], a => by simp
  | c :: r, a => by
    rw [List.foldl_cons, foldl_min_ge_iff r]
    simp only [List.mem_cons, forall_eq_or_imp]
    constructor
    · rintro ⟨h1, h2⟩; exact ⟨by omega, by omega, h2⟩
    · rintro ⟨h1, h2, h3⟩; exact ⟨by omega, h3⟩
theorem cS_le {g : GroundD} {i : Nat} {b : Int} : (cS g i).lo ≤ b ↔ 0 ≤ b ∧ ∀ p ∈ g.pits, (hardAtS (.pit p g.rise) (i : Int)).lo ≤ b := by
  rw [common_lo, foldl_max_le_iff]
  simp only [List.mem_map, forall_exists_index, and_imp, forall_apply_eq_imp_iff₂]
theorem cS_ge {g : GroundD} {i : Nat} {b : Int} : b ≤ (cS g i).hi ↔ b ≤ 1000 ∧ ∀ p ∈ g.pits, b ≤ (hardAtS (.pit p g.rise) (i : Int)).hi := by
  rw [common_hi, foldl_min_ge_iff]
  simp only [List.mem_map, forall_exists_index, and_imp, forall_apply_eq_imp_iff₂]
theorem cS_pit {g : GroundD} {p : PitD} (hp : p ∈ g.pits) {i : Nat} (e : p.at_ = (i : Int)) : p.hard.lo ≤ (cS g i).lo ∧ (cS g i).hi ≤ p.hard.hi := by
  have h1 := (cS_le (g := g) (i := i)).1 (Int.le_refl _)
  have h2 := (cS_ge (g := g) (i := i)).1 (Int.le_refl _)
  have q1 := h1.2 p hp
  have q2 := h2.2 p hp
  simp only [hardAtS, widerS, e, Int.sub_self, Int.max_self, Int.mul_zero] at q1 q2
  omega
theorem cS_0 (g : GroundD) (i : Nat) : 0 ≤ (cS g i).lo ∧ (cS g i).hi ≤ 1000 := ⟨((cS_le (g := g) (i := i)).1 (Int.le_refl _)).1, ((cS_ge (g := g) (i := i)).1 (Int.le_refl _)).1⟩
theorem cS_near {g : GroundD} (hr : 0 ≤ g.rise) (i : Nat) : (cS g i).lo - (cS g (i + 1)).lo ≤ g.rise ∧ (cS g (i + 1)).lo - (cS g i).lo ≤ g.rise ∧ (cS g i).hi - (cS g (i + 1)).hi ≤ g.rise ∧ (cS g (i + 1)).hi - (cS g i).hi ≤ g.rise := by
  have h1 := common_near (g := g) hr (n := (i : Int)) (m := ((i + 1 : Nat) : Int)) (by omega) (by omega)
  have h2 := common_near (g := g) hr (n := ((i + 1 : Nat) : Int)) (m := (i : Int)) (by omega) (by omega)
  exact ⟨h1.1, h2.1, h1.2, h2.2⟩
theorem hardOk_cS {g : GroundD} (h : hardOk g = true) {k : Nat} (hk : k < placesN g) : (cS g k).lo ≤ (cS g k).hi := hardOk_at h hk
def distN (i k : Nat) : Nat := max (i - k) (k - i)
theorem lookOk_soils {g : GroundD} (h : lookOk g = true) : soilsOk g = true := by
  simp only [lookOk, Bool.and_eq_true] at h; exact h.2
def subS (a b : SpanD) : Prop := b.lo ≤ a.lo ∧ a.hi ≤ b.hi
end Go.Proofs.Ytfmbnobkenngaaa
