/- Soil: the document's own hardness: rounds of narrowing. -/
import Derived.Test.YtfmbnobkenngaaaHK
import Derived.Test.YtfmbnobkenngaaaHMO
namespace Go.Proofs.Ytfmbnobkenngaaa
open Go.RowKit En

def zS : SpanD := ⟨0, 0⟩
abbrev atS (L : List SpanD) (i : Nat) : SpanD := L.getD i zS
theorem atS_set {L : List SpanD} {i j : Nat} {s : SpanD} (hi : i < L.length) : atS (L.set i s) j = if j = i then s else atS L j := by
  unfold atS
  rw [List.getD_eq_getElem?_getD, List.getD_eq_getElem?_getD, List.getElem?_set]
  by_cases h : i = j
  · subst h; simp [hi]
  · simp [h, Ne.symm h]
def narS (r : Int) (a b : SpanD) : SpanD := ⟨max a.lo (b.lo - r), min a.hi (b.hi + r)⟩
/-- Two neighbours narrow each other. -/
def stepS (r : Int) (L : List SpanD) (i : Nat) : List SpanD := (L.set i (narS r (atS L i) (atS L (i + 1)))).set (i + 1) (narS r (atS L (i + 1)) (atS L i))
theorem stepS_length (r : Int) (L : List SpanD) (i : Nat) : (stepS r L i).length = L.length := by simp [stepS]
theorem stepS_at {r : Int} {L : List SpanD} {i j : Nat} (h : i + 1 < L.length) : atS (stepS r L i) j = if j = i + 1 then narS r (atS L (i + 1)) (atS L i) else if j = i then narS r (atS L i) (atS L (i + 1)) else atS L j := by
  unfold stepS
  rw [atS_set (by rw [List.length_set]; exact h), atS_set (by omega)]
def sweepS (r : Int) (L : List SpanD) : Nat → List SpanD
  | 0 => L
  | k + 1 => stepS r (sweepS r L k) k
theorem sweepS_length (r : Int) (L : List SpanD) : ∀ k, (sweepS r L k).length = L.length
  | 0 => rfl
  | k + 1 => by rw [sweepS, stepS_length, sweepS_length r L k]
def roundsS (r : Int) (m : Nat) (L : List SpanD) : Nat → List SpanD
  | 0 => L
  | t + 1 => sweepS r (roundsS r m L t) m
theorem roundsS_length (r : Int) (m : Nat) (L : List SpanD) : ∀ t, (roundsS r m L t).length = L.length
  | 0 => rfl
  | t + 1 => by rw [roundsS, sweepS_length, roundsS_length r m L t]
/-- Within bounds. -/
def BdS (L : List SpanD) : Prop := ∀ i, i < L.length → (0 ≤ (atS L i).lo ∧ (atS L i).lo ≤ 1000) ∧ 0 ≤ (atS L i).hi ∧ (atS L i).hi ≤ 1000
theorem BdS.step {r : Int} {L : List SpanD} (h : BdS L) (hr : 0 ≤ r) {i : Nat} (hi : i + 1 < L.length) : BdS (stepS r L i) := fun j hj => by
  rw [stepS_length] at hj
  rw [stepS_at hi]
  have h1 := h i (by omega)
  have h2 := h (i + 1) hi
  have h3 := h j hj
  split
  · simp only [narS]; omega
  · split
    · simp only [narS]; omega
    · exact h3
theorem BdS.sweep {r : Int} {L : List SpanD} (h : BdS L) (hr : 0 ≤ r) : ∀ k, k < L.length → BdS (sweepS r L k)
  | 0, _ => h
  | k + 1, hk => (h.sweep hr k (by omega)).step hr (by rw [sweepS_length]; exact hk)
theorem BdS.rounds {r : Int} {m : Nat} {L : List SpanD} (h : BdS L) (hr : 0 ≤ r) (hm : m < L.length) : ∀ t, BdS (roundsS r m L t)
  | 0 => h
  | t + 1 => (h.rounds hr hm t).sweep hr m (by rw [roundsS_length]; exact hm)
/-- Nothing is narrowed too far. -/
def SndS (g : GroundD) (L : List SpanD) : Prop := ∀ i, i < L.length → (atS L i).lo ≤ (cS g i).lo ∧ (cS g i).hi ≤ (atS L i).hi
theorem SndS.step {g : GroundD} {L : List SpanD} (h : SndS g L) (hr : 0 ≤ g.rise) {i : Nat} (hi : i + 1 < L.length) : SndS g (stepS g.rise L i) := fun j hj => by
  rw [stepS_length] at hj
  rw [stepS_at hi]
  have h1 := h i (by omega)
  have h2 := h (i + 1) hi
  have h3 := h j hj
  have hn := cS_near (g := g) hr i
  split
  · rename_i e; subst e; simp only [narS]; omega
  · split
    · rename_i e; subst e; simp only [narS]; omega
    · exact h3
theorem SndS.sweep {g : GroundD} {L : List SpanD} (h : SndS g L) (hr : 0 ≤ g.rise) : ∀ k, k < L.length → SndS g (sweepS g.rise L k)
  | 0, _ => h
  | k + 1, hk => (h.sweep hr k (by omega)).step hr (by rw [sweepS_length]; exact hk)
theorem SndS.rounds {g : GroundD} {m : Nat} {L : List SpanD} (h : SndS g L) (hr : 0 ≤ g.rise) (hm : m < L.length) : ∀ t, SndS g (roundsS g.rise m L t)
  | 0 => h
  | t + 1 => (h.rounds hr hm t).sweep hr m (by rw [roundsS_length]; exact hm)
/-- What a place says is heard. -/
def HrdS (r : Int) (a : Nat) (s : SpanD) (L : List SpanD) (i : Nat) : Prop := s.lo - r * (distN a i : Int) ≤ (atS L i).lo ∧ (atS L i).hi ≤ s.hi + r * (distN a i : Int)
theorem mul_succ' (r : Int) (t : Nat) : r * ((t + 1 : Nat) : Int) = r * (t : Int) + r := by rw [Int.natCast_add, Int.mul_add]; simp
theorem HrdS.mono {r : Int} {a : Nat} {s : SpanD} {L : List SpanD} {k i : Nat} (hk : k + 1 < L.length) (h : HrdS r a s L i) : HrdS r a s (stepS r L k) i := by
  unfold HrdS at *
  rw [stepS_at hk]
  split
  · rename_i e; subst e; simp only [narS]; omega
  · split
    · rename_i e; subst e; simp only [narS]; omega
    · exact h
theorem HrdS.pass {r : Int} {a : Nat} {s : SpanD} {L : List SpanD} {k : Nat} (hk : k + 1 < L.length) : (a ≤ k → HrdS r a s L k → HrdS r a s (stepS r L k) (k + 1)) ∧ (k < a → HrdS r a s L (k + 1) → HrdS r a s (stepS r L k) k) := by
  constructor
  · intro ha h
    unfold HrdS at *
    rw [stepS_at hk, if_pos rfl]
    have e : distN a (k + 1) = distN a k + 1 := by unfold distN; omega
    rw [e, mul_succ']
    simp only [narS]; omega
  · intro ha h
    unfold HrdS at *
    rw [stepS_at hk, if_neg (by omega), if_pos rfl]
    have e : distN a k = distN a (k + 1) + 1 := by unfold distN; omega
    rw [e, mul_succ']
    simp only [narS]; omega
theorem hrd_sweep {r : Int} {a t : Nat} {s : SpanD} {L : List SpanD} (h : ∀ i, i < L.length → distN a i ≤ t → HrdS r a s L i) : ∀ k, k < L.length →
    (∀ i, i < L.length → distN a i ≤ t → HrdS r a s (sweepS r L k) i) ∧ (∀ i, i < L.length → distN a i = t + 1 → (i < a → i < k) → (a < i → i ≤ k) → HrdS r a s (sweepS r L k) i)
  | 0, _ => ⟨h, fun i hi hd h1 h2 => by
      have : i ≠ a := by intro e; subst e; unfold distN at hd; omega
      rcases Nat.lt_or_gt_of_ne this with c | c
      · have := h1 c; omega
      · have := h2 c; omega⟩
  | k + 1, hk => by
    obtain ⟨q1, q2⟩ := hrd_sweep h k (by omega)
    have hl := sweepS_length r L k
    refine ⟨fun i hi hd => (q1 i hi hd).mono (by omega), fun i hi hd h1 h2 => ?_⟩
    have hne : i ≠ a := by intro e; subst e; unfold distN at hd; omega
    rcases Nat.lt_or_gt_of_ne hne with c | c
    · have := h1 c
      by_cases e : i = k
      · subst e
        exact (HrdS.pass (by omega)).2 c (q1 (i + 1) (by omega) (by unfold distN at *; omega))
      · exact (q2 i hi hd (fun _ => by omega) (fun c2 => by omega)).mono (by omega)
    · have := h2 c
      by_cases e : i = k + 1
      · subst e
        exact (HrdS.pass (by omega)).1 (by omega) (q1 k (by omega) (by unfold distN at *; omega))
      · exact (q2 i hi hd (fun c2 => by omega) (fun _ => by omega)).mono (by omega)
theorem hrd_rounds {r : Int} {a m : Nat} {s : SpanD} {L : List SpanD} (hm : m + 1 = L.length) (ha : a < L.length) (h : HrdS r a s L a) : ∀ t i, i < L.length → distN a i ≤ t → HrdS r a s (roundsS r m L t) i
  | 0, i, hi, hd => by
    have : i = a := by unfold distN at hd; omega
    subst this; exact h
  | t + 1, i, hi, hd => by
    have ih := hrd_rounds hm ha h t
    have hl := roundsS_length r m L t
    obtain ⟨q1, q2⟩ := hrd_sweep (t := t) (fun i hi hd => ih i (by omega) hd) m (by omega)
    rcases Nat.lt_or_ge t (distN a i) with c | c
    · exact q2 i (by omega) (by omega) (fun c2 => by omega) (fun c2 => by omega)
    · exact q1 i (by omega) c
/-- Every place as the pits have it. -/
def initF (g : GroundD) (j : Nat) : List SpanD := (g.pits.take j).foldl (fun L p => L.set p.at_.toNat p.hard) (List.replicate (placesN g) ⟨0, 1000⟩)
def initS (g : GroundD) : List SpanD := initF g g.pits.length
theorem initF_succ {g : GroundD} {j : Nat} {p : PitD} (h : g.pits[j]? = some p) : (initF g j).set p.at_.toNat p.hard = initF g (j + 1) := by
  simp [initF, List.take_add_one, h, List.foldl_append]
theorem initF_length (g : GroundD) (j : Nat) : (initF g j).length = placesN g := by
  suffices h : ∀ (l : List PitD) (L : List SpanD), (l.foldl (fun L p => L.set p.at_.toNat p.hard) L).length = L.length by rw [initF, h, List.length_replicate]
  intro l
  induction l with
  | nil => intro L; rfl
  | cons a r ih => intro L; rw [List.foldl_cons, ih, List.length_set]
theorem fold_other : ∀ (l : List PitD) (L : List SpanD) (j : Nat), (∀ p ∈ l, p.at_.toNat ≠ j) → atS (l.foldl (fun L p => L.set p.at_.toNat p.hard) L) j = atS L j
  | [], _, _, _ => rfl
  | a :: r, L, j, h => by
    rw [List.foldl_cons, fold_other r _ j (fun p hp => h p (by simp [hp]))]
    unfold atS
    rw [List.getD_eq_getElem?_getD, List.getD_eq_getElem?_getD, List.getElem?_set_ne (h a (by simp))]
theorem fold_here : ∀ (l : List PitD) (L : List SpanD) (p : PitD), l.Pairwise (fun p q => p.at_ < q.at_) → (∀ q ∈ l, 0 ≤ q.at_) → p ∈ l → p.at_.toNat < L.length → atS (l.foldl (fun L p => L.set p.at_.toNat p.hard) L) p.at_.toNat = p.hard
  | [], _, _, _, _, h, _ => by cases h
  | a :: r, L, p, ho, h0, h, hl => by
    rw [List.foldl_cons]
    obtain ⟨o1, o2⟩ := List.pairwise_cons.1 ho
    have ha0 := h0 a (by simp)
    rcases List.mem_cons.1 h with rfl | h
    · rw [fold_other r _ _ (fun q hq => by have := o1 q hq; omega), atS_set hl, if_pos rfl]
    · exact fold_here r _ p o2 (fun q hq => h0 q (by simp [hq])) h (by rw [List.length_set]; exact hl)
theorem init_pit {g : GroundD} (h : VG g) {p : PitD} (hp : p ∈ g.pits) : atS (initS g) p.at_.toNat = p.hard := by
  have h1 := (h.v.pits p hp).1
  unfold initS initF
  rw [List.take_length]
  exact fold_here g.pits _ p h.ord (fun q hq => (h.v.pits q hq).1.1) hp (by rw [List.length_replicate]; unfold placesN; omega)
theorem init_none {g : GroundD} (h : VG g) {j : Nat} (hj : j < placesN g) (hn : ∀ p ∈ g.pits, p.at_ ≠ (j : Int)) : atS (initS g) j = ⟨0, 1000⟩ := by
  unfold initS initF
  rw [List.take_length, fold_other _ _ _ (fun p hp => by have := hn p hp; have := (h.v.pits p hp).1.1; omega)]
  unfold atS
  rw [List.getD_eq_getElem?_getD, List.getElem?_replicate, if_pos hj]
  rfl
theorem init_bd {g : GroundD} (h : VG g) : BdS (initS g) := fun i hi => by
  rw [initS, initF_length] at hi
  by_cases ex : ∃ p ∈ g.pits, p.at_ = (i : Int)
  · obtain ⟨p, hp, e⟩ := ex
    have e2 := init_pit h hp
    rw [e, Int.toNat_natCast] at e2
    rw [e2]
    have := h.hard hp
    omega
  · rw [init_none h hi (fun p hp e => ex ⟨p, hp, e⟩)]; simp
theorem init_snd {g : GroundD} (h : VG g) : SndS g (initS g) := fun i hi => by
  rw [initS, initF_length] at hi
  by_cases ex : ∃ p ∈ g.pits, p.at_ = (i : Int)
  · obtain ⟨p, hp, e⟩ := ex
    have e2 := init_pit h hp
    rw [e, Int.toNat_natCast] at e2
    rw [e2]
    exact cS_pit hp e
  · rw [init_none h hi (fun p hp e => ex ⟨p, hp, e⟩)]
    exact cS_0 g i
/-- After as many rounds as there are places all is heard. -/
theorem rounds_hardL {g : GroundD} (h : VG g) : roundsS g.rise g.long.toNat (initS g) (placesN g) = hardL g := by
  have hlong := h.v.long
  have hr := h.v.rise.1
  have hn : (initS g).length = placesN g := initF_length _ _
  have hm : g.long.toNat + 1 = (initS g).length := by rw [hn]; unfold placesN; omega
  have hl := roundsS_length g.rise g.long.toNat (initS g) (placesN g)
  have hb := (init_bd h).rounds (m := g.long.toNat) hr (by omega) (placesN g)
  have hs := (init_snd h).rounds (m := g.long.toNat) hr (by omega) (placesN g)
  refine List.ext_getElem? fun i => ?_
  rcases Nat.lt_or_ge i (placesN g) with c | c
  · rw [hardL_get i c]
    have hi : i < (roundsS g.rise g.long.toNat (initS g) (placesN g)).length := by omega
    have e : (roundsS g.rise g.long.toNat (initS g) (placesN g))[i]? = some (atS (roundsS g.rise g.long.toNat (initS g) (placesN g)) i) := by
      unfold atS
      rw [List.getD_eq_getElem?_getD, List.getElem?_eq_getElem hi]; rfl
    rw [e]
    congr 1
    have h1 := hs i hi
    have h2 := hb i hi
    have key : ∀ p ∈ g.pits, (hardAtS (.pit p g.rise) (i : Int)).lo ≤ (atS (roundsS g.rise g.long.toNat (initS g) (placesN g)) i).lo ∧ (atS (roundsS g.rise g.long.toNat (initS g) (placesN g)) i).hi ≤ (hardAtS (.pit p g.rise) (i : Int)).hi := fun p hp => by
      have hat := (h.v.pits p hp).1
      have q : HrdS g.rise p.at_.toNat p.hard (initS g) p.at_.toNat := by
        unfold HrdS
        rw [init_pit h hp, show distN p.at_.toNat p.at_.toNat = 0 by unfold distN; omega]
        simp
      have := hrd_rounds hm (by rw [hn]; unfold placesN; omega) q (placesN g) i (by omega) (by unfold distN placesN at *; omega)
      unfold HrdS at this
      have e2 : max ((i : Int) - p.at_) (p.at_ - (i : Int)) = (distN p.at_.toNat i : Int) := by unfold distN; omega
      simp only [hardAtS, widerS]
      rw [e2]; exact this
    have k1 := (cS_le (g := g) (i := i)).2 ⟨h2.1.1, fun p hp => (key p hp).1⟩
    have k2 := (cS_ge (g := g) (i := i)).2 ⟨h2.2.2, fun p hp => (key p hp).2⟩
    have e3 : ∀ a b : SpanD, a.lo = b.lo → a.hi = b.hi → a = b := by rintro ⟨_, _⟩ ⟨_, _⟩ rfl rfl; rfl
    exact e3 _ _ (Int.le_antisymm h1.1 k1) (Int.le_antisymm k2 h1.2)
  · rw [List.getElem?_eq_none (by omega), List.getElem?_eq_none (by rw [hardL_length]; exact c)]
end Go.Proofs.Ytfmbnobkenngaaa
