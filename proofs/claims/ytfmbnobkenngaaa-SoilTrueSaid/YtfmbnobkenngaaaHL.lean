/- Soil: a ground that is measured from its other end. -/
import Derived.Test.YtfmbnobkenngaaaHK
import Derived.Test.YtfmbnobkenngaaaHI
namespace Go.Proofs.Ytfmbnobkenngaaa
open Go.RowKit En

def turnP (n : Int) (p : PitD) : PitD := { p with at_ := n - p.at_ }
def turnG (g : GroundD) : GroundD := { g with pits := (g.pits.map (turnP g.long)).reverse }
theorem turnP_turnP (n : Int) (p : PitD) : turnP n (turnP n p) = p := by
  obtain ⟨a, h, s, t, c⟩ := p
  simp only [turnP, PitD.mk.injEq, and_true]; omega
theorem turn_turn (g : GroundD) : turnG (turnG g) = g := by
  obtain ⟨l, r, c, ps⟩ := g
  simp only [turnG, List.map_reverse, List.reverse_reverse, List.map_map, GroundD.mk.injEq, true_and]
  have : turnP l ∘ turnP l = id := funext fun p => turnP_turnP l p
  rw [this, List.map_id]
theorem mem_turn {g : GroundD} {p : PitD} : p ∈ (turnG g).pits ↔ ∃ q ∈ g.pits, turnP g.long q = p := by
  simp [turnG]
theorem turn_len (g : GroundD) : (turnG g).pits.length = g.pits.length := by simp [turnG]
theorem pitsB_pair_of {long : Int} : ∀ (l : List PitD) (bef : Int), l.Pairwise (fun p q => p.at_ < q.at_) → (∀ p ∈ l, bef < p.at_ ∧ p.at_ ≤ long ∧ pitB p = true) → pitsB long bef l = true
  | [], _, _, _ => rfl
  | a :: r, bef, ho, h => by
    obtain ⟨h1, h2, h3⟩ := h a (by simp)
    obtain ⟨o1, o2⟩ := List.pairwise_cons.1 ho
    simp only [pitsB, Bool.and_eq_true, Bool.not_eq_true', decide_eq_false_iff_not]
    refine ⟨⟨⟨by omega, by omega⟩, h3⟩, pitsB_pair_of r a.at_ o2 fun p hp => ?_⟩
    exact ⟨o1 p hp, (h p (by simp [hp])).2⟩
theorem VG.valid {g : GroundD} (h : VG g) : validB g = true := by
  have hp := pitsB_pair_of (long := g.long) g.pits (-1) h.ord (fun p hp => by
    obtain ⟨q1, q2⟩ := h.v.pits p hp
    exact ⟨by omega, q1.2, q2⟩)
  obtain ⟨⟨l1, r1, c1, n1, _⟩, _⟩ := h
  simp only [validB, upToB, hp, Bool.and_eq_true, decide_eq_true_eq]
  exact ⟨⟨⟨⟨l1, r1⟩, c1⟩, n1⟩, trivial⟩
theorem VG.turn {g : GroundD} (h : VG g) : VG (turnG g) := by
  refine ⟨⟨h.v.long, h.v.rise, h.v.change, by rw [turn_len]; exact h.v.len, fun p hp => ?_⟩, ?_⟩
  · obtain ⟨q, hq, rfl⟩ := mem_turn.1 hp
    obtain ⟨h1, h2⟩ := h.v.pits q hq
    exact ⟨by show 0 ≤ g.long - q.at_ ∧ g.long - q.at_ ≤ g.long; omega, h2⟩
  · show ((g.pits.map (turnP g.long)).reverse).Pairwise _
    rw [List.pairwise_reverse, List.pairwise_map]
    exact h.ord.imp fun {a b} hab => by show g.long - b.at_ < g.long - a.at_; omega
theorem truthH_turn {g : GroundD} (h : VG g) {H : Nat → Int} (hH : TruthH g H) : TruthH (turnG g) (fun j => H (placesN g - 1 - j)) := by
  have hlong := h.v.long
  have hpl : (placesN g : Int) = g.long + 1 := by unfold placesN; omega
  intro j hj
  have hj' : j < placesN g := hj
  obtain ⟨h1, h2, h3⟩ := hH (placesN g - 1 - j) (by omega)
  refine ⟨h1, fun p hp e => ?_, fun hj1 => ?_⟩
  · obtain ⟨q, hq, rfl⟩ := mem_turn.1 hp
    have e' : g.long - q.at_ = (j : Int) := e
    exact h2 q hq (by omega)
  · have hj1' : j + 1 < placesN g := hj1
    have := (hH (placesN g - 1 - (j + 1)) (by omega)).2.2 (by omega)
    rw [show placesN g - 1 - (j + 1) + 1 = placesN g - 1 - j by omega] at this
    exact ⟨this.2, this.1⟩
theorem truthP_turn {g : GroundD} (h : VG g) {T : Nat → S3} (hT : TruthP g T) : TruthP (turnG g) (fun j => T (placesN g - 1 - j)) := by
  have hlong := h.v.long
  have hpl : (placesN g : Int) = g.long + 1 := by unfold placesN; omega
  intro j hj
  have hj' : j < placesN g := hj
  obtain ⟨h1, h2, h3⟩ := hT (placesN g - 1 - j) (by omega)
  refine ⟨h1, fun p hp e => ?_, fun hj1 => ?_⟩
  · obtain ⟨q, hq, rfl⟩ := mem_turn.1 hp
    have e' : g.long - q.at_ = (j : Int) := e
    exact h2 q hq (by omega)
  · have hj1' : j + 1 < placesN g := hj1
    have := (hT (placesN g - 1 - (j + 1)) (by omega)).2.2 (by omega)
    rw [show placesN g - 1 - (j + 1) + 1 = placesN g - 1 - j by omega] at this
    exact this.symm
theorem look_turn1 {g : GroundD} (h : VG g) (ho : lookOk g = true) : lookOk (turnG g) = true := by
  obtain ⟨⟨H, hH⟩, ⟨T, hT⟩⟩ := (lookOk_iff h).1 ho
  exact (lookOk_iff h.turn).2 ⟨⟨_, truthH_turn h hH⟩, ⟨_, truthP_turn h hT⟩⟩
theorem look_turn {g : GroundD} (h : VG g) : lookOk (turnG g) = lookOk g := by
  rw [Bool.eq_iff_iff]
  refine ⟨fun ho => ?_, look_turn1 h⟩
  have := look_turn1 h.turn ho
  rwa [turn_turn] at this
theorem hard_turn1 {g : GroundD} (h : VG g) (ho : lookOk (turnG g) = true) {k : Nat} (hk : k < placesN g) : (cS g k).lo ≤ (cS (turnG g) (placesN g - 1 - k)).lo ∧ (cS (turnG g) (placesN g - 1 - k)).hi ≤ (cS g k).hi :=
  hard_sub h h.turn (lookOk_hard ho) hk (by show placesN g - 1 - k < placesN g; omega) fun H hH => by
    have := truthH_turn h.turn hH
    rw [turn_turn] at this
    exact ⟨_, this, rfl⟩
theorem hard_turn {g : GroundD} (h : VG g) (ho : lookOk g = true) {k : Nat} (hk : k < placesN g) : cS (turnG g) (placesN g - 1 - k) = cS g k := by
  have h1 := hard_turn1 h (look_turn1 h ho) hk
  have h2 := hard_turn1 h.turn (by rw [turn_turn]; exact ho) (k := placesN g - 1 - k) (by show placesN g - 1 - k < placesN g; omega)
  have e : placesN (turnG g) - 1 - (placesN g - 1 - k) = k := by show placesN g - 1 - (placesN g - 1 - k) = k; omega
  rw [turn_turn, e] at h2
  generalize cS (turnG g) (placesN g - 1 - k) = a at *
  generalize cS g k = b at *
  obtain ⟨a1, a2⟩ := a
  obtain ⟨b1, b2⟩ := b
  simp only [SpanD.mk.injEq] at *
  omega
theorem mix_turn1 {g : GroundD} (h : VG g) (ho : lookOk (turnG g) = true) {k : Nat} (hk : k < placesN g) : ∀ s, sum20 s → InM ((soilsL (turnG g)).getD (placesN g - 1 - k) noMix) s → InM ((soilsL g).getD k noMix) s :=
  soils_sub h h.turn (lookOk_soils (by rw [look_turn h] at ho; exact ho)) (lookOk_soils ho) hk (by show placesN g - 1 - k < placesN g; omega) fun T hT => by
    have := truthP_turn h.turn hT
    rw [turn_turn] at this
    exact ⟨_, this, rfl⟩
theorem mix_turn {g : GroundD} (h : VG g) (ho : lookOk g = true) {k : Nat} (hk : k < placesN g) : (soilsL (turnG g)).getD (placesN g - 1 - k) noMix = (soilsL g).getD k noMix := by
  have h1 := mix_turn1 h (look_turn1 h ho) hk
  have h2 := mix_turn1 h.turn (by rw [turn_turn]; exact ho) (k := placesN g - 1 - k) (by show placesN g - 1 - k < placesN g; omega)
  have e : placesN (turnG g) - 1 - (placesN g - 1 - k) = k := by show placesN g - 1 - (placesN g - 1 - k) = k; omega
  rw [turn_turn, e] at h2
  exact mix_ext (soils_tight (lookOk_soils (look_turn1 h ho)) (by show placesN g - 1 - k < placesN g; omega)) (soils_tight (lookOk_soils ho) hk) h1 h2
/-! In the numbers of the law. -/
theorem hardC_turn {g : GroundD} (h : VG g) (ho : lookOk g = true) {k : Int} (h0 : 0 ≤ k) (h1 : k ≤ g.long) : hardC (turnG g) (g.long - k) = hardC g k := by
  have hk : k.toNat < placesN g := by unfold placesN; omega
  have := hard_turn h ho hk
  unfold hardC
  rw [show (g.long - k).toNat = placesN g - 1 - k.toNat by unfold placesN; omega]
  exact this
theorem mixC_turn {g : GroundD} (h : VG g) (ho : lookOk g = true) {k : Int} (h0 : 0 ≤ k) (h1 : k ≤ g.long) : (soilsL (turnG g)).getD (g.long - k).toNat noMix = (soilsL g).getD k.toNat noMix := by
  have hk : k.toNat < placesN g := by unfold placesN; omega
  rw [show (g.long - k).toNat = placesN g - 1 - k.toNat by unfold placesN; omega]
  exact mix_turn h ho hk
theorem hardL_turn {g : GroundD} (h : VG g) (ho : lookOk g = true) : hardL (turnG g) = (hardL g).reverse := by
  apply List.ext_getElem
  · rw [List.length_reverse, hardL_length, hardL_length]; rfl
  · intro i h1 h2
    have hi : i < placesN g := by rw [hardL_length] at h1; exact h1
    have e1 := hardL_get (g := turnG g) i hi
    have e2 := hardL_get (g := g) (placesN g - 1 - i) (by omega)
    rw [List.getElem?_eq_getElem h1] at e1
    rw [List.getElem?_eq_getElem (by rw [hardL_length]; show placesN g - 1 - i < placesN g; omega)] at e2
    rw [List.getElem_reverse]
    have e3 : (hardL g).length - 1 - i = placesN g - 1 - i := by rw [hardL_length]; rfl
    have e4 : (hardL g)[(hardL g).length - 1 - i]'(by rw [hardL_length]; show (g.long + 1).toNat - 1 - i < (g.long + 1).toNat; unfold placesN at hi; omega) = (hardL g)[placesN g - 1 - i]'(by rw [hardL_length]; show placesN g - 1 - i < placesN g; omega) := by congr 1
    rw [e4, Option.some.inj e1, Option.some.inj e2]
    have := hard_turn h ho (k := placesN g - 1 - i) (by omega)
    rw [show placesN g - 1 - (placesN g - 1 - i) = i by omega] at this
    exact this
theorem sumS_reverse (l : List SpanD) : sumS l.reverse = sumS l := by
  simp [sumS, List.sum_reverse]
theorem sumR_turn {g : GroundD} (h : VG g) (ho : lookOk g = true) {k : Int} (h0 : 0 ≤ k) (h1 : k ≤ g.long) : sumR (turnG g) (g.long - k) g.long = sumR g 0 k := by
  unfold sumR midS
  rw [hardL_turn h ho, List.drop_reverse]
  have hl := hardL_length g
  rw [show (hardL g).length - (g.long - k).toNat = k.toNat + 1 by omega, show g.long.toNat + 1 - (g.long - k).toNat = k.toNat + 1 by omega]
  have e : ((hardL g).take (k.toNat + 1)).reverse.length = k.toNat + 1 := by rw [List.length_reverse, List.length_take]; omega
  rw [List.take_of_length_le (by rw [e]; omega), sumS_reverse]
  simp
theorem long_le {s s' : Nat → Bool} {n : Nat} (h : ∀ i, i < n → s' i = s (n - 1 - i)) {l k : Nat} (h1 : l ≤ k) (h2 : k < n) (h3 : ∀ i, l ≤ i → i ≤ k → s i = true) : ∀ i, n - 1 - k ≤ i → i ≤ n - 1 - l → s' i = true := fun i a b => by
  rw [h i (by omega)]
  exact h3 _ (by omega) (by omega)
theorem long_turn {s s' : Nat → Bool} {n : Nat} (h : ∀ i, i < n → s' i = s (n - 1 - i)) : (¬ 0 < (longF s n).2.2 ∧ ¬ 0 < (longF s' n).2.2) ∨ (0 < (longF s n).2.2 ∧ 0 < (longF s' n).2.2 ∧ (longF s n).2.1 - (longF s n).1 = (longF s' n).2.1 - (longF s' n).1) := by
  have h' : ∀ i, i < n → s i = s' (n - 1 - i) := fun i hi => by
    rw [h (n - 1 - i) (by omega), show n - 1 - (n - 1 - i) = i by omega]
  rcases long_spec s n with ⟨a1, a2, a3⟩ | ⟨a1, l, k, a2, a3, a4, a5, a6, _, _, a7⟩ <;> rcases long_spec s' n with ⟨b1, b2, b3⟩ | ⟨b1, l', k', b2, b3, b4, b5, b6, _, _, b7⟩
  · exact .inl ⟨by omega, by omega⟩
  · exfalso
    have := b6 l' (Nat.le_refl _) b4
    rw [h l' (by omega), a3 _ (by omega)] at this
    cases this
  · exfalso
    have := a6 l (Nat.le_refl _) a4
    rw [h' l (by omega), b3 _ (by omega)] at this
    cases this
  · refine .inr ⟨a1, b1, ?_⟩
    have q1 := b7 (n - 1 - k) (n - 1 - l) (by omega) (by omega) (long_le h a4 a5 a6)
    have q2 := a7 (n - 1 - k') (n - 1 - l') (by omega) (by omega) (long_le h' b4 b5 b6)
    omega
theorem sure_turn {g : GroundD} (h : VG g) (ho : lookOk g = true) (c : Nat) : ∀ i, i < placesN g → sureB (soilsL (turnG g)) c i = sureB (soilsL g) c (placesN g - 1 - i) := fun i hi => by
  have := mix_turn h ho (k := placesN g - 1 - i) (by omega)
  rw [show placesN g - 1 - (placesN g - 1 - i) = i by omega] at this
  unfold sureB
  rw [this]
theorem longG_turn {g : GroundD} (h : VG g) (ho : lookOk g = true) (c : Nat) : (¬ 0 < (longG g c).2.2 ∧ ¬ 0 < (longG (turnG g) c).2.2) ∨ (0 < (longG g c).2.2 ∧ 0 < (longG (turnG g) c).2.2 ∧ (longG g c).2.1 - (longG g c).1 = (longG (turnG g) c).2.1 - (longG (turnG g) c).1) :=
  long_turn (sure_turn h ho c)
theorem longG_bound {g : GroundD} (c : Nat) : 0 ≤ (longG g c).1 ∧ (longG g c).1 ≤ (longG g c).2.1 ∧ (longG g c).2.1 ≤ (placesN g : Int) := by
  rcases long_spec (sureB (soilsL g) c) (placesN g) with ⟨a1, a2, a3⟩ | ⟨a1, l, k, a2, a3, a4, a5, _⟩
  · rw [longG, a2]; simp
  · rw [longG, a2, a3]; omega
theorem VG.without {g : GroundD} (h : VG g) (i : Nat) : VG (withoutG g i) := by
  refine ⟨h.v.without i, ?_⟩
  rw [without_pits, ← List.eraseIdx_eq_take_drop_succ]
  exact h.ord.sublist (List.eraseIdx_sublist _ _)
theorem without_turn {g : GroundD} {z : Nat} (hz : z < g.pits.length) : withoutG (turnG g) (g.pits.length - 1 - z) = turnG (withoutG g z) := by
  have e1 : (withoutG (turnG g) (g.pits.length - 1 - z)).pits = (turnG (withoutG g z)).pits := by
    rw [without_pits]
    show ((g.pits.map (turnP g.long)).reverse).take _ ++ ((g.pits.map (turnP g.long)).reverse).drop _ = (((withoutG g z).pits).map (turnP g.long)).reverse
    rw [without_pits, List.map_append, List.reverse_append, List.take_reverse, List.drop_reverse, List.length_map, ← List.map_drop, ← List.map_take]
    rw [show g.pits.length - (g.pits.length - 1 - z) = z + 1 by omega, show g.pits.length - (g.pits.length - 1 - z + 1) = z by omega]
  have e2 : ∀ a b : GroundD, a.long = b.long → a.rise = b.rise → a.change = b.change → a.pits = b.pits → a = b := by
    rintro ⟨_, _, _, _⟩ ⟨_, _, _, _⟩ rfl rfl rfl rfl; rfl
  exact e2 _ _ rfl rfl rfl e1
theorem oddF_bit (g : GroundD) (z : Nat) : ∀ k, (oddF g k).testBit z = (decide (z < k) && lookOk (withoutG g z))
  | 0 => by simp [oddF]
  | k + 1 => by
    have ih := oddF_bit g z k
    unfold oddF
    cases hl : lookOk (withoutG g k)
    · simp only [Bool.false_eq_true, if_false]
      rw [ih]
      by_cases hz : z = k
      · subst hz; simp [hl]
      · have : decide (z < k + 1) = decide (z < k) := by simp only [decide_eq_decide]; omega
        rw [this]
    · simp only [if_true]
      rw [Nat.testBit_or, ih, Nat.testBit_two_pow]
      by_cases hz : z = k
      · subst hz; simp [hl]
      · have : decide (z < k + 1) = decide (z < k) := by simp only [decide_eq_decide]; omega
        rw [this]; simp [show ¬ k = z from fun e => hz e.symm]
theorem odd_turn {g : GroundD} (h : VG g) {z : Nat} (hz : z < g.pits.length) : (oddF (turnG g) (turnG g).pits.length).testBit (g.pits.length - 1 - z) = (oddF g g.pits.length).testBit z := by
  rw [oddF_bit, oddF_bit, turn_len, without_turn hz, look_turn (h.without z)]
  have e1 : decide (z < g.pits.length) = true := decide_eq_true hz
  have e2 : decide (g.pits.length - 1 - z < g.pits.length) = true := decide_eq_true (by omega)
  rw [e1, e2]
end Go.Proofs.Ytfmbnobkenngaaa
