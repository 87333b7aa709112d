/- Soil: mathematics of hardness, of sums, and of the widest place. -/
import Derived.Test.YtfmbnobkenngaaaGX
import Derived.Test.YtfmbnobkenngaaaGT
namespace Go.Proofs.Ytfmbnobkenngaaa
open Go.RowKit En
theorem foldl_max_near {α : Type} {f h : α → Int} {r : Int} : ∀ (l : List α) {a b : Int}, a - b ≤ r → (∀ v ∈ l, f v - h v ≤ r) → (l.map f).foldl max a - (l.map h).foldl max b ≤ r
  | [], a, b, hab, _ => hab
  | v :: l, a, b, hab, hl => by
    have hv := hl v (by simp)
    simp only [List.map_cons, List.foldl_cons]
    exact foldl_max_near l (by omega) (fun u hu => hl u (by simp [hu]))
theorem foldl_min_near {α : Type} {f h : α → Int} {r : Int} : ∀ (l : List α) {a b : Int}, a - b ≤ r → (∀ v ∈ l, f v - h v ≤ r) → (l.map f).foldl min a - (l.map h).foldl min b ≤ r
  | [], a, b, hab, _ => hab
  | v :: l, a, b, hab, hl => by
    have hv := hl v (by simp)
    simp only [List.map_cons, List.foldl_cons]
    exact foldl_min_near l (by omega) (fun u hu => hl u (by simp [hu]))
theorem common_lo (g : GroundD) (n : Int) : (commonS (voicesL g) n).lo = (g.pits.map fun p => (hardAtS (.pit p g.rise) n).lo).foldl max 0 := by
  simp [commonS, voicesL, maxL, hardAtS, List.map_map, Function.comp_def]
theorem common_hi (g : GroundD) (n : Int) : (commonS (voicesL g) n).hi = (g.pits.map fun p => (hardAtS (.pit p g.rise) n).hi).foldl min 1000 := by
  simp [commonS, voicesL, minL, hardAtS, List.map_map, Function.comp_def]
theorem mul_near {r u v : Int} (hr : 0 ≤ r) (h : u ≤ v + 1) : r * u ≤ r * v + r := by
  have := Int.mul_le_mul_of_nonneg_left h hr
  rwa [Int.mul_add, Int.mul_one] at this
theorem common_near {g : GroundD} (hr : 0 ≤ g.rise) {n m : Int} (h1 : n - m ≤ 1) (h2 : m - n ≤ 1) :
    (commonS (voicesL g) n).lo - (commonS (voicesL g) m).lo ≤ g.rise ∧ (commonS (voicesL g) n).hi - (commonS (voicesL g) m).hi ≤ g.rise := by
  rw [common_lo, common_lo, common_hi, common_hi]
  refine ⟨foldl_max_near _ (by omega) fun p _ => ?_, foldl_min_near _ (by omega) fun p _ => ?_⟩
  · have := mul_near (r := g.rise) (u := max (m - p.at_) (p.at_ - m)) (v := max (n - p.at_) (p.at_ - n)) hr (by omega)
    simp only [hardAtS, widerS]
    omega
  · have := mul_near (r := g.rise) (u := max (n - p.at_) (p.at_ - n)) (v := max (m - p.at_) (p.at_ - m)) hr (by omega)
    simp only [hardAtS, widerS]
    omega
theorem hardOk_at {g : GroundD} (h : hardOk g = true) {k : Nat} (hk : k < placesN g) : (commonS (voicesL g) (k : Int)).lo ≤ (commonS (voicesL g) (k : Int)).hi := by
  have := List.all_eq_true.1 h _ (List.mem_of_getElem? (hardL_at hk))
  simpa using this
theorem lookOk_hard {g : GroundD} (h : lookOk g = true) : hardOk g = true := by
  simp only [lookOk, Bool.and_eq_true] at h; exact h.1
/-- What a check says of places that there are. -/
theorem checkE_in {g : GroundD} (hv : validB g = true) {l : List Int} (h : ∀ n ∈ l, 0 ≤ n ∧ n ≤ g.long) : checkE g l = none := by
  have : l.all (fun n => upToB n g.long) = true := by
    rw [List.all_eq_true]
    intro n hn
    have := h n hn
    simp [upToB, this.1, this.2]
  simp [checkE, hv, this]
theorem hardE_in {g : GroundD} (hv : validB g = true) {l : List Int} (h : ∀ n ∈ l, 0 ≤ n ∧ n ≤ g.long) : hardE g l = if lookOk g then none else some 10 := by
  simp [hardE, checkE_in hv h]
theorem workE_in {g : GroundD} (hv : validB g = true) {x y : Int} (hx : 0 ≤ x) (hxy : x ≤ y) (hy : y ≤ g.long) : workE g x y = if lookOk g then none else some 10 := by
  have h1 : ¬ y < x := by omega
  simp [workE, checkE_in hv (l := [x, y]) (by intro n hn; simp at hn; omega), h1]
/-- Work from behind a place to it is out of range. -/
theorem workE_back {g : GroundD} (hv : validB g = true) {z : Int} : workE g (z + 1) z = some 2 := by
  unfold workE
  have h1 : z < z + 1 := by omega
  cases hc : checkE g [z + 1, z] with
  | none => simp [h1]
  | some n =>
    simp only [checkE, hv, if_true] at hc
    split at hc
    · cases hc
    · exact hc.symm
theorem midS_split {L : List SpanD} {a b c : Nat} (h1 : a ≤ b) (h2 : b ≤ c) : midS L a c = midS L a b ++ midS L b c := by
  unfold midS
  have e : c - a = (b - a) + (c - b) := by omega
  rw [e, List.take_add, List.drop_drop]
  rw [show a + (b - a) = b by omega]
theorem midS_one {L : List SpanD} {k : Nat} {s : SpanD} (h : L[k]? = some s) : midS L k (k + 1) = [s] := by
  obtain ⟨hk, rfl⟩ := List.getElem?_eq_some_iff.1 h
  unfold midS
  rw [List.drop_eq_getElem_cons hk, show k + 1 - k = 1 by omega]
  rfl
theorem sumS_append (a b : List SpanD) : sumS (a ++ b) = ⟨(sumS a).lo + (sumS b).lo, (sumS a).hi + (sumS b).hi⟩ := by
  simp [sumS, List.sum_append]
theorem sumS_one (s : SpanD) : sumS [s] = s := by simp [sumS]
theorem widF_spec {L : List SpanD} (h0 : ∀ s ∈ L, s.lo ≤ s.hi) : ∀ k, k ≤ L.length → (∀ j s, j < k → L[j]? = some s → s.hi - s.lo ≤ (widF L k).2 ∧ (s.hi - s.lo = (widF L k).2 → (widF L k).1 ≤ (j : Int)) ∧ ((j : Int) = (widF L k).1 → s.hi - s.lo = (widF L k).2)) ∧ (0 < k → 0 ≤ (widF L k).1 ∧ (widF L k).1 < (k : Int)) ∧ (k = 0 → (widF L k).2 = -1)
  | 0, _ => ⟨fun j s h => absurd h (Nat.not_lt_zero j), fun h => absurd h (Nat.lt_irrefl 0), fun _ => rfl⟩
  | k + 1, hk => by
    obtain ⟨i1, i2, i3⟩ := widF_spec h0 k (by omega)
    obtain ⟨s, hs⟩ : ∃ s, L[k]? = some s := ⟨_, List.getElem?_eq_getElem (by omega)⟩
    have hs0 := h0 s (List.mem_of_getElem? hs)
    rw [widF_succ hs]
    by_cases hw : (widF L k).2 < s.hi - s.lo
    · rw [if_pos hw]
      refine ⟨fun j t hj ht => ?_, fun _ => ⟨by simp only; omega, by simp only; omega⟩, fun h => absurd h (by omega)⟩
      rcases Nat.lt_succ_iff_lt_or_eq.1 hj with h | rfl
      · obtain ⟨q1, q2, q3⟩ := i1 j t h ht
        dsimp only
        exact ⟨by omega, fun _ => by omega, fun _ => by omega⟩
      · rw [hs] at ht; cases ht
        dsimp only
        exact ⟨Int.le_refl _, fun _ => Int.le_refl _, fun _ => rfl⟩
    · rw [if_neg hw]
      have hk0 : 0 < k := by
        rcases Nat.eq_zero_or_pos k with h | h
        · have := i3 h; omega
        · exact h
      obtain ⟨j1, j2⟩ := i2 hk0
      refine ⟨fun j t hj ht => ?_, fun _ => ⟨j1, by omega⟩, fun h => absurd h (by omega)⟩
      rcases Nat.lt_succ_iff_lt_or_eq.1 hj with h | rfl
      · exact i1 j t h ht
      · rw [hs] at ht; cases ht
        exact ⟨by omega, fun _ => by omega, fun _ => by omega⟩
end Go.Proofs.Ytfmbnobkenngaaa
