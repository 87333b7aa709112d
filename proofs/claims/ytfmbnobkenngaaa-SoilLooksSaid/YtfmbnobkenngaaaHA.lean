/- Soil: mathematics of hardness, of sums, and of the widest place. -/
import Derived.Test.YtfmbnobkenngaaaGX
import Derived.Test.YtfmbnobkenngaaaGT
namespace Go.Proofs.Ytfmbnobkenngaaa
open Go.RowKit En
theorem foldl_max_near {α : Type} {f h : α → Int} {r : Int} : ∀ (l : List α) {a b : Int}, a - b ≤ r → (∀ v ∈ l, f v - h v ≤ r) → (l.map f).foldl max a - (l.map h).foldl max b ≤ r
  | [], a, b, hab, _ => hab
  | v :: l, a, b, hab, hl => by
    have hv := hl v (by simp)
    simp only [List.map_cons, List.foldl_cons]
    exact foldl_max_near l (by omega) (fun u hu => hl u (by simp [hu]))
theorem foldl_min_near {α : Type} {f h : α → Int} {r : Int} : ∀ (l : List α) {a b : Int}, a - b ≤ r → (∀ v ∈ l, f v - h v ≤ r) → (l.map f).foldl min a - (l.map h).foldl min b ≤ r
  | [], a, b, hab, _ => hab
  | v :: l, a, b, hab, hl => by
    have hv := hl v (by simp)
    simp only [List.map_cons, List.foldl_cons]
    exact foldl_min_near l (by omega) (fun u hu => hl u (by simp [hu]))
theorem common_lo (g : GroundD) (n : Int) : (commonS (voicesL g) n).lo = (g.pits.map fun p => (hardAtS (.pit p g.rise) n).lo).foldl max 0 := by
  simp [commonS, voicesL, maxL, hardAtS, List.map_map, Function.comp_def]
theorem common_hi (g : GroundD) (n : Int) : (commonS (voicesL g) n).hi = (g.pits.map fun p => (hardAtS (.pit p g.rise) n).hi).foldl min 1000 := by
  simp [commonS, voicesL, minL, hardAtS, List.map_map, Function.comp_def]
theorem mul_near {r u v : Int} (hr : 0 ≤ r) (h : u ≤ v + 1) : r * u ≤ r * v + r := by
  have := Int.mul_le_mul_of_nonneg_left h hr
  rwa [Int.mul_add, Int.mul_one] at this
theorem common_near {g : GroundD} (hr : 0 ≤ g.rise) {n m : Int} (h1 : n - m ≤ 1) (h2 : m - n ≤ 1) :
    (commonS (voicesL g) n).lo - (commonS (voicesL g) m).lo ≤ g.rise ∧ (commonS (voicesL g) n).hi - (commonS (voicesL g) m).hi ≤ g.rise := by
  rw [common_lo, common_lo, common_hi, common_hi]
  refine ⟨foldl_max_near _ (by omega) fun p _ => ?_, foldl_min_near _ (by omega) fun p _ => ?_⟩
  · have := mul_near (r := g.rise) (u := max (m - p.at_) (p.at_ - m)) (v := max (n - p.at_) (p.at_ - n)) hr (by omega)
    simp only [hardAtS, widerS]
    omega
  · have := mul_near (r := g.rise) (u := max (n - p.at_) (p.at_ - n)) (v := max (m - p.at_) (p.at_ - m)) hr (by omega)
    simp only [hardAtS, widerS]
    omega
theorem hardOk_at {g : GroundD} (h : hardOk g = true) {k : Nat} (hk : k < placesN g) : (commonS (voicesL g) (k : Int)).lo ≤ (commonS (voicesL g) (k : Int)).hi := by
  have := List.all_eq_true.1 h _ (List.mem_of_getElem? (hardL_at hk))
  simpa using this
theorem lookOk_hard {g : GroundD} (h : lookOk g = true) : hardOk g = true := by
  simp only [lookOk, Bool.and_eq_true] at h; exact h.1
theorem midS_split {L : List SpanD} {a b c : Nat} (h1 : a ≤ b) (h2 : b ≤ c) : midS L a c = midS L a b ++ midS L b c := by
  unfold midS
  have e : c - a = (b - a) + (c - b) := by omega
  rw [e, List.take_add, List.drop_drop]
  rw [show a + (b - a) = b by omega]
theorem midS_one {L : List SpanD} {k : Nat} {s : SpanD} (h : L[k]? = some s) : midS L k (k + 1) = [s] := by
  obtain ⟨hk, rfl⟩ := List.getElem?_eq_some_iff.1 h
  unfold midS
  rw [List.drop_eq_getElem_cons hk, show k + 1 - k = 1 by omega]
  rfl
theorem sumS_append (a b : List SpanD) : sumS (a ++ b) = ⟨(sumS a).lo + (sumS b).lo, (sumS a).hi + (sumS b).hi⟩ := by
  simp [sumS, List.sum_append]
theorem sumS_one (s : SpanD) : sumS [s] = s := by simp [sumS]
end Go.Proofs.Ytfmbnobkenngaaa
