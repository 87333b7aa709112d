/- Soil: mathematics of the longest stretch. -/
import Derived.Test.YtfmbnobkenngaaaHG
namespace Go.Proofs.Ytfmbnobkenngaaa
open Go.RowKit En

def runS (s : Nat → Bool) (x y : Nat) : Prop := x ≤ y ∧ ∀ i, x ≤ i → i ≤ y → s i = true
def GoodS (s : Nat → Bool) (n fr : Nat) (D : Nat → Nat → Prop) (st : LS) : Prop :=
  (st.2.2 = 0 → st = (0, 0, 0)) ∧ (0 < st.2.2 → ∃ l h : Nat, st.1 = (l : Int) ∧ st.2.1 = (h : Int) ∧ l ≤ fr ∧ h < n ∧ st.2.2 = h - l + 1 ∧ runS s l h) ∧
    ∀ x y, D x y → runS s x y → y - x + 1 < st.2.2 ∨ (y - x + 1 = st.2.2 ∧ st.1 ≤ (x : Int))
theorem innerF_good {s : Nat → Bool} {n fr : Nat} : ∀ (d : Nat) {to : Nat} {st : LS}, d = n - to → fr ≤ to → to ≤ n → (∀ i, fr ≤ i → i < to → s i = true) → GoodS s n fr (fun x y => y < n ∧ (x < fr ∨ x = fr ∧ y < to)) st →
    ((innerF s fr d to st).2 = true → GoodS s n (fr + 1) (fun x y => y < n ∧ x < fr + 1) (innerF s fr d to st).1) ∧ ((innerF s fr d to st).2 = false → fr < n → GoodS s n n (fun _ y => y < n) (innerF s fr d to st).1)
  | 0, to, st, hd, h1, h2, h3, hg => by
    obtain rfl : to = n := by omega
    refine ⟨fun h => (by cases h), fun _ hfn => ?_⟩
    obtain ⟨g1, g2, g3⟩ := hg
    refine ⟨g1, fun h => ?_, fun x y hy hr => ?_⟩
    · obtain ⟨l, h', e1, e2, e3, e4, e5, e6⟩ := g2 h
      exact ⟨l, h', e1, e2, by omega, e4, e5, e6⟩
    · have hlast := g3 fr (to - 1) ⟨by omega, .inr ⟨rfl, by omega⟩⟩ ⟨by omega, fun i a b => h3 i a (by omega)⟩
      have hxy := hr.1
      show y - x + 1 < st.2.2 ∨ (y - x + 1 = st.2.2 ∧ st.1 ≤ (x : Int))
      rcases Nat.lt_trichotomy x fr with h | h | h
      · exact g3 x y ⟨hy, .inl h⟩ hr
      · exact g3 x y ⟨hy, .inr ⟨h, hy⟩⟩ hr
      · left; omega
  | d + 1, to, st, hd, h1, h2, h3, hg => by
    have hto : to < n := by omega
    cases hs : s to with
    | false =>
      have e : innerF s fr (d + 1) to st = (st, true) := by rw [innerF, hs]; rfl
      rw [e]
      refine ⟨fun _ => ?_, fun h => (by cases h)⟩
      obtain ⟨g1, g2, g3⟩ := hg
      refine ⟨g1, fun h => ?_, fun x y hy hr => ?_⟩
      · obtain ⟨l, h', e1, e2, e3, e4, e5, e6⟩ := g2 h
        exact ⟨l, h', e1, e2, by omega, e4, e5, e6⟩
      · rcases Nat.lt_or_ge x fr with h | h
        · exact g3 x y ⟨hy.1, .inl h⟩ hr
        · obtain rfl : x = fr := by omega
          by_cases hyt : y < to
          · exact g3 x y ⟨hy.1, .inr ⟨rfl, hyt⟩⟩ hr
          · have := hr.2 to h1 (by omega)
            rw [hs] at this; cases this
    | true =>
      have h3' : ∀ i, fr ≤ i → i < to + 1 → s i = true := fun i a b => by
        rcases Nat.lt_or_ge i to with h | h
        · exact h3 i a h
        · obtain rfl : i = to := by omega
          exact hs
      by_cases hc : st.2.2 ≤ to - fr
      · have e : innerF s fr (d + 1) to st = innerF s fr d (to + 1) ((fr : Int), (to : Int), to - fr + 1) := by rw [innerF, hs, if_pos rfl, if_pos hc]
        rw [e]
        refine innerF_good d (by omega) (by omega) (by omega) h3' ?_
        obtain ⟨g1, g2, g3⟩ := hg
        refine ⟨fun h => absurd h (by show ¬ to - fr + 1 = 0; omega), fun _ => ⟨fr, to, rfl, rfl, Nat.le_refl _, hto, rfl, h1, fun i a b => h3' i a (by omega)⟩, fun x y hy hr => ?_⟩
        show y - x + 1 < to - fr + 1 ∨ (y - x + 1 = to - fr + 1 ∧ (fr : Int) ≤ (x : Int))
        by_cases hxy : x = fr ∧ y = to
        · obtain ⟨rfl, rfl⟩ := hxy
          exact .inr ⟨rfl, Int.le_refl _⟩
        · have := g3 x y ⟨hy.1, by omega⟩ hr
          left; omega
      · have e : innerF s fr (d + 1) to st = innerF s fr d (to + 1) st := by rw [innerF, hs, if_pos rfl, if_neg hc]
        rw [e]
        refine innerF_good d (by omega) (by omega) (by omega) h3' ?_
        obtain ⟨g1, g2, g3⟩ := hg
        refine ⟨g1, g2, fun x y hy hr => ?_⟩
        by_cases hxy : x = fr ∧ y = to
        · obtain ⟨rfl, rfl⟩ := hxy
          obtain ⟨l, h', e1, e2, e3, e4, e5, e6⟩ := g2 (by omega)
          by_cases he : y - x + 1 = st.2.2
          · exact .inr ⟨he, by omega⟩
          · left; omega
        · exact g3 x y ⟨hy.1, by omega⟩ hr
theorem outF_good {s : Nat → Bool} {n : Nat} : ∀ (d : Nat) {fr : Nat} {st : LS}, d = n - fr → fr ≤ n → GoodS s n fr (fun x y => y < n ∧ x < fr) st → GoodS s n n (fun _ y => y < n) (outF s n d fr st)
  | 0, fr, st, hd, h1, hg => by
    obtain rfl : fr = n := by omega
    obtain ⟨g1, g2, g3⟩ := hg
    exact ⟨g1, g2, fun x y hy hr => g3 x y ⟨hy, by have := hr.1; omega⟩ hr⟩
  | d + 1, fr, st, hd, h1, hg => by
    have hi := innerF_good (s := s) (n := n) (fr := fr) (n - fr) (to := fr) (st := st) rfl (Nat.le_refl _) h1 (fun i a b => absurd a (by omega)) (by
      obtain ⟨g1, g2, g3⟩ := hg
      exact ⟨g1, g2, fun x y hy hr => g3 x y ⟨hy.1, by have := hr.1; omega⟩ hr⟩)
    rw [outF]
    cases hb : (innerF s fr (n - fr) fr st).2 with
    | true => exact outF_good d (by omega) (by omega) (hi.1 hb)
    | false => exact hi.2 hb (by omega)
theorem longF_good (s : Nat → Bool) (n : Nat) : GoodS s n n (fun _ y => y < n) (longF s n) := outF_good n (by omega) (Nat.zero_le _) ⟨fun _ => rfl, fun h => absurd h (Nat.lt_irrefl _), fun x y h => absurd h.2 (Nat.not_lt_zero _)⟩
/-- What is told of the longest stretch. -/
theorem long_spec (s : Nat → Bool) (n : Nat) : ((longF s n).2.2 = 0 ∧ longF s n = (0, 0, 0) ∧ ∀ i, i < n → s i = false) ∨
    (0 < (longF s n).2.2 ∧ ∃ l h : Nat, (longF s n).1 = (l : Int) ∧ (longF s n).2.1 = (h : Int) ∧ l ≤ h ∧ h < n ∧ (∀ i, l ≤ i → i ≤ h → s i = true) ∧ (0 < l → s (l - 1) = false) ∧ (h + 1 < n → s (h + 1) = false) ∧ ∀ x y, x ≤ y → y < n → (∀ i, x ≤ i → i ≤ y → s i = true) → y - x < h - l ∨ (y - x = h - l ∧ l ≤ x)) := by
  obtain ⟨g1, g2, g3⟩ := longF_good s n
  rcases Nat.eq_zero_or_pos (longF s n).2.2 with h | h
  · refine .inl ⟨h, g1 h, fun i hi => ?_⟩
    cases hs : s i with
    | false => rfl
    | true =>
      have := g3 i i hi ⟨Nat.le_refl _, fun j a b => (show j = i by omega) ▸ hs⟩
      omega
  · obtain ⟨l, k, e1, e2, e3, e4, e5, e6⟩ := g2 h
    have hlk := e6.1
    have best : ∀ x y, x ≤ y → y < n → (∀ i, x ≤ i → i ≤ y → s i = true) → y - x < k - l ∨ (y - x = k - l ∧ l ≤ x) := fun x y a b c => by
      have := g3 x y b ⟨a, c⟩
      rw [e1, e5] at this
      omega
    refine .inr ⟨h, l, k, e1, e2, hlk, e4, e6.2, fun h0 => ?_, fun h0 => ?_, best⟩
    · cases hs : s (l - 1) with
      | false => rfl
      | true =>
        have := best (l - 1) k (by omega) e4 (fun i a b => by
          by_cases hi : i = l - 1
          · rw [hi]; exact hs
          · exact e6.2 i (by omega) b)
        omega
    · cases hs : s (k + 1) with
      | false => rfl
      | true =>
        have := best l (k + 1) (by omega) h0 (fun i a b => by
          by_cases hi : i = k + 1
          · rw [hi]; exact hs
          · exact e6.2 i a (by omega))
        omega
end Go.Proofs.Ytfmbnobkenngaaa
