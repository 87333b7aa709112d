/- Package peg: what a truth is, without lists. -/
import Derived.Test.YtkjciobphbcknaaAL
namespace Go.Proofs.Ytkjciobphbcknaa
open Go.RowKit

theorem Pl.ext' {a b : Pl} (h1 : a.x = b.x) (h2 : a.y = b.y) : a = b := by
  obtain ⟨x, y⟩ := a; obtain ⟨x', y'⟩ := b; simp at h1 h2; rw [h1, h2]
theorem mem_rectL {xlo xhi ylo yhi : Int} {s : Pl} : s ∈ rectL xlo xhi ylo yhi ↔ xlo ≤ s.x ∧ s.x ≤ xhi ∧ ylo ≤ s.y ∧ s.y ≤ yhi := by
  simp only [rectL, colsL, colL, List.mem_flatMap, List.mem_range, List.mem_map]
  constructor
  · rintro ⟨i, hi, j, hj, rfl⟩
    exact ⟨by simp <;> omega, by simp; omega, by simp <;> omega, by simp; omega⟩
  · rintro ⟨h1, h2, h3, h4⟩
    exact ⟨(s.x - xlo).toNat, by omega, (s.y - ylo).toNat, by omega, Pl.ext' (by simp; omega) (by simp; omega)⟩
/-- Is a place at a post? -/
def atPost (q : Post) (s : Pl) : Prop := q.xlo ≤ s.x ∧ s.x ≤ q.xhi ∧ q.ylo ≤ s.y ∧ s.y ≤ q.yhi
instance (q : Post) (s : Pl) : Decidable (atPost q s) := by unfold atPost; infer_instance
/-- Is a place one of the field? -/
def inField (side : Int) (s : Pl) : Prop := 0 ≤ s.x ∧ s.x ≤ side ∧ 0 ≤ s.y ∧ s.y ≤ side
instance (n : Int) (s : Pl) : Decidable (inField n s) := by unfold inField; infer_instance
theorem mem_fieldL {side : Int} {s : Pl} : s ∈ fieldL side ↔ inField side s := by rw [fieldL, mem_rectL]; rfl
theorem mem_homeL {p : PegsD} {i : Nat} {s : Pl} : s ∈ homeL p i ↔ ∃ q, p.ps[i]? = some q ∧ atPost q s := by
  unfold homeL
  cases h : p.ps[i]? with
  | none => simp
  | some q => simp only [mem_rectL, Option.some.injEq]; exact ⟨fun h => ⟨q, rfl, h⟩, fun ⟨_, e, h⟩ => e ▸ h⟩
theorem mem_awayL {p : PegsD} {i : Nat} {s : Pl} : s ∈ awayL p i ↔ inField p.side s ∧ ¬ ∃ q, p.ps[i]? = some q ∧ atPost q s := by
  unfold awayL
  rw [List.mem_filter, mem_fieldL, ← mem_homeL]
  simp

theorem mem_putL {p : PegsD} (hf : lensFit p) (moved : Int) (n : Nat) (hn : n ≤ 4) : ∀ (m k : Nat) (t u : At), k + m = n →
    (u ∈ putL p moved m k t ↔ Agree k n t u ∧ (∀ i, k ≤ i → i < n → u.get i ∈ hereL p moved i) ∧ ∀ i : Nat, k ≤ i → i < n → lensRightB p.ls u i = true) := by
  intro m
  induction m with
  | zero =>
    intro k t u hk
    obtain rfl : k = n := by omega
    rw [putL, List.mem_singleton]
    constructor
    · rintro rfl
      exact ⟨Agree.refl _ _ _, fun i h1 h2 => by omega, fun i h1 h2 => by omega⟩
    · rintro ⟨h, _⟩
      exact (At.ext fun i hi => h i hi (by omega)).symm
  | succ m ih =>
    intro k t u hk
    have hk4 : k < 4 := by omega
    rw [putL, List.mem_flatMap]
    constructor
    · rintro ⟨s, hs, h⟩
      split at h
      · rename_i hr
        obtain ⟨h1, h2, h3⟩ := (ih (k + 1) _ u (by omega)).1 h
        have es : s = u.get k := by
          have := h1 k hk4 (by omega)
          rw [At.get_set hk4 k hk4, if_pos rfl] at this
          exact this
        refine ⟨(Agree.refl k n t).back hk4 h1 (by omega), fun i a b => ?_, fun i a b => ?_⟩
        · by_cases e : i = k
          · subst e; rw [← es]; exact hs
          · exact h2 i (by omega) b
        · by_cases e : i = k
          · subst e; rw [← lensRight_agree hf h1]; exact hr
          · exact h3 i (by omega) b
      · simp at h
    · rintro ⟨h1, h2, h3⟩
      have hag : Agree (k + 1) n (t.set k (u.get k)) u := fun i hi hc => by
        rw [At.get_set hk4 i hi]
        split
        · rename_i e; rw [e]
        · exact h1 i hi (by omega)
      refine ⟨u.get k, h2 k (by omega) (by omega), ?_⟩
      rw [if_pos (by rw [lensRight_agree hf hag]; exact h3 k (by omega) (by omega))]
      exact (ih (k + 1) _ u (by omega)).2 ⟨hag, fun i a b => h2 i (by omega) b, fun i a b => h3 i (by omega) b⟩

/-- A truth of pegs: the places, and who was moved. -/
def IsTruth (p : PegsD) (t : At) (m : Int) : Prop :=
  -1 ≤ m ∧ m < p.ps.length ∧ (∀ (i : Nat) (q : Post), p.ps[i]? = some q → inField p.side (t.get i) ∧ (atPost q (t.get i) ↔ (i : Int) ≠ m)) ∧
    (∀ i : Nat, p.ps.length ≤ i → i < 4 → t.get i = ⟨0, 0⟩) ∧ ∀ l ∈ p.ls, rightB l t = true

theorem zeroAt_get (i : Nat) (hi : i < 4) : zeroAt.get i = ⟨0, 0⟩ := by
  match i, hi with
  | 0, _ | 1, _ | 2, _ | 3, _ => rfl
theorem mem_truthsL {p : PegsD} (hf : Fit p) {t : At} {m : Int} : (t, m) ∈ truthsL p ↔ IsTruth p t m := by
  have hn := hf.n4
  simp only [truthsL, truthsTo, withM, List.mem_flatMap, List.mem_map, List.mem_range, Prod.mk.injEq]
  constructor
  · rintro ⟨j, hj, u, hu, rfl, rfl⟩
    obtain ⟨h1, h2, h3⟩ := (mem_putL hf.lens _ p.ps.length hn p.ps.length 0 zeroAt u (by omega)).1 hu
    refine ⟨by omega, by omega, fun i q hq => ?_, fun i a b => ?_, fun l hl => ?_⟩
    · have hi : i < p.ps.length := (List.getElem?_eq_some_iff.1 hq).1
      have := h2 i (by omega) hi
      have hq15 := hf.posts q (List.mem_of_getElem? hq)
      unfold hereL at this
      by_cases e : (i : Int) = (j : Int) - 1
      · rw [if_pos e, mem_awayL] at this
        refine ⟨this.1, ⟨fun h => absurd ⟨q, hq, h⟩ this.2, fun h => absurd e h⟩⟩
      · rw [if_neg e, mem_homeL] at this
        obtain ⟨q', hq', h⟩ := this
        rw [hq] at hq'; cases hq'
        obtain ⟨a1, a2, a3, a4, a5, a6⟩ := hq15
        obtain ⟨b1, b2, b3, b4⟩ := h
        exact ⟨⟨by omega, by omega, by omega, by omega⟩, ⟨fun _ => e, fun _ => ⟨b1, b2, b3, b4⟩⟩⟩
    · rw [← h1 i b (by omega)]; exact zeroAt_get i b
    · obtain ⟨⟨a1, a2, b1, b2, _⟩, c1, c2⟩ := hf.lens l hl
      have := h3 (max l.a l.b).toNat (by omega) (by omega)
      have h4 := List.all_eq_true.1 this l hl
      simp only [lenAt, Bool.or_eq_true, Bool.not_eq_true', decide_eq_false_iff_not] at h4
      exact h4.resolve_left (fun hne => hne (by omega))
  · rintro ⟨h1, h2, h3, h4, h5⟩
    refine ⟨(m + 1).toNat, by omega, t, ?_, rfl, by omega⟩
    rw [mem_putL hf.lens _ p.ps.length hn p.ps.length 0 zeroAt t (by omega)]
    refine ⟨fun i a b => ?_, fun i _ hi => ?_, fun i _ hi => ?_⟩
    · rw [zeroAt_get i a, h4 i (by omega) a]
    · obtain ⟨q, hq⟩ : ∃ q, p.ps[i]? = some q := ⟨p.ps[i], List.getElem?_eq_getElem hi⟩
      obtain ⟨a, b⟩ := h3 i q hq
      unfold hereL
      by_cases e : (i : Int) = m
      · rw [if_pos (by omega), mem_awayL]
        refine ⟨a, ?_⟩
        rintro ⟨q', hq', h⟩
        rw [hq] at hq'; cases hq'
        exact b.1 h e
      · rw [if_neg (by omega), mem_homeL]
        exact ⟨q, hq, b.2 e⟩
    · rw [lensRightB, List.all_eq_true]
      intro l hl
      simp [lenAt, h5 l hl]

/-- Who was moved is seen by where all are. -/
theorem IsTruth.one {p : PegsD} {t : At} {m m' : Int} (h : IsTruth p t m) (h' : IsTruth p t m') : m = m' := by
  obtain ⟨a1, a2, a3, _⟩ := h
  obtain ⟨b1, b2, b3, _⟩ := h'
  by_cases e : m = -1
  · by_cases e' : m' = -1
    · omega
    · obtain ⟨q, hq⟩ : ∃ q, p.ps[m'.toNat]? = some q := ⟨_, List.getElem?_eq_getElem (by omega)⟩
      have x := (a3 m'.toNat q hq).2
      have y := (b3 m'.toNat q hq).2
      have : atPost q (t.get (m'.toNat : Nat)) := x.2 (by omega)
      exact absurd (by omega) (y.1 this)
  · obtain ⟨q, hq⟩ : ∃ q, p.ps[m.toNat]? = some q := ⟨_, List.getElem?_eq_getElem (by omega)⟩
    have x := (a3 m.toNat q hq).2
    have y := (b3 m.toNat q hq).2
    by_cases e' : m = m'
    · exact e'
    · have : atPost q (t.get (m.toNat : Nat)) := y.2 (by omega)
      exact absurd (by omega) (x.1 this)
end Go.Proofs.Ytkjciobphbcknaa
