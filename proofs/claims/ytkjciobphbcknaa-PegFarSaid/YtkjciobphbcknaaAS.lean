/- Package peg: what is told, without lists. -/
import Derived.Test.YtkjciobphbcknaaAL
namespace Go.Proofs.Ytkjciobphbcknaa
open Go.RowKit

theorem Pl.ext' {a b : Pl} (h1 : a.x = b.x) (h2 : a.y = b.y) : a = b := by
  obtain ⟨x, y⟩ := a; obtain ⟨x', y'⟩ := b; simp at h1 h2; rw [h1, h2]
theorem mem_rectL {xlo xhi ylo yhi : Int} {s : Pl} : s ∈ rectL xlo xhi ylo yhi ↔ xlo ≤ s.x ∧ s.x ≤ xhi ∧ ylo ≤ s.y ∧ s.y ≤ yhi := by
  simp only [rectL, colsL, colL, List.mem_flatMap, List.mem_range, List.mem_map]
  constructor
  · rintro ⟨i, hi, j, hj, rfl⟩
    exact ⟨by simp <;> omega, by simp; omega, by simp <;> omega, by simp; omega⟩
  · rintro ⟨h1, h2, h3, h4⟩
    exact ⟨(s.x - xlo).toNat, by omega, (s.y - ylo).toNat, by omega, Pl.ext' (by simp; omega) (by simp; omega)⟩
/-- Is a place at a post? -/
def atPost (q : Post) (s : Pl) : Prop := q.xlo ≤ s.x ∧ s.x ≤ q.xhi ∧ q.ylo ≤ s.y ∧ s.y ≤ q.yhi
instance (q : Post) (s : Pl) : Decidable (atPost q s) := by unfold atPost; infer_instance
/-- Is a place one of the field? -/
def inField (side : Int) (s : Pl) : Prop := 0 ≤ s.x ∧ s.x ≤ side ∧ 0 ≤ s.y ∧ s.y ≤ side
instance (n : Int) (s : Pl) : Decidable (inField n s) := by unfold inField; infer_instance
theorem mem_fieldL {side : Int} {s : Pl} : s ∈ fieldL side ↔ inField side s := by rw [fieldL, mem_rectL]; rfl
theorem mem_homeL {p : PegsD} {i : Nat} {s : Pl} : s ∈ homeL p i ↔ ∃ q, p.ps[i]? = some q ∧ atPost q s := by
  unfold homeL
  cases h : p.ps[i]? with
  | none => simp
  | some q => simp only [mem_rectL, Option.some.injEq]; exact ⟨fun h => ⟨q, rfl, h⟩, fun ⟨_, e, h⟩ => e ▸ h⟩
theorem mem_awayL {p : PegsD} {i : Nat} {s : Pl} : s ∈ awayL p i ↔ inField p.side s ∧ ¬ ∃ q, p.ps[i]? = some q ∧ atPost q s := by
  unfold awayL
  rw [List.mem_filter, mem_fieldL, ← mem_homeL]
  simp

theorem mem_putL {p : PegsD} (hf : lensFit p) (moved : Int) (n : Nat) (hn : n ≤ 4) : ∀ (m k : Nat) (t u : At), k + m = n →
    (u ∈ putL p moved m k t ↔ Agree k n t u ∧ (∀ i, k ≤ i → i < n → u.get i ∈ hereL p moved i) ∧ ∀ i : Nat, k ≤ i → i < n → lensRightB p.ls u i = true) := by
  intro m
  induction m with
  | zero =>
    intro k t u hk
    obtain rfl : k = n := by omega
    rw [putL, List.mem_singleton]
    constructor
    · rintro rfl
      exact ⟨Agree.refl _ _ _, fun i h1 h2 => by omega, fun i h1 h2 => by omega⟩
    · rintro ⟨h, _⟩
      exact (At.ext fun i hi => h i hi (by omega)).symm
  | succ m ih =>
    intro k t u hk
    have hk4 : k < 4 := by omega
    rw [putL, List.mem_flatMap]
    constructor
    · rintro ⟨s, hs, h⟩
      split at h
      · rename_i hr
        obtain ⟨h1, h2, h3⟩ := (ih (k + 1) _ u (by omega)).1 h
        have es : s = u.get k := by
          have := h1 k hk4 (by omega)
          rw [At.get_set hk4 k hk4, if_pos rfl] at this
          exact this
        refine ⟨(Agree.refl k n t).back hk4 h1 (by omega), fun i a b => ?_, fun i a b => ?_⟩
        · by_cases e : i = k
          · subst e; rw [← es]; exact hs
          · exact h2 i (by omega) b
        · by_cases e : i = k
          · subst e; rw [← lensRight_agree hf h1]; exact hr
          · exact h3 i (by omega) b
      · simp at h
    · rintro ⟨h1, h2, h3⟩
      have hag : Agree (k + 1) n (t.set k (u.get k)) u := fun i hi hc => by
        rw [At.get_set hk4 i hi]
        split
        · rename_i e; rw [e]
        · exact h1 i hi (by omega)
      refine ⟨u.get k, h2 k (by omega) (by omega), ?_⟩
      rw [if_pos (by rw [lensRight_agree hf hag]; exact h3 k (by omega) (by omega))]
      exact (ih (k + 1) _ u (by omega)).2 ⟨hag, fun i a b => h2 i (by omega) b, fun i a b => h3 i (by omega) b⟩

/-- A truth of pegs: the places, and who was moved. -/
def IsTruth (p : PegsD) (t : At) (m : Int) : Prop :=
  -1 ≤ m ∧ m < p.ps.length ∧ (∀ (i : Nat) (q : Post), p.ps[i]? = some q → inField p.side (t.get i) ∧ (atPost q (t.get i) ↔ (i : Int) ≠ m)) ∧
    (∀ i : Nat, p.ps.length ≤ i → i < 4 → t.get i = ⟨0, 0⟩) ∧ ∀ l ∈ p.ls, rightB l t = true

theorem zeroAt_get (i : Nat) (hi : i < 4) : zeroAt.get i = ⟨0, 0⟩ := by
  match i, hi with
  | 0, _ | 1, _ | 2, _ | 3, _ => rfl
theorem mem_truthsL {p : PegsD} (hf : Fit p) {t : At} {m : Int} : (t, m) ∈ truthsL p ↔ IsTruth p t m := by
  have hn := hf.n4
  simp only [truthsL, truthsTo, withM, List.mem_flatMap, List.mem_map, List.mem_range, Prod.mk.injEq]
  constructor
  · rintro ⟨j, hj, u, hu, rfl, rfl⟩
    obtain ⟨h1, h2, h3⟩ := (mem_putL hf.lens _ p.ps.length hn p.ps.length 0 zeroAt u (by omega)).1 hu
    refine ⟨by omega, by omega, fun i q hq => ?_, fun i a b => ?_, fun l hl => ?_⟩
    · have hi : i < p.ps.length := (List.getElem?_eq_some_iff.1 hq).1
      have := h2 i (by omega) hi
      have hq15 := hf.posts q (List.mem_of_getElem? hq)
      unfold hereL at this
      by_cases e : (i : Int) = (j : Int) - 1
      · rw [if_pos e, mem_awayL] at this
        refine ⟨this.1, ⟨fun h => absurd ⟨q, hq, h⟩ this.2, fun h => absurd e h⟩⟩
      · rw [if_neg e, mem_homeL] at this
        obtain ⟨q', hq', h⟩ := this
        rw [hq] at hq'; cases hq'
        obtain ⟨a1, a2, a3, a4, a5, a6⟩ := hq15
        obtain ⟨b1, b2, b3, b4⟩ := h
        exact ⟨⟨by omega, by omega, by omega, by omega⟩, ⟨fun _ => e, fun _ => ⟨b1, b2, b3, b4⟩⟩⟩
    · rw [← h1 i b (by omega)]; exact zeroAt_get i b
    · obtain ⟨⟨a1, a2, b1, b2, _⟩, c1, c2⟩ := hf.lens l hl
      have := h3 (max l.a l.b).toNat (by omega) (by omega)
      have h4 := List.all_eq_true.1 this l hl
      simp only [lenAt, Bool.or_eq_true, Bool.not_eq_true', decide_eq_false_iff_not] at h4
      exact h4.resolve_left (fun hne => hne (by omega))
  · rintro ⟨h1, h2, h3, h4, h5⟩
    refine ⟨(m + 1).toNat, by omega, t, ?_, rfl, by omega⟩
    rw [mem_putL hf.lens _ p.ps.length hn p.ps.length 0 zeroAt t (by omega)]
    refine ⟨fun i a b => ?_, fun i _ hi => ?_, fun i _ hi => ?_⟩
    · rw [zeroAt_get i a, h4 i (by omega) a]
    · obtain ⟨q, hq⟩ : ∃ q, p.ps[i]? = some q := ⟨p.ps[i], List.getElem?_eq_getElem hi⟩
      obtain ⟨a, b⟩ := h3 i q hq
      unfold hereL
      by_cases e : (i : Int) = m
      · rw [if_pos (by omega), mem_awayL]
        refine ⟨a, ?_⟩
        rintro ⟨q', hq', h⟩
        rw [hq] at hq'; cases hq'
        exact b.1 h e
      · rw [if_neg (by omega), mem_homeL]
        exact ⟨q, hq, b.2 e⟩
    · rw [lensRightB, List.all_eq_true]
      intro l hl
      simp [lenAt, h5 l hl]

/-- Who was moved is seen by where all are. -/
theorem IsTruth.one {p : PegsD} {t : At} {m m' : Int} (h : IsTruth p t m) (h' : IsTruth p t m') : m = m' := by
  obtain ⟨a1, a2, a3, _⟩ := h
  obtain ⟨b1, b2, b3, _⟩ := h'
  by_cases e : m = -1
  · by_cases e' : m' = -1
    · omega
    · obtain ⟨q, hq⟩ : ∃ q, p.ps[m'.toNat]? = some q := ⟨_, List.getElem?_eq_getElem (by omega)⟩
      have x := (a3 m'.toNat q hq).2
      have y := (b3 m'.toNat q hq).2
      have : atPost q (t.get (m'.toNat : Nat)) := x.2 (by omega)
      exact absurd (by omega) (y.1 this)
  · obtain ⟨q, hq⟩ : ∃ q, p.ps[m.toNat]? = some q := ⟨_, List.getElem?_eq_getElem (by omega)⟩
    have x := (a3 m.toNat q hq).2
    have y := (b3 m.toNat q hq).2
    by_cases e' : m = m'
    · exact e'
    · have : atPost q (t.get (m.toNat : Nat)) := y.2 (by omega)
      exact absurd (by omega) (x.1 this)
end Go.Proofs.Ytkjciobphbcknaa
namespace Go.Proofs.Ytkjciobphbcknaa
open Go.RowKit

theorem runL_all {σ : Type} (step : σ → At × Int → σ) : ∀ (l : List (At × Int)) (s : σ), runL step (fun _ _ => true) s l = l.foldl step s
  | [], _ => rfl
  | x :: r, s => by simp only [runL, if_true, List.foldl_cons]; exact runL_all step r _
theorem mem_addPl {L : List Pl} {s a : Pl} : a ∈ addPl L s ↔ a ∈ L ∨ a = s := by
  unfold addPl
  split
  · rename_i h
    exact ⟨.inl, fun e => e.elim id (fun e => e ▸ h)⟩
  · simp
theorem addPl_nodup {L : List Pl} {s : Pl} (h : L.Nodup) : (addPl L s).Nodup := by
  unfold addPl
  split
  · exact h
  · rename_i hn
    rw [List.nodup_append]
    exact ⟨h, by simp, fun a ha b hb => by simp at hb; subst hb; exact fun e => hn (e ▸ ha)⟩
theorem mem_standL {i : Nat} {l : List (At × Int)} {s : Pl} : s ∈ standL i l ↔ ∃ x ∈ l, x.1.get i = s := by
  have key : ∀ (l : List (At × Int)) (L : List Pl), s ∈ l.foldl (fun L x => addPl L (x.1.get i)) L ↔ s ∈ L ∨ ∃ x ∈ l, x.1.get i = s := by
    intro l
    induction l with
    | nil => intro L; simp
    | cons x r ih =>
      intro L
      rw [List.foldl_cons, ih, mem_addPl]
      simp only [List.mem_cons, exists_eq_or_imp]
      constructor
      · rintro ((h | h) | h)
        · exact .inl h
        · exact .inr (.inl h.symm)
        · exact .inr (.inr h)
      · rintro (h | h | h)
        · exact .inl (.inl h)
        · exact .inl (.inr h.symm)
        · exact .inr h
  rw [standL, runL_all, key]
  simp
theorem standL_nodup (i : Nat) (l : List (At × Int)) : (standL i l).Nodup := by
  have key : ∀ (l : List (At × Int)) (L : List Pl), L.Nodup → (l.foldl (fun L x => addPl L (x.1.get i)) L).Nodup := by
    intro l
    induction l with
    | nil => intro L h; exact h
    | cons x r ih => intro L h; exact ih _ (addPl_nodup h)
  rw [standL, runL_all]
  exact key l [] List.nodup_nil
theorem mem_strayL {i : Int} {l : List (At × Int)} {s : Pl} : s ∈ strayL i l ↔ ∃ x ∈ l, x.2 = i ∧ x.1.get i = s := by
  have key : ∀ (l : List (At × Int)) (L : List Pl), s ∈ l.foldl (fun L x => if x.2 = i then addPl L (x.1.get i) else L) L ↔ s ∈ L ∨ ∃ x ∈ l, x.2 = i ∧ x.1.get i = s := by
    intro l
    induction l with
    | nil => intro L; simp
    | cons x r ih =>
      intro L
      rw [List.foldl_cons, ih]
      simp only [List.mem_cons, exists_eq_or_imp]
      by_cases hx : x.2 = i
      · rw [if_pos hx, mem_addPl]
        constructor
        · rintro ((h | h) | h)
          · exact .inl h
          · exact .inr (.inl ⟨hx, h.symm⟩)
          · exact .inr (.inr h)
        · rintro (h | h | h)
          · exact .inl (.inl h)
          · exact .inl (.inr h.2.symm)
          · exact .inr h
      · rw [if_neg hx]
        constructor
        · rintro (h | h)
          · exact .inl h
          · exact .inr (.inr h)
        · rintro (h | h | h)
          · exact .inl h
          · exact absurd h.1 hx
          · exact .inr h
  rw [strayL, runL_all, key]
  simp

theorem endsL_eq (f : At × Int → Int) (l : List (At × Int)) : endsL f l = (l.foldl (fun s x => s.add (f x)) ⟨0, 0, false⟩) := by rw [endsL, runL_all]
theorem endsL_snoc (f : At × Int → Int) (l : List (At × Int)) (x : At × Int) : endsL f (l ++ [x]) = (endsL f l).add (f x) := by simp [endsL_eq, List.foldl_append]
theorem endsL_spec (f : At × Int → Int) : ∀ (l : List (At × Int)), l ≠ [] → (endsL f l).some = true ∧ (∀ x ∈ l, (endsL f l).lo ≤ f x ∧ f x ≤ (endsL f l).hi) ∧ (∃ x ∈ l, f x = (endsL f l).lo) ∧ (∃ x ∈ l, f x = (endsL f l).hi) := by
  have key : ∀ (n : Nat) (l : List (At × Int)), l.length = n → l ≠ [] → (endsL f l).some = true ∧ (∀ x ∈ l, (endsL f l).lo ≤ f x ∧ f x ≤ (endsL f l).hi) ∧ (∃ x ∈ l, f x = (endsL f l).lo) ∧ (∃ x ∈ l, f x = (endsL f l).hi) := by
    intro n
    induction n with
    | zero => intro l h hne; exact absurd (List.length_eq_zero_iff.1 h) hne
    | succ n ih =>
      intro l hl hne
      obtain ⟨m, y, rfl⟩ : ∃ m y, l = m ++ [y] := ⟨l.dropLast, l.getLast hne, (List.dropLast_concat_getLast hne).symm⟩
      rw [endsL_snoc]
      by_cases hm : m = []
      · subst hm
        simp [endsL_eq, EndsD.add]
      · obtain ⟨h1, h2, ⟨a, ha, ea⟩, ⟨b, hb, eb⟩⟩ := ih m (by simpa using hl) hm
        generalize endsL f m = e at *
        simp only [EndsD.add, h1, if_true, true_and]
        refine ⟨fun x hx => ?_, ?_, ?_⟩
        · rcases List.mem_append.1 hx with h | h
          · have := h2 x h; omega
          · simp at h; subst h; omega
        · by_cases hc : e.lo ≤ f y
          · exact ⟨a, by simp [ha], by omega⟩
          · exact ⟨y, by simp, by omega⟩
        · by_cases hc : f y ≤ e.hi
          · exact ⟨b, by simp [hb], by omega⟩
          · exact ⟨y, by simp, by omega⟩
  exact fun l h => key l.length l rfl h

theorem or_nat (a k : Nat) (ha : a < 16) (hk : k < 4) : bits .or .i64 (a : Int) (2 ^ k : Int) = ((a ||| 2 ^ k : Nat) : Int) :=
  (by decide +kernel : ∀ a : Fin 16, ∀ k : Fin 4, bits .or .i64 (a.1 : Int) (2 ^ k.1 : Int) = ((a.1 ||| 2 ^ k.1 : Nat) : Int)) ⟨a, ha⟩ ⟨k, hk⟩
/-- What is told of who was moved, at the end. -/
theorem susRun_spec (n : Nat) (hn : n ≤ 4) (l : List (At × Int)) (hl : ∀ x ∈ l, -1 ≤ x.2 ∧ x.2 < n) :
    ∃ (S : Nat) (b : Bool), susRun (2 ^ n - 1) l = ((S : Int), b) ∧ S < 2 ^ n ∧ (b = true ↔ ∃ x ∈ l, x.2 = -1) ∧ ∀ j : Nat, S.testBit j = true ↔ ∃ x ∈ l, x.2 = (j : Int) := by
  have pw : (2 : Nat) ^ n ≤ 16 := Nat.pow_le_pow_right (by omega) (show n ≤ 4 from hn)
  have key : ∀ (l : List (At × Int)), (∀ x ∈ l, -1 ≤ x.2 ∧ x.2 < n) → ∀ (A : Nat) (a : Bool), A < 2 ^ n →
      ∃ (S : Nat) (b : Bool), runL susStep (fun s x => !(susStep s x).2 || decide ((susStep s x).1 ≠ (2 ^ n - 1 : Int))) ((A : Int), a) l = ((S : Int), b) ∧ S < 2 ^ n ∧ (b = true ↔ a = true ∨ ∃ x ∈ l, x.2 = -1) ∧ ∀ j : Nat, S.testBit j = true ↔ A.testBit j = true ∨ ∃ x ∈ l, x.2 = (j : Int) := by
    intro l
    induction l with
    | nil => intro _ A a hA; exact ⟨A, a, rfl, hA, by simp, by simp⟩
    | cons x r ih =>
      intro hl A a hA
      obtain ⟨x1, x2⟩ := hl x (by simp)
      obtain ⟨A', a', hstep, hA', ha', hb'⟩ : ∃ (A' : Nat) (a' : Bool), susStep ((A : Int), a) x = ((A' : Int), a') ∧ A' < 2 ^ n ∧ (a' = true ↔ a = true ∨ x.2 = -1) ∧ ∀ j : Nat, A'.testBit j = true ↔ A.testBit j = true ∨ x.2 = (j : Int) := by
        unfold susStep
        by_cases hx : x.2 = -1
        · refine ⟨A, true, by rw [if_pos hx], hA, by simp [hx], fun j => ?_⟩
          exact ⟨.inl, fun h => h.resolve_right (by omega)⟩
        · refine ⟨A ||| 2 ^ x.2.toNat, a, ?_, Nat.or_lt_two_pow hA (Nat.pow_lt_pow_right (by omega) (by omega)), by simp [hx], fun j => ?_⟩
          · rw [if_neg hx]
            have := or_nat A x.2.toNat (by omega) (by omega)
            simp only at this ⊢
            rw [this]
          · rw [Nat.testBit_or, Nat.testBit_two_pow, Bool.or_eq_true, decide_eq_true_eq]
            constructor
            · rintro (h | h)
              · exact .inl h
              · exact .inr (by omega)
            · rintro (h | h)
              · exact .inl h
              · exact .inr (by omega)
      simp only [runL, hstep]
      by_cases hc : (!a' || decide ((A' : Int) ≠ (2 ^ n - 1 : Int))) = true
      · rw [if_pos hc]
        obtain ⟨S, b, h1, h2, h3, h4⟩ := ih (fun y hy => hl y (by simp [hy])) A' a' hA'
        refine ⟨S, b, h1, h2, ?_, fun j => ?_⟩
        · rw [h3, ha']
          simp only [List.mem_cons, exists_eq_or_imp]
          exact or_assoc
        · rw [h4 j, hb' j]
          simp only [List.mem_cons, exists_eq_or_imp]
          exact or_assoc
      · rw [if_neg hc]
        simp only [Bool.or_eq_true, Bool.not_eq_true', decide_eq_true_eq, not_or] at hc
        obtain ⟨c1, c2⟩ := hc
        have c1 : a' = true := by simpa using c1
        have c2 : (A' : Int) = 2 ^ n - 1 := by omega
        have c3 : A' = 2 ^ n - 1 := by
          have e : ((2 ^ n : Nat) : Int) = (2 : Int) ^ n := by push_cast; rfl
          omega
        refine ⟨A', a', rfl, hA', ?_, fun j => ?_⟩
        · exact ⟨fun _ => (ha'.1 c1).imp id (fun e => ⟨x, by simp, e⟩), fun _ => c1⟩
        · constructor
          · intro h; exact ((hb' j).1 h).imp id (fun e => ⟨x, by simp, e⟩)
          · intro h
            rw [c3, Nat.testBit_two_pow_sub_one, decide_eq_true_eq]
            rcases h with h | ⟨y, hy, e⟩
            · exact Nat.lt_of_not_le fun hle => by
                have := Nat.testBit_lt_two_pow (i := j) (Nat.lt_of_lt_of_le hA (Nat.pow_le_pow_right (by omega) hle))
                rw [this] at h; cases h
            · have := (hl y hy).2; omega
  obtain ⟨S, b, h1, h2, h3, h4⟩ := key l hl 0 false (Nat.two_pow_pos n)
  refine ⟨S, b, h1, h2, by simpa using h3, fun j => by simpa using h4 j⟩
end Go.Proofs.Ytkjciobphbcknaa
