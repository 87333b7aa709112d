/- Package peg: what is told, without lists. -/
import Derived.Test.YtkjciobphbcknaaAR
namespace Go.Proofs.Ytkjciobphbcknaa
open Go.RowKit

theorem runL_all {σ : Type} (step : σ → At × Int → σ) : ∀ (l : List (At × Int)) (s : σ), runL step (fun _ _ => true) s l = l.foldl step s
  | [], _ => rfl
  | x :: r, s => by simp only [runL, if_true, List.foldl_cons]; exact runL_all step r _
theorem mem_addPl {L : List Pl} {s a : Pl} : a ∈ addPl L s ↔ a ∈ L ∨ a = s := by
  unfold addPl
  split
  · rename_i h
    exact ⟨.inl, fun e => e.elim id (fun e => e ▸ h)⟩
  · simp
theorem addPl_nodup {L : List Pl} {s : Pl} (h : L.Nodup) : (addPl L s).Nodup := by
  unfold addPl
  split
  · exact h
  · rename_i hn
    rw [List.nodup_append]
    exact ⟨h, by simp, fun a ha b hb => by simp at hb; subst hb; exact fun e => hn (e ▸ ha)⟩
theorem mem_standL {i : Nat} {l : List (At × Int)} {s : Pl} : s ∈ standL i l ↔ ∃ x ∈ l, x.1.get i = s := by
  have key : ∀ (l : List (At × Int)) (L : List Pl), s ∈ l.foldl (fun L x => addPl L (x.1.get i)) L ↔ s ∈ L ∨ ∃ x ∈ l, x.1.get i = s := by
    intro l
    induction l with
    | nil => intro L; simp
    | cons x r ih =>
      intro L
      rw [List.foldl_cons, ih, mem_addPl]
      simp only [List.mem_cons, exists_eq_or_imp]
      constructor
      · rintro ((h | h) | h)
        · exact .inl h
        · exact .inr (.inl h.symm)
        · exact .inr (.inr h)
      · rintro (h | h | h)
        · exact .inl (.inl h)
        · exact .inl (.inr h.symm)
        · exact .inr h
  rw [standL, runL_all, key]
  simp
theorem standL_nodup (i : Nat) (l : List (At × Int)) : (standL i l).Nodup := by
  have key : ∀ (l : List (At × Int)) (L : List Pl), L.Nodup → (l.foldl (fun L x => addPl L (x.1.get i)) L).Nodup := by
    intro l
    induction l with
    | nil => intro L h; exact h
    | cons x r ih => intro L h; exact ih _ (addPl_nodup h)
  rw [standL, runL_all]
  exact key l [] List.nodup_nil
theorem mem_strayL {i : Int} {l : List (At × Int)} {s : Pl} : s ∈ strayL i l ↔ ∃ x ∈ l, x.2 = i ∧ x.1.get i = s := by
  have key : ∀ (l : List (At × Int)) (L : List Pl), s ∈ l.foldl (fun L x => if x.2 = i then addPl L (x.1.get i) else L) L ↔ s ∈ L ∨ ∃ x ∈ l, x.2 = i ∧ x.1.get i = s := by
    intro l
    induction l with
    | nil => intro L; simp
    | cons x r ih =>
      intro L
      rw [List.foldl_cons, ih]
      simp only [List.mem_cons, exists_eq_or_imp]
      by_cases hx : x.2 = i
      · rw [if_pos hx, mem_addPl]
        constructor
        · rintro ((h | h) | h)
          · exact .inl h
          · exact .inr (.inl ⟨hx, h.symm⟩)
          · exact .inr (.inr h)
        · rintro (h | h | h)
          · exact .inl (.inl h)
          · exact .inl (.inr h.2.symm)
          · exact .inr h
      · rw [if_neg hx]
        constructor
        · rintro (h | h)
          · exact .inl h
          · exact .inr (.inr h)
        · rintro (h | h | h)
          · exact .inl h
          · exact absurd h.1 hx
          · exact .inr h
  rw [strayL, runL_all, key]
  simp

theorem endsL_eq (f : At × Int → Int) (l : List (At × Int)) : endsL f l = (l.foldl (fun s x => s.add (f x)) ⟨0, 0, false⟩) := by rw [endsL, runL_all]
theorem endsL_snoc (f : At × Int → Int) (l : List (At × Int)) (x : At × Int) : endsL f (l ++ [x]) = (endsL f l).add (f x) := by simp [endsL_eq, List.foldl_append]
theorem endsL_spec (f : At × Int → Int) : ∀ (l : List (At × Int)), l ≠ [] → (endsL f l).some = true ∧ (∀ x ∈ l, (endsL f l).lo ≤ f x ∧ f x ≤ (endsL f l).hi) ∧ (∃ x ∈ l, f x = (endsL f l).lo) ∧ (∃ x ∈ l, f x = (endsL f l).hi) := by
  have key : ∀ (n : Nat) (l : List (At × Int)), l.length = n → l ≠ [] → (endsL f l).some = true ∧ (∀ x ∈ l, (endsL f l).lo ≤ f x ∧ f x ≤ (endsL f l).hi) ∧ (∃ x ∈ l, f x = (endsL f l).lo) ∧ (∃ x ∈ l, f x = (endsL f l).hi) := by
    intro n
    induction n with
    | zero => intro l h hne; exact absurd (List.length_eq_zero_iff.1 h) hne
    | succ n ih =>
      intro l hl hne
      obtain ⟨m, y, rfl⟩ : ∃ m y, l = m ++ [y] := ⟨l.dropLast, l.getLast hne, (List.dropLast_concat_getLast hne).symm⟩
      rw [endsL_snoc]
      by_cases hm : m = []
      · subst hm
        simp [endsL_eq, EndsD.add]
      · obtain ⟨h1, h2, ⟨a, ha, ea⟩, ⟨b, hb, eb⟩⟩ := ih m (by simpa using hl) hm
        generalize endsL f m = e at *
        simp only [EndsD.add, h1, if_true, true_and]
        refine ⟨fun x hx => ?_, ?_, ?_⟩
        · rcases List.mem_append.1 hx with h | h
          · have := h2 x h; omega
          · simp at h; subst h; omega
        · by_cases hc : e.lo ≤ f y
          · exact ⟨a, by simp [ha], by omega⟩
          · exact ⟨y, by simp, by omega⟩
        · by_cases hc : f y ≤ e.hi
          · exact ⟨b, by simp [hb], by omega⟩
          · exact ⟨y, by simp, by omega⟩
  exact fun l h => key l.length l rfl h

theorem or_nat (a k : Nat) (ha : a < 16) (hk : k < 4) : bits .or .i64 (a : Int) (2 ^ k : Int) = ((a ||| 2 ^ k : Nat) : Int) :=
  (by decide +kernel : ∀ a : Fin 16, ∀ k : Fin 4, bits .or .i64 (a.1 : Int) (2 ^ k.1 : Int) = ((a.1 ||| 2 ^ k.1 : Nat) : Int)) ⟨a, ha⟩ ⟨k, hk⟩
/-- What is told of who was moved, at the end. -/
theorem susRun_spec (n : Nat) (hn : n ≤ 4) (l : List (At × Int)) (hl : ∀ x ∈ l, -1 ≤ x.2 ∧ x.2 < n) :
    ∃ (S : Nat) (b : Bool), susRun (2 ^ n - 1) l = ((S : Int), b) ∧ S < 2 ^ n ∧ (b = true ↔ ∃ x ∈ l, x.2 = -1) ∧ ∀ j : Nat, S.testBit j = true ↔ ∃ x ∈ l, x.2 = (j : Int) := by
  have pw : (2 : Nat) ^ n ≤ 16 := Nat.pow_le_pow_right (by omega) (show n ≤ 4 from hn)
  have key : ∀ (l : List (At × Int)), (∀ x ∈ l, -1 ≤ x.2 ∧ x.2 < n) → ∀ (A : Nat) (a : Bool), A < 2 ^ n →
      ∃ (S : Nat) (b : Bool), runL susStep (fun s x => !(susStep s x).2 || decide ((susStep s x).1 ≠ (2 ^ n - 1 : Int))) ((A : Int), a) l = ((S : Int), b) ∧ S < 2 ^ n ∧ (b = true ↔ a = true ∨ ∃ x ∈ l, x.2 = -1) ∧ ∀ j : Nat, S.testBit j = true ↔ A.testBit j = true ∨ ∃ x ∈ l, x.2 = (j : Int) := by
    intro l
    induction l with
    | nil => intro _ A a hA; exact ⟨A, a, rfl, hA, by simp, by simp⟩
    | cons x r ih =>
      intro hl A a hA
      obtain ⟨x1, x2⟩ := hl x (by simp)
      obtain ⟨A', a', hstep, hA', ha', hb'⟩ : ∃ (A' : Nat) (a' : Bool), susStep ((A : Int), a) x = ((A' : Int), a') ∧ A' < 2 ^ n ∧ (a' = true ↔ a = true ∨ x.2 = -1) ∧ ∀ j : Nat, A'.testBit j = true ↔ A.testBit j = true ∨ x.2 = (j : Int) := by
        unfold susStep
        by_cases hx : x.2 = -1
        · refine ⟨A, true, by rw [if_pos hx], hA, by simp [hx], fun j => ?_⟩
          exact ⟨.inl, fun h => h.resolve_right (by omega)⟩
        · refine ⟨A ||| 2 ^ x.2.toNat, a, ?_, Nat.or_lt_two_pow hA (Nat.pow_lt_pow_right (by omega) (by omega)), by simp [hx], fun j => ?_⟩
          · rw [if_neg hx]
            have := or_nat A x.2.toNat (by omega) (by omega)
            simp only at this ⊢
            rw [this]
          · rw [Nat.testBit_or, Nat.testBit_two_pow, Bool.or_eq_true, decide_eq_true_eq]
            constructor
            · rintro (h | h)
              · exact .inl h
              · exact .inr (by omega)
            · rintro (h | h)
              · exact .inl h
              · exact .inr (by omega)
      simp only [runL, hstep]
      by_cases hc : (!a' || decide ((A' : Int) ≠ (2 ^ n - 1 : Int))) = true
      · rw [if_pos hc]
        obtain ⟨S, b, h1, h2, h3, h4⟩ := ih (fun y hy => hl y (by simp [hy])) A' a' hA'
        refine ⟨S, b, h1, h2, ?_, fun j => ?_⟩
        · rw [h3, ha']
          simp only [List.mem_cons, exists_eq_or_imp]
          exact or_assoc
        · rw [h4 j, hb' j]
          simp only [List.mem_cons, exists_eq_or_imp]
          exact or_assoc
      · rw [if_neg hc]
        simp only [Bool.or_eq_true, Bool.not_eq_true', decide_eq_true_eq, not_or] at hc
        obtain ⟨c1, c2⟩ := hc
        have c1 : a' = true := by simpa using c1
        have c2 : (A' : Int) = 2 ^ n - 1 := by omega
        have c3 : A' = 2 ^ n - 1 := by
          have e : ((2 ^ n : Nat) : Int) = (2 : Int) ^ n := by push_cast; rfl
          omega
        refine ⟨A', a', rfl, hA', ?_, fun j => ?_⟩
        · exact ⟨fun _ => (ha'.1 c1).imp id (fun e => ⟨x, by simp, e⟩), fun _ => c1⟩
        · constructor
          · intro h; exact ((hb' j).1 h).imp id (fun e => ⟨x, by simp, e⟩)
          · intro h
            rw [c3, Nat.testBit_two_pow_sub_one, decide_eq_true_eq]
            rcases h with h | ⟨y, hy, e⟩
            · exact Nat.lt_of_not_le fun hle => by
                have := Nat.testBit_lt_two_pow (i := j) (Nat.lt_of_lt_of_le hA (Nat.pow_le_pow_right (by omega) hle))
                rw [this] at h; cases h
            · have := (hl y hy).2; omega
  obtain ⟨S, b, h1, h2, h3, h4⟩ := key l hl 0 false (Nat.two_pow_pos n)
  refine ⟨S, b, h1, h2, by simpa using h3, fun j => by simpa using h4 j⟩
end Go.Proofs.Ytkjciobphbcknaa
