/- Soil: mathematics of classes: a class can be just if some soil of the mix has it. -/
import Derived.Test.YtfmbnobkenngaaaHB
namespace Go.Proofs.Ytfmbnobkenngaaa
open Go.RowKit En
theorem clStep_bit (m : MixD) (sand : Int) (set : Nat) (silt : Int) (c : Nat) : (clStep m sand set silt).testBit c = true ↔ set.testBit c = true ∨ (inS m.clay (20 - sand - silt) = true ∧ classN sand silt (20 - sand - silt) = c) := by
  unfold clStep
  cases h : inS m.clay (20 - sand - silt)
  · simp
  · simp [Nat.testBit_or, Nat.testBit_two_pow]
theorem clRow_bit (m : MixD) (sand : Int) (set n c : Nat) : (clRow m sand set n).testBit c = true ↔ set.testBit c = true ∨ ∃ j : Nat, j < n ∧ inS m.clay (20 - sand - (m.silt.lo + (j : Int))) = true ∧ classN sand (m.silt.lo + (j : Int)) (20 - sand - (m.silt.lo + (j : Int))) = c := by
  induction n with
  | zero => simp [clRow]
  | succ n ih =>
    rw [clRow_succ, clStep_bit, ih]
    constructor
    · rintro ((h | ⟨j, h1, h2⟩) | h)
      · exact .inl h
      · exact .inr ⟨j, by omega, h2⟩
      · exact .inr ⟨n, by omega, h⟩
    · rintro (h | ⟨j, h1, h2⟩)
      · exact .inl (.inl h)
      · rcases Nat.lt_succ_iff_lt_or_eq.1 h1 with h | rfl
        · exact .inl (.inr ⟨j, h, h2⟩)
        · exact .inr h2
theorem clAll_bit (m : MixD) (n c : Nat) : (clAll m n).testBit c = true ↔ ∃ i j : Nat, i < n ∧ j < lenS m.silt ∧ inS m.clay (20 - (m.sand.lo + (i : Int)) - (m.silt.lo + (j : Int))) = true ∧ classN (m.sand.lo + (i : Int)) (m.silt.lo + (j : Int)) (20 - (m.sand.lo + (i : Int)) - (m.silt.lo + (j : Int))) = c := by
  induction n with
  | zero => simp [clAll]
  | succ n ih =>
    rw [clAll_succ, clRow_bit, ih]
    constructor
    · rintro (⟨i, j, h1, h2⟩ | ⟨j, h1, h2⟩)
      · exact ⟨i, j, by omega, h2⟩
      · exact ⟨n, j, by omega, h1, h2⟩
    · rintro ⟨i, j, h1, h2, h3⟩
      rcases Nat.lt_succ_iff_lt_or_eq.1 h1 with h | rfl
      · exact .inl ⟨i, j, h, h2, h3⟩
      · exact .inr ⟨j, h2, h3⟩
theorem classes_bit (m : MixD) (c : Nat) : (classesM m).testBit c = true ↔ ∃ s : S3, sum20 s ∧ InM m s ∧ classN s.a s.b s.c = c := by
  unfold classesM
  rw [clAll_bit]
  constructor
  · rintro ⟨i, j, h1, h2, h3, h4⟩
    simp only [inS, Bool.and_eq_true, decide_eq_true_eq] at h3
    unfold lenS at h1 h2
    refine ⟨⟨m.sand.lo + (i : Int), m.silt.lo + (j : Int), 20 - (m.sand.lo + (i : Int)) - (m.silt.lo + (j : Int))⟩, by simp only [sum20]; omega, ?_, h4⟩
    simp only [InM]; omega
  · rintro ⟨⟨x, y, z⟩, h1, h2, h3⟩
    simp only [sum20, InM] at h1 h2 h3
    refine ⟨(x - m.sand.lo).toNat, (y - m.silt.lo).toNat, by unfold lenS; omega, by unfold lenS; omega, ?_, ?_⟩
    · simp only [inS, Bool.and_eq_true, decide_eq_true_eq]; omega
    · rw [show m.sand.lo + ((x - m.sand.lo).toNat : Int) = x by omega, show m.silt.lo + ((y - m.silt.lo).toNat : Int) = y by omega, show 20 - x - y = z by omega]
      exact h3
/-- Sets of classes are the same if their bits are. -/
theorem bits_ext {a b : Nat} (h : ∀ c, a.testBit c = true ↔ b.testBit c = true) : a = b := Nat.eq_of_testBit_eq fun c => Bool.eq_iff_iff.2 (h c)
end Go.Proofs.Ytfmbnobkenngaaa
