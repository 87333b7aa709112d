/- The document's answers: numbers, spans, pegs that are. -/
import Derived.Test.YtkjciobphbcknaaC
namespace Go.Proofs.Ytkjciobphbcknaa
open Go.RowKit

def inB (n lo hi : Int) : Bool := decide (lo ≤ n) && decide (n ≤ hi)
set_option maxHeartbeats 400000 in
theorem rin_any (n lo hi : Int) (w : World) : Calls Try.prog 73 #[.int .i64 n, .int .i64 lo, .int .i64 hi] w fun e w' => e = .returned (.bool (inB n lo hi)) ∧ w' = w := by
  by_cases h1 : lo ≤ n <;> by_cases h2 : n ≤ hi <;> go_enter Try.func73, Try.ntmps73 <;> go_wp2
  all_goals
    go_ret
    exact ⟨by simp [inB, *], rfl⟩
set_option maxHeartbeats 400000 in
theorem rspan_any (a b lo hi : Int) (w : World) : Calls Try.prog 74 #[.agg #[.int .i64 a, .int .i64 b], .int .i64 lo, .int .i64 hi] w fun e w' => e = .returned (.bool (decide (lo ≤ a) && decide (a ≤ b) && decide (b ≤ hi))) ∧ Kept w w' := by
  by_cases h1 : lo ≤ a <;> by_cases h2 : a ≤ b <;> by_cases h3 : b ≤ hi <;> go_enter Try.func74, Try.ntmps74 <;> go_wp2
  all_goals
    go_ret
    exact ⟨by simp [*], (Kept.refl _).alloc _⟩
theorem rspan0_any (a b hi : Int) (w : World) : Calls Try.prog 74 #[.agg #[.int .i64 a, .int .i64 b], .int .i64 0, .int .i64 hi] w fun e w' => e = .returned (.bool (withinB a b hi)) ∧ Kept w w' := rspan_any a b 0 hi w
set_option maxHeartbeats 400000 in
theorem rPeg_any (side i : Int) (pa la : Option Addr) (pl pc ll lc : Nat) (w : World) (hm : pl ≤ 9223372036854775807) :
    Calls Try.prog 36 #[.agg #[.int .i64 side, .slice pa pl pc, .slice la ll lc], .int .i64 i] w fun e w' => e = .returned (.bool (isPegB pl i)) ∧ Kept w w' := by
  have HE : Hid (inB i 0 ((pl : Int) - 1) = isPegB pl i) := by
    simp only [Hid, inB, isPegB]
    congr 1
    rw [decide_eq_decide]; omega
  have h1 : (-9223372036854775808 : Int) ≤ (pl : Int) - 1 := by omega
  have h2 : (pl : Int) - 1 ≤ 9223372036854775807 := by omega
  go_enter Try.func36, Try.ntmps36
  go_wp2_with (go_at_call 73; refine (rin_any _ _ _ _).mono ?_; rintro e w1 ⟨rfl, rfl⟩)
  go_ret
  exact ⟨by rw [HE.out]; rfl, (Kept.refl _).alloc _⟩
end Go.Proofs.Ytkjciobphbcknaa
