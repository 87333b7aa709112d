/- Furrow: the document's own power, Has, Shallow, Soil. -/
import Derived.Test.YtjdeplehhmhpcaaGL
namespace Go.Proofs.Ytjdeplehhmhpcaa
open Go.RowKit En

set_option maxRecDepth 100000 in
set_option maxHeartbeats 4000000 in
theorem powerK (c : Nat) (hc : c ≤ 30) (w : World) : Gives Try.prog 59 [.int .i64 (c : Int)] w (.int .i64 ((2 ^ c : Nat) : Int)) := by
  refine .mk <| enter (n := 13) Try.func59 rfl rfl rfl (by repeat (first | exact Fill.nil | apply Fill.cons)) ?_
  refine cw_seq ?_
  refine cw_region ?_
  refine lstepB rfl rfl rfl (run_assign .const) ?_
  refine lnil ?_
  refine xw_then ?_
  refine cw_seq ?_
  refine cw_region ?_
  refine lstepB rfl rfl rfl (run_assign .const) ?_
  refine lnil ?_
  refine xw_then ?_
  refine cw_seq ?_
  refine cw_seq ?_
  refine cw_region ?_
  refine lstepB rfl rfl rfl (run_assign .const) ?_
  refine lnil ?_
  refine xw_then ?_
  refine cw_block ?_
  refine cw_loop (S := Nat) (fun k => [(4, .int .i64 ((k : Nat) : Int)), (3, .int .i64 ((2 ^ k : Nat) : Int))]) [(0, _)] (fun k => []) (fun k => k ≤ c) (fun k => c - k) 0 (Nat.zero_le _) (by repeat (first | exact Less.nil | refine Less.cons rfl ?_)) (by repeat (first | exact Pick.nil | (apply Pick.cons; focus (repeat (first | exact Del.here | apply Del.there))))) ?_
  intro k hk
  refine cw_seq ?_
  refine cw_seq ?_
  refine cw_region ?_
  refine lstepB rfl rfl rfl (run_move (.tmp rfl)) ?_
  refine lstepB rfl rfl rfl (run_move (.tmp rfl)) ?_
  refine lstepB rfl rfl rfl (run_lss (.tmp rfl) (.tmp rfl) rfl) ?_
  refine lnil ?_
  refine xw_then ?_
  refine cw_cond_p (.tmp rfl) (fun hl => ?_) (fun hl => ?_)
  ·
    have hp : 2 ^ k ≤ 2 ^ 30 := Nat.pow_le_pow_right (by omega) (by omega)
    have hs : (2 : Int) * ((2 ^ k : Nat) : Int) = ((2 ^ (k + 1) : Nat) : Int) := by rw [Nat.pow_succ, Int.natCast_mul, Int.mul_comm]; rfl
    have hpi : ((2 ^ k : Nat) : Int) ≤ 1073741824 := Int.ofNat_le.2 hp
    have hpn : 0 ≤ ((2 ^ k : Nat) : Int) := Int.natCast_nonneg _
    have hwr : IntKind.i64.wrap (2 * ((2 ^ k : Nat) : Int)) = 2 * ((2 ^ k : Nat) : Int) := by
      obtain ⟨p, hp3⟩ : ∃ p, ((2 ^ k : Nat) : Int) = p := ⟨_, rfl⟩
      rw [hp3] at hpi hpn ⊢
      exact IntWalk.i64_in _ (by omega)
    refine cw_skip ?_
    refine xw_then ?_
    refine cw_seq ?_
    refine cw_block ?_
    refine cw_region ?_
    refine lstepB rfl rfl rfl (run_move (.tmp rfl)) ?_
    refine lstepB rfl rfl rfl (run_mul (c := ((2 ^ (k + 1) : Nat) : Int)) .const (.tmp rfl) (by rw [hwr]; exact hs)) ?_
    refine lstepB rfl rfl rfl (run_assign (.tmp rfl)) ?_
    refine lnil ?_
    refine xw_in ?_
    refine xw_then ?_
    refine cw_region ?_
    refine lstepB rfl rfl rfl (run_move (.tmp rfl)) ?_
    refine lstepB rfl rfl rfl (run_add (.tmp rfl) .const (by first | exact IntWalk.i64_in _ (by omega) | exact rfl)) ?_
    refine lstepB rfl rfl rfl (run_assign (.tmp rfl)) ?_
    refine lnil ?_
    exact xw_round (k + 1) (by show k + 1 ≤ _; omega) (by show c - (k + 1) < c - k; omega) (by repeat (first | exact Less.nil | refine Less.cons rfl ?_)) (by repeat (first | exact Pick.nil | (apply Pick.cons; focus (repeat (first | exact Del.here | apply Del.there)))))
  ·
    obtain rfl : k = c := by omega
    refine cw_exit ?_
    refine xw_then_exit ?_
    refine xw_then_exit ?_
    refine xw_in_exit ?_
    refine xw_then ?_
    refine cw_seq ?_
    refine cw_region ?_
    refine lstepB rfl rfl rfl (run_move (.tmp rfl)) ?_
    refine lstepB rfl rfl rfl (run_assign (.tmp rfl)) ?_
    refine lnil ?_
    refine xw_then ?_
    refine cw_ret ?_
    refine xw_ret1 Try.results59 rfl (fun w hS => ⟨rfl, hS.kept⟩)
theorem note_add {x k : Nat} (h : x < 2 ^ k) : noteN x k true = x + 2 ^ k := by
  show x ||| 2 ^ k = _
  rw [Nat.or_comm, Nat.add_comm x, ← Nat.mul_one (2 ^ k), ← Nat.two_pow_add_eq_or_of_lt h 1]
theorem pow9U : ∀ c : Fin 9, 2 ^ c.1 ≤ 256 := by decide +kernel
end Go.Proofs.Ytjdeplehhmhpcaa
