/- Furrow: FurrowWorst's walk. -/
import Derived.Test.YtjdeplehhmhpcaaGG
namespace Go.Proofs.Ytjdeplehhmhpcaa
open Go.RowKit En

section
variable {P : Program} {E : Env} {w0 : World} {T : Nat → Prop} {H : Heap} {x y : Operand} {d : Option Tmp} {t tx ty tyy : TypeId} {pos : String} {af : Array Edge} {gd : Option (Nat × Bool)}
theorem run_shr {yk : IntKind} {a z : Nat} (hx : Ev E x (.int .i64 (a : Int))) (hy : Ev E y (.int yk (z : Int))) (hz : z ≤ 64) : RunB P E w0 T H ⟨d, .binOp .shr tx x y tyy, ty, pos, af, gd⟩ (.int .i64 ((a / 2 ^ z : Nat) : Int)) := fun ρ w hρ hS => by
  refine doneO rfl ?_
  have e1 := hρ x _ (by simp [Op.operands]) hx
  have e2 := hρ y _ (by simp [Op.operands]) hy
  have h0 : ¬ ((z : Int) < 0) := by omega
  have h1 : min z 64 = z := by omega
  obtain ⟨q, hq⟩ : ∃ q, a / 2 ^ z = q := ⟨_, rfl⟩
  have h2 : Int.fdiv (a : Int) (2 ^ z) = (q : Int) := by
    rw [← hq, Int.ofNat_fdiv]; simp
  have h3 : (a : Int) / 2 ^ z = (q : Int) := by rw [← hq]; simp
  rw [hq]
  simp [execOp, e1, e2, Done, go_sem, eqGuard, binOp, Op.shift, h0, h1, h2, h3, IntKind.bits, Below.refl]
end
theorem and_one {a : Nat} (ha : a < 2 ^ 32) : IntKind.i64.wrap ((BitVec.ofInt IntKind.i64.bits (a : Int) &&& BitVec.ofInt IntKind.i64.bits 1).toNat) = ((a % 2 : Nat) : Int) := by
  show IntKind.i64.wrap ((BitVec.ofInt 64 (a : Int) &&& BitVec.ofInt 64 1).toNat : Int) = _
  have h1 : BitVec.ofInt 64 (a : Int) = BitVec.ofNat 64 a := BitVec.ofInt_natCast ..
  have h2 : BitVec.ofInt 64 1 = BitVec.ofNat 64 1 := rfl
  rw [h1, h2, BitVec.toNat_and, BitVec.toNat_ofNat, BitVec.toNat_ofNat, Nat.mod_eq_of_lt (by omega), Nat.mod_eq_of_lt (by omega), Nat.and_one_is_mod]
  exact IntWalk.i64_in _ (by omega)
/-- A bit of a set, as a program asks for it. -/
def bitN (a k : Nat) : Nat := a / 2 ^ k % 2
theorem bitN_iff {a k : Nat} : bitN a k = 1 ↔ a.testBit k = true := by unfold bitN; rw [Nat.testBit_eq_decide_div_mod_eq, decide_eq_true_eq]
theorem bitN_zero {a k : Nat} : bitN a k = 0 ↔ a.testBit k = false := by
  rw [← Bool.not_eq_true, ← bitN_iff]
  have : bitN a k < 2 := Nat.mod_lt _ (by omega)
  omega
theorem nat_bits {a b : Nat} (h : ∀ j, a.testBit j = b.testBit j) : a = b := Nat.eq_of_testBit_eq h
end Go.Proofs.Ytjdeplehhmhpcaa
