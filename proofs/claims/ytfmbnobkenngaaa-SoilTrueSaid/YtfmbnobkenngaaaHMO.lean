/- Soil: further operations (shifts, bits, an append of nothing). -/
import Derived.Test.YtfmbnobkenngaaaHE
namespace Go.Proofs.Ytfmbnobkenngaaa
open Go.RowKit En

section
variable {P : Program} {E : Env} {w0 : World} {T : Nat → Prop} {H : Heap} {x y : Operand} {d : Option Tmp} {t tx ty tyy : TypeId} {pos : String} {af : Array Edge} {gd : Option (Nat × Bool)}
theorem run_shr {yk : IntKind} {a z : Nat} (hx : Ev E x (.int .i64 (a : Int))) (hy : Ev E y (.int yk (z : Int))) (hz : z ≤ 64) : RunB P E w0 T H ⟨d, .binOp .shr tx x y tyy, ty, pos, af, gd⟩ (.int .i64 ((a / 2 ^ z : Nat) : Int)) := fun ρ w hρ hS => by
  refine doneO rfl ?_
  have e1 := hρ x _ (by simp [Op.operands]) hx
  have e2 := hρ y _ (by simp [Op.operands]) hy
  have h0 : ¬ ((z : Int) < 0) := by omega
  have h1 : min z 64 = z := by omega
  obtain ⟨q, hq⟩ : ∃ q, a / 2 ^ z = q := ⟨_, rfl⟩
  have h2 : Int.fdiv (a : Int) (2 ^ z) = (q : Int) := by
    rw [← hq, Int.ofNat_fdiv]; simp
  have h3 : (a : Int) / 2 ^ z = (q : Int) := by rw [← hq]; simp
  rw [hq]
  simp [execOp, e1, e2, Done, go_sem, eqGuard, binOp, Op.shift, h0, h1, h2, h3, IntKind.bits, Below.refl]
theorem run_and {k : IntKind} {a c c' : Int} (hx : Ev E x (.int k a)) (hy : Ev E y (.int k c)) (h : k.wrap ((BitVec.ofInt k.bits a &&& BitVec.ofInt k.bits c).toNat) = c') : RunB P E w0 T H ⟨d, .binOp .and tx x y tyy, ty, pos, af, gd⟩ (.int k c') := fun ρ w hρ hS => by
  refine doneO rfl ?_
  have e1 := hρ x _ (by simp [Op.operands]) hx
  have e2 := hρ y _ (by simp [Op.operands]) hy
  subst h
  simp [execOp, e1, e2, Done, go_sem, eqGuard, binOp, Op.intBits, Below.refl]
theorem run_append_empty {e sz by_ : Nat} {a1 a2 : Option Addr} {m cap c : Nat} (ht : appB P t e sz by_ = true) (hx : Ev E x (.slice a1 m cap)) (hm : m ≤ cap) (hy : Ev E y (.slice a2 0 c)) :
    RunB P E w0 T H ⟨d, .call ⟨.builtin .append, [x, y].toArray, [t, t].toArray⟩, ty, pos, af, gd⟩ (.slice a1 m cap) := fun ρ w hρ hS => by
  refine doneO rfl ?_
  have e1 := hρ x _ (by simp [Op.operands, Call.operands]) hx
  have e2 := hρ y _ (by simp [Op.operands, Call.operands]) hy
  obtain ⟨hsl, i, z, hi, hz, rfl, rfl, hzs⟩ := appT_of ht
  have hf : (Builtin.firstCells i.size 0 (.slice a2 0 c)).run P w = .ok #[] w := by
    cases a2 with
    | none => simp [run_firstCells_none]
    | some a =>
      have := run_firstCells_some (P := P) w i.size 0 a 0 c [] (by simp) (by simp)
      simpa using this
  have hr : (Builtin.append_ #[t, t] ty #[.slice a1 m cap, .slice a2 0 c]).run P w = .ok (.slice a1 m cap) w := by
    cases a1 <;> simp [Builtin.append_, run_underlying hsl, sizeOf, typeInfo, hi, Builtin.lenOf, hf, hm, storeCells]
  rw [done_append e1 e2 hr]
  exact ⟨rfl, Below.refl _ _⟩
end
theorem and_one {a : Nat} (ha : a < 2 ^ 32) : IntKind.i64.wrap ((BitVec.ofInt IntKind.i64.bits (a : Int) &&& BitVec.ofInt IntKind.i64.bits 1).toNat) = ((a % 2 : Nat) : Int) := by
  show IntKind.i64.wrap ((BitVec.ofInt 64 (a : Int) &&& BitVec.ofInt 64 1).toNat : Int) = _
  have h1 : BitVec.ofInt 64 (a : Int) = BitVec.ofNat 64 a := BitVec.ofInt_natCast ..
  have h2 : BitVec.ofInt 64 1 = BitVec.ofNat 64 1 := rfl
  rw [h1, h2, BitVec.toNat_and, BitVec.toNat_ofNat, BitVec.toNat_ofNat, Nat.mod_eq_of_lt (by omega), Nat.mod_eq_of_lt (by omega), Nat.and_one_is_mod]
  exact IntWalk.i64_in _ (by omega)
theorem bit_eq {a b i j : Nat} (h : a.testBit i = b.testBit j) : a / 2 ^ i % 2 = b / 2 ^ j % 2 := by
  rw [Nat.testBit_eq_decide_div_mod_eq, Nat.testBit_eq_decide_div_mod_eq, decide_eq_decide] at h
  omega
theorem pits_succ {l : List PitD} {k : Nat} {p : PitD} (h : l[k]? = some p) : pitsC (l.take k) ++ pitC p = pitsC (l.take (k + 1)) := by
  rw [List.take_add_one, h]
  simp [pitsC, List.flatMap_append]
end Go.Proofs.Ytfmbnobkenngaaa
