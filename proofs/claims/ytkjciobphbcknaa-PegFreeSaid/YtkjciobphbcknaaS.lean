/- Package peg: what hears of the truths. -/
import Derived.Test.YtkjciobphbcknaaR
namespace Go.Proofs.Ytkjciobphbcknaa
open Go.RowKit

section
variable {T : Nat → Prop} {A B : World}
theorem KeptT.kept {C : World} (h : KeptT T A B) (k : Kept B C) : KeptT T A C := h.below (Below.mono k h.size)
theorem KeptT.alloc (h : KeptT T A B) (o : Obj) : KeptT T A (B.alloc o) := h.kept ((Kept.refl _).alloc _)
theorem KeptT.drew (h : KeptT T A B) : KeptT T A B.drew := h.kept (Kept.refl _).drew
theorem KeptT.setCell (h : KeptT T A B) {b : Nat} (hb : T b) (o : Nat) (v : Value) : KeptT T A (B.setCell ⟨b, o, none⟩ v) := h.trans ((keptT_setCell _ _ _ _).imp (fun _ e => e ▸ hb))
end

/-- The cells of the suspects at block b. -/
def SusAt (b : Nat) (all g : Int) (none : Bool) (W : World) : Prop :=
  b < W.heap.size ∧ W.cell? ⟨b, 0, .none⟩ = some (.int .i64 all) ∧ W.cell? ⟨b, 1, .none⟩ = some (.int .i64 g) ∧ W.cell? ⟨b, 2, .none⟩ = some (.bool none) ∧
  W.frozen? ⟨b, 0, .none⟩ = false ∧ W.frozen? ⟨b, 1, .none⟩ = false ∧ W.frozen? ⟨b, 2, .none⟩ = false
def susStep (s : Int × Bool) (x : At × Int) : Int × Bool := if x.2 = -1 then (s.1, true) else (bits .or .i64 s.1 (2 ^ x.2.toNat), s.2)
def susH (b : Nat) (all : Int) : Hearer where
  σ := Int × Bool
  T := fun k => k = b
  H := fun s W => SusAt b all s.1 s.2 W
  step := susStep
  cont := fun s x => !(susStep s x).2 || decide ((susStep s x).1 ≠ all)

set_option maxHeartbeats 2000000 in
theorem sus_law (b : Nat) (all : Int) : (susH b all).Law 121 (.pointer (some ⟨b, 0, none⟩)) := by
  rintro ⟨g, nn⟩ ⟨x, m⟩ W ⟨hb, c0, c1, c2, f0, f1, f2⟩ hx h1 h2
  change Calls _ _ _ _ fun e W' => e = .returned (.bool (!(susStep (g, nn) (x, m)).2 || decide ((susStep (g, nn) (x, m)).1 ≠ all))) ∧ SusAt b all (susStep (g, nn) (x, m)).1 (susStep (g, nn) (x, m)).2 W' ∧ KeptT (fun k => k = b) W W'
  go_enter Try.func121, Try.ntmps121
  by_cases hm : m = -1
  · subst hm
    rw [show susStep (g, nn) (x, -1) = (g, true) from by simp [susStep]]
    go_wp2
    go_region
    go_wp2
    go_ret
    refine ⟨ret_bool ?_, ⟨by simp; omega, by go_simp, by go_simp, by go_simp, by go_simp, by go_simp, by go_simp⟩, ?_⟩
    · rfl
    · repeat (first | exact KeptT.refl _ | refine KeptT.drew ?_ | refine KeptT.alloc ?_ _ | exact keptT_setCell _ _ _ _)
  · rw [show susStep (g, nn) (x, m) = (bits .or .i64 g (2 ^ m.toNat), nn) from by simp [susStep, hm]]
    have hw : IntKind.i64.wrap (2 ^ m.toNat) = 2 ^ m.toNat := by
      have : m = 0 ∨ m = 1 ∨ m = 2 ∨ m = 3 := by omega
      rcases this with rfl | rfl | rfl | rfl <;> rfl
    go_wp2
    go_region
    go_wp2
    cases nn
    all_goals
      go_region
      go_wp2
      go_ret
      refine ⟨ret_bool ?_, ⟨by simp; omega, by go_simp, by go_simp, by go_simp, by go_simp, by go_simp, by go_simp⟩, ?_⟩
    · simp
    · repeat (first | exact KeptT.refl _ | refine KeptT.drew ?_ | refine KeptT.alloc ?_ _ | exact keptT_setCell _ _ _ _)
    · rfl
    · repeat (first | exact KeptT.refl _ | refine KeptT.drew ?_ | refine KeptT.alloc ?_ _ | exact keptT_setCell _ _ _ _)
end Go.Proofs.Ytkjciobphbcknaa
