/- Package peg: where each peg can be. -/
import Derived.Test.YtkjciobphbcknaaH
namespace Go.Proofs.Ytkjciobphbcknaa
open Go.RowKit

set_option maxHeartbeats 1000000 in
theorem spots1_any (s : Pl) (hb ib k : Nat) (pa : Option Addr) (pc : Nat) (H : List Pl) (w : World) (hk : k < 4) (h1 : w.cell? ⟨hb, k, none⟩ = some (.slice pa H.length pc)) (h2 : w.cell? ⟨ib, 0, none⟩ = some (.int .i64 k))
    (hH : PlsIn w pa H) (hlen : H.length ≤ 1000) :
    Calls Try.prog 99 #[.agg #[.int .i64 s.x, .int .i64 s.y], .pointer (some ⟨hb, 0, none⟩), .pointer (some ⟨ib, 0, none⟩)] w fun e w' => e = .returned (.bool (decide (s ∈ H))) ∧ Kept w w' := by
  have HH := Lib.hid hH
  clear hH
  have l1 := World.block_lt_of_cell? w _ h1
  have l2 := World.block_lt_of_cell? w _ h2
  have i1 : (0 : Int) ≤ (k : Int) := by omega
  have i2 : (k : Int) < 4 := by omega
  have k0 : Kept w (w.alloc (Obj.cells #[.int .i64 s.x, .int .i64 s.y] 93)) := (Kept.refl _).alloc _
  go_enter Try.func99, Try.ntmps99
  go_wp2_with fail
  go_region_held3 (fun w' => w'.cell? ⟨hb, k, none⟩ = some (.slice pa H.length pc) ∧ w'.cell? ⟨ib, 0, none⟩ = some (.int .i64 k) ∧ w'.cell? ⟨w.heap.size, 0, none⟩ = some (.int .i64 s.x) ∧ w'.cell? ⟨w.heap.size, 1, none⟩ = some (.int .i64 s.y) ∧ w.heap.size < w'.heap.size ∧ Kept w w')
    (first
      | assumption
      | (go_keep; done)
      | (simp [*, World.cell?_alloc_some, Kept.alloc, Kept.drew]; done)
      | (refine ⟨?_, ?_, ?_, ?_, ?_, ?_⟩ <;> first
           | (go_keep; done)
           | (simp [*, Kept.alloc, Kept.drew]; done)
           | (simp [*]; omega)
           | (rw [hb1.cells _ _ (by omega)]; simp only [*])
           | (rw [hb1.cells _ _ (by simp; omega)]; simp [*])
           | exact hb1.lt (by simp [*])
           | exact Kept.step0 (k0.drew) hb1))
    (first
      | (go_at_call 100; refine (contains_any H pa pc s _ (HH.out.kept (k0.drew)) hlen).mono ?_; rintro e w1 ⟨rfl, hb1⟩))
  rename_i hh
  obtain ⟨_, _, _, _, _, hk2⟩ := hh
  go_wp2
  go_ret
  exact ⟨rfl, hk2⟩
end Go.Proofs.Ytkjciobphbcknaa
