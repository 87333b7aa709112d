/- Package peg: Where, as it is called. -/
import Derived.Test.YtkjciobphbcknaaAE
namespace Go.Proofs.Ytkjciobphbcknaa
open Go.RowKit

set_option maxHeartbeats 4000000 in
theorem where_any (p : PegsD) (i : Int) (pa la : Option Addr) (pc lc : Nat) (w : World) (hm : p.ps.length ≤ 9223372036854775807) (hm2 : p.ls.length ≤ 9223372036854775807) (hp : PegsIn w p pa la) :
    Calls Try.prog 15 #[.agg #[.int .i64 p.side, .slice pa p.ps.length pc, .slice la p.ls.length lc], .int .i64 i] w
      fun e w' => e = .returned (.tuple #[encSpan (valOf ((0, 0), (0, 0)) (whereR p i)).1, encSpan (valOf ((0, 0), (0, 0)) (whereR p i)).2, .int .i64 (errOf (whereR p i))]) ∧ Kept w w' := by
  have hmf : ∀ (fn : Fn) (first cap : Array Value) (w : World), (Instr.makeFunc fn first cap).run Try.prog w = .ok (.func fn first cap) w := fun _ _ _ _ => rfl
  have HP := Lib.hid hp
  have kW : Kept w ((((((w.alloc (Obj.cells #[.int .i64 p.side, .slice pa p.ps.length pc, .slice la p.ls.length lc] 25)).alloc (.cells #[.int .i64 i] 3)).alloc (.cells #[.int .i64 0, .int .i64 0] 32)).alloc (.cells #[.int .i64 0, .int .i64 0] 32)).alloc (.cells #[.int .i64 0, .int .i64 0, .int .i64 0, .int .i64 0] 85)).alloc (.cells #[.int .i64 0] 28)) := ((((((Kept.refl _).alloc _).alloc _).alloc _).alloc _).alloc _).alloc _
  have h1 := Lib.hid (where1_any p i w.heap.size (w.heap.size + 1) pa la pc lc _ hm hm2 (HP.out.kept kW) (by simp [go_sem]) (by simp [go_sem]) (by simp [go_sem]) (by simp [go_sem]))
  have hC := Lib.hid (told50_any 51 #[.pointer (some ⟨w.heap.size, 0, none⟩), .pointer (some ⟨w.heap.size + 1, 0, none⟩)] ((((w.alloc (Obj.cells #[.int .i64 p.side, .slice pa p.ps.length pc, .slice la p.ls.length lc] 25)).alloc (.cells #[.int .i64 i] 3)).alloc (.cells #[.int .i64 0, .int .i64 0] 32)).alloc (.cells #[.int .i64 0, .int .i64 0] 32)) (whereR p i) enter51 h1.out)
  clear hp kW h1
  simp only [encTwo, encSpan] at hC ⊢
  generalize valOf ((0, 0), (0, 0)) (whereR p i) = g at *
  obtain ⟨⟨lo, hi⟩, lo2, hi2⟩ := g
  generalize errOf (whereR p i) = n at *
  simp only at hC ⊢
  go_enter Try.func15, Try.ntmps15
  go_wp2_with (go_at_call 50; refine hC.out.mono ?_; rintro e w1 ⟨rfl, hb1⟩
               have hl1 := hb1.lts (w.heap.size + 1 + 1 + 1) (by simp)
               have hl2 := hb1.lts (w.heap.size + 1 + 1) (by simp)
               have x0 : w1.cell? ⟨w.heap.size + 1 + 1, 0, none⟩ = some (.int .i64 0) := by rw [hb1.cells _ _ (by simp)]; simp [go_sem]
               have x1 : w1.cell? ⟨w.heap.size + 1 + 1, 1, none⟩ = some (.int .i64 0) := by rw [hb1.cells _ _ (by simp)]; simp [go_sem]
               have x2 : w1.cell? ⟨w.heap.size + 1 + 1 + 1, 0, none⟩ = some (.int .i64 0) := by rw [hb1.cells _ _ (by simp)]; simp [go_sem]
               have x3 : w1.cell? ⟨w.heap.size + 1 + 1 + 1, 1, none⟩ = some (.int .i64 0) := by rw [hb1.cells _ _ (by simp)]; simp [go_sem]
               have y0 : w1.frozen? ⟨w.heap.size + 1 + 1, 0, none⟩ = false := by rw [hb1.frozens _ _ (by simp)]; simp [go_sem]
               have y1 : w1.frozen? ⟨w.heap.size + 1 + 1, 1, none⟩ = false := by rw [hb1.frozens _ _ (by simp)]; simp [go_sem]
               have y2 : w1.frozen? ⟨w.heap.size + 1 + 1 + 1, 0, none⟩ = false := by rw [hb1.frozens _ _ (by simp)]; simp [go_sem]
               have y3 : w1.frozen? ⟨w.heap.size + 1 + 1 + 1, 1, none⟩ = false := by rw [hb1.frozens _ _ (by simp)]; simp [go_sem])
  have hcc : ∀ (o : Obj), True := fun _ => trivial
  generalize hW5 : (w1.alloc (Obj.cells #[.int .i64 lo, .int .i64 hi, .int .i64 lo2, .int .i64 hi2] 85)) = W5 at *
  have hkw : Kept w W5 := by rw [← hW5]; exact (Kept.step0 ((((Kept.refl _).alloc _).alloc _).alloc _) (Kept.off _ _ hb1)).alloc _
  have f0 : W5.cell? ⟨w.heap.size + 1 + 1, 0, none⟩ = some (.int .i64 0) := by rw [← hW5]; simp [go_sem, x0, hl2]
  have f1 : W5.cell? ⟨w.heap.size + 1 + 1, 1, none⟩ = some (.int .i64 0) := by rw [← hW5]; simp [go_sem, x1, hl2]
  have f2 : W5.cell? ⟨w.heap.size + 1 + 1 + 1, 0, none⟩ = some (.int .i64 0) := by rw [← hW5]; simp [go_sem, x2, hl1]
  have f3 : W5.cell? ⟨w.heap.size + 1 + 1 + 1, 1, none⟩ = some (.int .i64 0) := by rw [← hW5]; simp [go_sem, x3, hl1]
  have g0 : W5.frozen? ⟨w.heap.size + 1 + 1, 0, none⟩ = false := by rw [← hW5]; simp [go_sem, y0, hl2]
  have g1 : W5.frozen? ⟨w.heap.size + 1 + 1, 1, none⟩ = false := by rw [← hW5]; simp [go_sem, y1, hl2]
  have g2 : W5.frozen? ⟨w.heap.size + 1 + 1 + 1, 0, none⟩ = false := by rw [← hW5]; simp [go_sem, y2, hl1]
  have g3 : W5.frozen? ⟨w.heap.size + 1 + 1 + 1, 1, none⟩ = false := by rw [← hW5]; simp [go_sem, y3, hl1]
  have e0 : W5.cell? ⟨w1.heap.size, 0, none⟩ = some (.int .i64 lo) := by rw [← hW5]; simp [go_sem]
  have e1 : W5.cell? ⟨w1.heap.size, 1, none⟩ = some (.int .i64 hi) := by rw [← hW5]; simp [go_sem]
  have e2 : W5.cell? ⟨w1.heap.size, 2, none⟩ = some (.int .i64 lo2) := by rw [← hW5]; simp [go_sem]
  have e3 : W5.cell? ⟨w1.heap.size, 3, none⟩ = some (.int .i64 hi2) := by rw [← hW5]; simp [go_sem]
  have HK := Lib.hid hkw
  generalize hb : w1.heap.size = b at *
  clear hW5 hcc x0 x1 x2 x3 y0 y1 y2 y3 hb1 hC hkw
  go_region
  go_wp2
  refine bodyPost_ret (v := .tuple #[.agg #[.int .i64 lo, .int .i64 hi], .agg #[.int .i64 lo2, .int .i64 hi2], .int .i64 n]) (by simp [results, Try.results15, go_sem, f0, f1, f2, f3]) rfl ?_
  refine ⟨rfl, Kept.drew ?_⟩
  exact (((HK.out.setCell (p := ⟨w.heap.size + 1 + 1, 0, none⟩) (by simp; omega) _).setCell (p := ⟨w.heap.size + 1 + 1, 1, none⟩) (by simp; omega) _).setCell (p := ⟨w.heap.size + 1 + 1 + 1, 0, none⟩) (by simp; omega) _).setCell (p := ⟨w.heap.size + 1 + 1 + 1, 1, none⟩) (by simp; omega) _
end Go.Proofs.Ytkjciobphbcknaa
