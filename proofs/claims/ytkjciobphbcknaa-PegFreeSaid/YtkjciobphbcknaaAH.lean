/- Package peg: Back, as it is called. -/
import Derived.Test.YtkjciobphbcknaaAG
namespace Go.Proofs.Ytkjciobphbcknaa
open Go.RowKit

set_option maxHeartbeats 4000000 in
theorem back_any (p : PegsD) (i : Int) (pa la : Option Addr) (pc lc : Nat) (w : World) (hm : p.ps.length ≤ 9223372036854775807) (hm2 : p.ls.length ≤ 9223372036854775807) (hp : PegsIn w p pa la) :
    Calls Try.prog 19 #[.agg #[.int .i64 p.side, .slice pa p.ps.length pc, .slice la p.ls.length lc], .int .i64 i] w
      fun e w' => e = .returned (.tuple #[encSpan (valOf (0, 0) (backR p i)), .int .i64 (errOf (backR p i))]) ∧ Kept w w' := by
  have hmf : ∀ (fn : Fn) (first cap : Array Value) (w : World), (Instr.makeFunc fn first cap).run Try.prog w = .ok (.func fn first cap) w := fun _ _ _ _ => rfl
  have HP := Lib.hid hp
  have kW : Kept w (((((w.alloc (Obj.cells #[.int .i64 p.side, .slice pa p.ps.length pc, .slice la p.ls.length lc] 25)).alloc (.cells #[.int .i64 i] 3)).alloc (.cells #[.int .i64 0, .int .i64 0] 32)).alloc (.cells #[.int .i64 0, .int .i64 0] 32)).alloc (.cells #[.int .i64 0] 28)) := (((((Kept.refl _).alloc _).alloc _).alloc _).alloc _).alloc _
  have h1 := Lib.hid (back1_any p i w.heap.size (w.heap.size + 1) pa la pc lc _ hm hm2 (HP.out.kept kW) (by simp [go_sem]) (by simp [go_sem]) (by simp [go_sem]) (by simp [go_sem]))
  have hC := Lib.hid (told58_any 59 #[.pointer (some ⟨w.heap.size, 0, none⟩), .pointer (some ⟨w.heap.size + 1, 0, none⟩)] (((w.alloc (Obj.cells #[.int .i64 p.side, .slice pa p.ps.length pc, .slice la p.ls.length lc] 25)).alloc (.cells #[.int .i64 i] 3)).alloc (.cells #[.int .i64 0, .int .i64 0] 32)) (backR p i) enter59 h1.out)
  clear hp kW h1
  simp only [encSpan] at hC ⊢
  generalize valOf (0, 0) (backR p i) = g at *
  obtain ⟨lo, hi⟩ := g
  generalize errOf (backR p i) = n at *
  simp only at hC ⊢
  go_enter Try.func19, Try.ntmps19
  go_wp2_with (go_at_call 58; refine hC.out.mono ?_; rintro e w1 ⟨rfl, hb1⟩; have hc1 := hb1.cells; have hz1 := hb1.frozens; have hl1 := hb1.lts)
  have x0 : w1.cell? ⟨w.heap.size + 1 + 1, 0, none⟩ = some (.int .i64 0) := by rw [hc1 _ _ (by simp)]; simp [go_sem]
  have x1 : w1.cell? ⟨w.heap.size + 1 + 1, 1, none⟩ = some (.int .i64 0) := by rw [hc1 _ _ (by simp)]; simp [go_sem]
  refine bodyPost_ret (v := .tuple #[.agg #[.int .i64 lo, .int .i64 hi], .int .i64 n]) (by simp [results, Try.results19, go_sem, x0, x1]) rfl ?_
  have kk : Kept w w1 := Kept.step0 (((Kept.refl _).alloc _).alloc _) (Kept.off _ _ hb1)
  exact ⟨rfl, (kk.setCell (p := ⟨w.heap.size + 1 + 1, 0, none⟩) (by simp; omega) _).setCell (p := ⟨w.heap.size + 1 + 1, 1, none⟩) (by simp; omega) _⟩
end Go.Proofs.Ytkjciobphbcknaa
