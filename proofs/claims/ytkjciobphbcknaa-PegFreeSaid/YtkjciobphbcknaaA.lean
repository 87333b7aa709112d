/- Package peg: the kit of these proofs, and its smallest functions. -/
import Derived.Test.YtkjciobphbcknaaRows
import Derived.WalkKit
import Derived.WalkSpells
import Derived.WalkLawsBesides
import Derived.BigQuiet
import Derived.Deep.QuietTactic
import Derived.Lib.Hide
namespace Go.Proofs.Ytkjciobphbcknaa
open Go.RowKit

/-- Of what was there nothing has turned. (A plain definition: the walk does not open it.) -/
def Kept (w w' : World) : Prop := Below w.heap.size w w'
section
variable {w W w1 : World}
theorem Kept.refl (w : World) : Kept w w := Below.refl _ _
theorem Kept.alloc (h : Kept w W) (o : Obj) : Kept w (W.alloc o) := Below.alloc h (Below.size h) o
theorem Kept.drew (h : Kept w W) : Kept w W.drew := Below.drew h
theorem Kept.setCell (h : Kept w W) {p : Addr} (hp : w.heap.size ≤ p.block) (v : Value) : Kept w (W.setCell p v) := Below.setCell h hp v
/-- One callee further (behind none, one, two, three new blocks). -/
theorem Kept.step0 (h : Kept w W) (hb : Kept W w1) : Kept w w1 := Below.trans h (Below.mono hb (Below.size h))
theorem Kept.step1 {o : Obj} (h : Kept w W) (hb : Kept (W.alloc o) w1) : Kept w w1 := Kept.step0 (h.alloc o) hb
theorem Kept.step2 {o o' : Obj} (h : Kept w W) (hb : Kept ((W.alloc o).alloc o') w1) : Kept w w1 := Kept.step1 (h.alloc o) hb
theorem Kept.step3 {o o' o2 : Obj} (h : Kept w W) (hb : Kept (((W.alloc o).alloc o').alloc o2) w1) : Kept w w1 := Kept.step2 (h.alloc o) hb
theorem Kept.cells (h : Kept W w1) : ∀ b o, b < W.heap.size → w1.cell? ⟨b, o, none⟩ = W.cell? ⟨b, o, none⟩ := fun b o hb => Below.cell (p := ⟨b, o, none⟩) h hb
theorem Kept.frozens (h : Kept W w1) : ∀ b o, b < W.heap.size → w1.frozen? ⟨b, o, none⟩ = W.frozen? ⟨b, o, none⟩ := fun b o hb => Below.frozen (p := ⟨b, o, none⟩) h hb
theorem Kept.size (h : Kept W w1) : W.heap.size ≤ w1.heap.size := Below.size h
theorem Kept.lt {m : Nat} (h : Kept W w1) (hm : m < W.heap.size) : m < w1.heap.size := Nat.lt_of_lt_of_le hm (Below.size h)
theorem Kept.lts (h : Kept W w1) : ∀ m, m < W.heap.size → m < w1.heap.size := fun _ hm => h.lt hm
theorem Kept.off (w : World) (o : Obj) (h : Kept (w.alloc o) W) : Kept w W := ((Kept.refl w).alloc o).step0 h
end

structure Post where
  xlo : Int
  xhi : Int
  ylo : Int
  yhi : Int
structure Len where
  a : Int
  b : Int
  lo : Int
  hi : Int

def PostsIn (w : World) (pa : Option Addr) (ps : List Post) : Prop :=
  ∀ i p, ps[i]? = some p → ∃ b o, pa = some ⟨b, o, none⟩ ∧ b < w.heap.size ∧ w.cell? ⟨b, o + i * 4, none⟩ = some (.int .i64 p.xlo) ∧ w.cell? ⟨b, o + i * 4 + 1, none⟩ = some (.int .i64 p.xhi) ∧
    w.cell? ⟨b, o + i * 4 + 2, none⟩ = some (.int .i64 p.ylo) ∧ w.cell? ⟨b, o + i * 4 + 3, none⟩ = some (.int .i64 p.yhi)
def LensIn (w : World) (pa : Option Addr) (ls : List Len) : Prop :=
  ∀ i l, ls[i]? = some l → ∃ b o, pa = some ⟨b, o, none⟩ ∧ b < w.heap.size ∧ w.cell? ⟨b, o + i * 4, none⟩ = some (.int .i64 l.a) ∧ w.cell? ⟨b, o + i * 4 + 1, none⟩ = some (.int .i64 l.b) ∧
    w.cell? ⟨b, o + i * 4 + 2, none⟩ = some (.int .i64 l.lo) ∧ w.cell? ⟨b, o + i * 4 + 3, none⟩ = some (.int .i64 l.hi)

theorem PostsIn.kept {w w' : World} {pa : Option Addr} {ps : List Post} (h : PostsIn w pa ps) (hb : Kept w w') : PostsIn w' pa ps := by
  intro i p hi
  obtain ⟨b, o, rfl, hlt, c1, c2, c3, c4⟩ := h i p hi
  have hc := hb.cells
  exact ⟨b, o, rfl, Nat.lt_of_lt_of_le hlt hb.size, by rw [hc _ _ hlt]; exact c1, by rw [hc _ _ hlt]; exact c2, by rw [hc _ _ hlt]; exact c3, by rw [hc _ _ hlt]; exact c4⟩
theorem LensIn.kept {w w' : World} {pa : Option Addr} {ps : List Len} (h : LensIn w pa ps) (hb : Kept w w') : LensIn w' pa ps := by
  intro i p hi
  obtain ⟨b, o, rfl, hlt, c1, c2, c3, c4⟩ := h i p hi
  have hc := hb.cells
  exact ⟨b, o, rfl, Nat.lt_of_lt_of_le hlt hb.size, by rw [hc _ _ hlt]; exact c1, by rw [hc _ _ hlt]; exact c2, by rw [hc _ _ hlt]; exact c3, by rw [hc _ _ hlt]; exact c4⟩

def withinB (lo hi m : Int) : Bool := decide (0 ≤ lo) && decide (lo ≤ hi) && decide (hi ≤ m)
def narrowB (lo hi m : Int) : Bool := withinB lo hi m && decide (hi - lo ≤ 2)
def isPegB (n : Nat) (i : Int) : Bool := decide (0 ≤ i) && decide (i < n)
def postB (side : Int) (p : Post) : Bool := narrowB p.xlo p.xhi side && narrowB p.ylo p.yhi side
def lenB (n : Nat) (l : Len) : Bool := isPegB n l.a && isPegB n l.b && !decide (l.a = l.b) && withinB l.lo l.hi 30

theorem withinB_true {lo hi m : Int} (h : withinB lo hi m = true) : 0 ≤ lo ∧ lo ≤ hi ∧ hi ≤ m := by simpa [withinB, and_assoc] using h

set_option maxHeartbeats 400000 in
theorem within_any (lo hi m : Int) (w : World) :
    Calls Try.prog 89 #[.agg #[.int .i64 lo, .int .i64 hi], .int .i64 m] w fun e w' => e = .returned (.bool (withinB lo hi m)) ∧ Kept w w' := by
  by_cases h1 : 0 ≤ lo <;> by_cases h2 : lo ≤ hi <;> by_cases h3 : hi ≤ m <;> go_enter Try.func89, Try.ntmps89 <;> go_wp2
  all_goals
    go_ret
    exact ⟨by simp [withinB, *], (Kept.refl _).alloc _⟩

set_option maxHeartbeats 400000 in
theorem narrow_any (lo hi m : Int) (w : World) (hm : m ≤ 100000) :
    Calls Try.prog 88 #[.agg #[.int .i64 lo, .int .i64 hi], .int .i64 m] w fun e w' => e = .returned (.bool (narrowB lo hi m)) ∧ Kept w w' := by
  by_cases hv : withinB lo hi m = true
  · obtain ⟨h0, h1, h2⟩ := withinB_true hv
    have HN : Hid (narrowB lo hi m = decide (hi - lo ≤ 2)) := by simp [Hid, narrowB, hv]
    have H := Lib.hid hv; clear hv
    go_enter Try.func88, Try.ntmps88
    go_wp2_with (go_at_call 89; refine (within_any _ _ _ _).mono ?_; rintro e w1 ⟨rfl, hb⟩; have hc := hb.cells; rw [H.out])
    go_ret
    exact ⟨by rw [HN.out]; rfl, hb.off _ _⟩
  · have hv' : withinB lo hi m = false := by simpa using hv
    have HN : Hid (narrowB lo hi m = false) := by simp [Hid, narrowB, hv']
    have H := Lib.hid hv'; clear hv hv'
    go_enter Try.func88, Try.ntmps88
    go_wp2_with (go_at_call 89; refine (within_any _ _ _ _).mono ?_; rintro e w1 ⟨rfl, hb⟩; have hc := hb.cells; rw [H.out])
    go_ret
    exact ⟨by rw [HN.out]; rfl, hb.off _ _⟩

set_option maxHeartbeats 400000 in
theorem isPeg_any (side i : Int) (pa la : Option Addr) (pl pc ll lc : Nat) (w : World) :
    Calls Try.prog 78 #[.agg #[.int .i64 side, .slice pa pl pc, .slice la ll lc], .int .i64 i] w fun e w' => e = .returned (.bool (isPegB pl i)) ∧ Kept w w' := by
  by_cases h1 : 0 ≤ i <;> by_cases h2 : i < (pl : Int) <;> go_enter Try.func78, Try.ntmps78 <;> go_wp2
  all_goals
    go_ret
    exact ⟨by simp [isPegB, *], (Kept.refl _).alloc _⟩
end Go.Proofs.Ytkjciobphbcknaa
