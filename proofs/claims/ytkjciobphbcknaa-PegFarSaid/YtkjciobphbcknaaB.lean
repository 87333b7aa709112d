/- Package peg: which pegs are valid. -/
import Derived.Test.YtkjciobphbcknaaRows
import Derived.WalkKit
import Derived.WalkSpells
import Derived.WalkLawsBesides
import Derived.BigQuiet
import Derived.Deep.QuietTactic
import Derived.Lib.Hide
namespace Go.Proofs.Ytkjciobphbcknaa
open Go.RowKit

/-- Of what was there nothing has turned. (A plain definition: the walk does not open it.) -/
def Kept (w w' : World) : Prop := Below w.heap.size w w'
section
variable {w W w1 : World}
theorem Kept.refl (w : World) : Kept w w := Below.refl _ _
theorem Kept.alloc (h : Kept w W) (o : Obj) : Kept w (W.alloc o) := Below.alloc h (Below.size h) o
theorem Kept.drew (h : Kept w W) : Kept w W.drew := Below.drew h
theorem Kept.setCell (h : Kept w W) {p : Addr} (hp : w.heap.size ≤ p.block) (v : Value) : Kept w (W.setCell p v) := Below.setCell h hp v
/-- One callee further (behind none, one, two, three new blocks). -/
theorem Kept.step0 (h : Kept w W) (hb : Kept W w1) : Kept w w1 := Below.trans h (Below.mono hb (Below.size h))
theorem Kept.step1 {o : Obj} (h : Kept w W) (hb : Kept (W.alloc o) w1) : Kept w w1 := Kept.step0 (h.alloc o) hb
theorem Kept.step2 {o o' : Obj} (h : Kept w W) (hb : Kept ((W.alloc o).alloc o') w1) : Kept w w1 := Kept.step1 (h.alloc o) hb
theorem Kept.step3 {o o' o2 : Obj} (h : Kept w W) (hb : Kept (((W.alloc o).alloc o').alloc o2) w1) : Kept w w1 := Kept.step2 (h.alloc o) hb
theorem Kept.cells (h : Kept W w1) : ∀ b o, b < W.heap.size → w1.cell? ⟨b, o, none⟩ = W.cell? ⟨b, o, none⟩ := fun b o hb => Below.cell (p := ⟨b, o, none⟩) h hb
theorem Kept.frozens (h : Kept W w1) : ∀ b o, b < W.heap.size → w1.frozen? ⟨b, o, none⟩ = W.frozen? ⟨b, o, none⟩ := fun b o hb => Below.frozen (p := ⟨b, o, none⟩) h hb
theorem Kept.size (h : Kept W w1) : W.heap.size ≤ w1.heap.size := Below.size h
theorem Kept.lt {m : Nat} (h : Kept W w1) (hm : m < W.heap.size) : m < w1.heap.size := Nat.lt_of_lt_of_le hm (Below.size h)
theorem Kept.lts (h : Kept W w1) : ∀ m, m < W.heap.size → m < w1.heap.size := fun _ hm => h.lt hm
theorem Kept.off (w : World) (o : Obj) (h : Kept (w.alloc o) W) : Kept w W := ((Kept.refl w).alloc o).step0 h
end

structure Post where
  xlo : Int
  xhi : Int
  ylo : Int
  yhi : Int
structure Len where
  a : Int
  b : Int
  lo : Int
  hi : Int

def PostsIn (w : World) (pa : Option Addr) (ps : List Post) : Prop :=
  ∀ i p, ps[i]? = some p → ∃ b o, pa = some ⟨b, o, none⟩ ∧ b < w.heap.size ∧ w.cell? ⟨b, o + i * 4, none⟩ = some (.int .i64 p.xlo) ∧ w.cell? ⟨b, o + i * 4 + 1, none⟩ = some (.int .i64 p.xhi) ∧
    w.cell? ⟨b, o + i * 4 + 2, none⟩ = some (.int .i64 p.ylo) ∧ w.cell? ⟨b, o + i * 4 + 3, none⟩ = some (.int .i64 p.yhi)
def LensIn (w : World) (pa : Option Addr) (ls : List Len) : Prop :=
  ∀ i l, ls[i]? = some l → ∃ b o, pa = some ⟨b, o, none⟩ ∧ b < w.heap.size ∧ w.cell? ⟨b, o + i * 4, none⟩ = some (.int .i64 l.a) ∧ w.cell? ⟨b, o + i * 4 + 1, none⟩ = some (.int .i64 l.b) ∧
    w.cell? ⟨b, o + i * 4 + 2, none⟩ = some (.int .i64 l.lo) ∧ w.cell? ⟨b, o + i * 4 + 3, none⟩ = some (.int .i64 l.hi)

theorem PostsIn.kept {w w' : World} {pa : Option Addr} {ps : List Post} (h : PostsIn w pa ps) (hb : Kept w w') : PostsIn w' pa ps := by
  intro i p hi
  obtain ⟨b, o, rfl, hlt, c1, c2, c3, c4⟩ := h i p hi
  have hc := hb.cells
  exact ⟨b, o, rfl, Nat.lt_of_lt_of_le hlt hb.size, by rw [hc _ _ hlt]; exact c1, by rw [hc _ _ hlt]; exact c2, by rw [hc _ _ hlt]; exact c3, by rw [hc _ _ hlt]; exact c4⟩
theorem LensIn.kept {w w' : World} {pa : Option Addr} {ps : List Len} (h : LensIn w pa ps) (hb : Kept w w') : LensIn w' pa ps := by
  intro i p hi
  obtain ⟨b, o, rfl, hlt, c1, c2, c3, c4⟩ := h i p hi
  have hc := hb.cells
  exact ⟨b, o, rfl, Nat.lt_of_lt_of_le hlt hb.size, by rw [hc _ _ hlt]; exact c1, by rw [hc _ _ hlt]; exact c2, by rw [hc _ _ hlt]; exact c3, by rw [hc _ _ hlt]; exact c4⟩

def withinB (lo hi m : Int) : Bool := decide (0 ≤ lo) && decide (lo ≤ hi) && decide (hi ≤ m)
def narrowB (lo hi m : Int) : Bool := withinB lo hi m && decide (hi - lo ≤ 2)
def isPegB (n : Nat) (i : Int) : Bool := decide (0 ≤ i) && decide (i < n)
def postB (side : Int) (p : Post) : Bool := narrowB p.xlo p.xhi side && narrowB p.ylo p.yhi side
def lenB (n : Nat) (l : Len) : Bool := isPegB n l.a && isPegB n l.b && !decide (l.a = l.b) && withinB l.lo l.hi 30

theorem withinB_true {lo hi m : Int} (h : withinB lo hi m = true) : 0 ≤ lo ∧ lo ≤ hi ∧ hi ≤ m := by simpa [withinB, and_assoc] using h

set_option maxHeartbeats 400000 in
theorem within_any (lo hi m : Int) (w : World) :
    Calls Try.prog 89 #[.agg #[.int .i64 lo, .int .i64 hi], .int .i64 m] w fun e w' => e = .returned (.bool (withinB lo hi m)) ∧ Kept w w' := by
  by_cases h1 : 0 ≤ lo <;> by_cases h2 : lo ≤ hi <;> by_cases h3 : hi ≤ m <;> go_enter Try.func89, Try.ntmps89 <;> go_wp2
  all_goals
    go_ret
    exact ⟨by simp [withinB, *], (Kept.refl _).alloc _⟩

set_option maxHeartbeats 400000 in
theorem narrow_any (lo hi m : Int) (w : World) (hm : m ≤ 100000) :
    Calls Try.prog 88 #[.agg #[.int .i64 lo, .int .i64 hi], .int .i64 m] w fun e w' => e = .returned (.bool (narrowB lo hi m)) ∧ Kept w w' := by
  by_cases hv : withinB lo hi m = true
  · obtain ⟨h0, h1, h2⟩ := withinB_true hv
    have HN : Hid (narrowB lo hi m = decide (hi - lo ≤ 2)) := by simp [Hid, narrowB, hv]
    have H := Lib.hid hv; clear hv
    go_enter Try.func88, Try.ntmps88
    go_wp2_with (go_at_call 89; refine (within_any _ _ _ _).mono ?_; rintro e w1 ⟨rfl, hb⟩; have hc := hb.cells; rw [H.out])
    go_ret
    exact ⟨by rw [HN.out]; rfl, hb.off _ _⟩
  · have hv' : withinB lo hi m = false := by simpa using hv
    have HN : Hid (narrowB lo hi m = false) := by simp [Hid, narrowB, hv']
    have H := Lib.hid hv'; clear hv hv'
    go_enter Try.func88, Try.ntmps88
    go_wp2_with (go_at_call 89; refine (within_any _ _ _ _).mono ?_; rintro e w1 ⟨rfl, hb⟩; have hc := hb.cells; rw [H.out])
    go_ret
    exact ⟨by rw [HN.out]; rfl, hb.off _ _⟩

set_option maxHeartbeats 400000 in
theorem isPeg_any (side i : Int) (pa la : Option Addr) (pl pc ll lc : Nat) (w : World) :
    Calls Try.prog 78 #[.agg #[.int .i64 side, .slice pa pl pc, .slice la ll lc], .int .i64 i] w fun e w' => e = .returned (.bool (isPegB pl i)) ∧ Kept w w' := by
  by_cases h1 : 0 ≤ i <;> by_cases h2 : i < (pl : Int) <;> go_enter Try.func78, Try.ntmps78 <;> go_wp2
  all_goals
    go_ret
    exact ⟨by simp [isPegB, *], (Kept.refl _).alloc _⟩
end Go.Proofs.Ytkjciobphbcknaa
namespace Go.Proofs.Ytkjciobphbcknaa
open Go.RowKit

def lensB (n : Nat) (ls : List Len) : Bool := ls.all (lenB n)

theorem all_snoc {α : Type} (p : α → Bool) (l : List α) (k : Nat) (h : k < l.length) : (l.take (k + 1)).all p = ((l.take k).all p && p l[k]) := by
  rw [List.take_succ_eq_append_getElem h, List.all_append]; simp
theorem all_false {α : Type} (p : α → Bool) (l : List α) (k : Nat) (h : k < l.length) (hp : p l[k] = false) : l.all p = false := by
  rw [List.all_eq_false]; exact ⟨l[k], List.getElem_mem h, by simp [hp]⟩
theorem ret_bool {a b : Bool} (h : a = b) : Ending.returned (.bool a) = .returned (.bool b) := by rw [h]
theorem ret_int {k : IntKind} {a b : Int} (h : a = b) : Ending.returned (.int k a) = .returned (.int k b) := by rw [h]

set_option maxHeartbeats 1000000 in
theorem valid_loops (side : Int) (pa la : Option Addr) (pc lc : Nat) (ps : List Post) (ls : List Len) (w : World) (hpl : ps.length ≤ 4) (hll : ls.length ≤ 6) (hs : 0 ≤ side) (hs2 : side ≤ 15)
   (hps : PostsIn w pa ps) (hls : LensIn w la ls) :
    Calls Try.prog 77 #[.agg #[.int .i64 side, .slice pa ps.length pc, .slice la ls.length lc]] w fun e w' => e = .returned (.bool (ps.all (postB side) && lensB ps.length ls)) ∧ Kept w w' := by
  have h0 : ¬ side < 0 := by omega
  have h1 : ¬ 15 < side := by omega
  have h2 : decide ((4 : Int) < (ps.length : Int)) = false := by simp; omega
  have h3 : decide ((6 : Int) < (ls.length : Int)) = false := by simp; omega
  have HP := Lib.hid hps
  have HL := Lib.hid hls
  clear hps hls
  go_enter Try.func77, Try.ntmps77
  go_wp2
  go_loopw [4, 30] (fun _ i wr => ∃ k : Nat, k ≤ ps.length ∧ i = .int .i64 k ∧ Kept (w.alloc (Obj.cells #[Value.int IntKind.i64 side, Value.slice pa ps.length pc, Value.slice la ls.length lc] 25)) wr ∧ Hid ((ps.take k).all (postB side) = true)) (fun _ i _ => ps.length - (intOf i).toNat)
  case atStart => exact ⟨0, Nat.zero_le _, rfl, Kept.refl _, rfl⟩
  case round =>
    obtain ⟨k, hk, rfl, hB, hall⟩ := hrel
    have hc := hB.cells
    have hsz : w.heap.size < wr.heap.size := hB.lt (by simp)
    by_cases hlt : k < ps.length
    · obtain ⟨b, o, rfl, hbs, c1, c2, c3, c4⟩ := HP.out k (ps[k]) (by simp)
      have hbs2 : b < wr.heap.size := by omega
      have HF : narrowB ps[k].xlo ps[k].xhi side = false ∨ narrowB ps[k].ylo ps[k].yhi side = false → Hid ((ps.all (postB side) && lensB ps.length ls) = false) := fun h => by
        rw [Hid, all_false _ ps k hlt (by rcases h with h | h <;> simp [postB, h]), Bool.false_and]
      have HT : narrowB ps[k].xlo ps[k].xhi side = true → narrowB ps[k].ylo ps[k].yhi side = true → Hid ((ps.take (k + 1)).all (postB side) = true) := fun a b => by
        rw [Hid, all_snoc _ _ _ hlt, hall.out]; simp [postB, a, b]
      clear hall
      go_wp2_with (go_at_call 88; refine (narrow_any _ _ _ _ (by omega)).mono ?_; rintro e w1 ⟨rfl, hb1⟩; have hc1 := hb1.cells; have hl1 := hb1.lts; (first | replace hB := Kept.step0 hB hb1 | replace hB := Kept.step1 hB hb1))
      · go_ret
        exact ⟨ret_bool (HF (.inr (by simpa using ‹(!_) = true›))).out.symm, hB.off _ _⟩
      · go_roundw
        case rel => exact ⟨k + 1, by omega, by go_num, hB, HT ‹_› (by simpa using ‹(!_) = false›)⟩
        case measure => simp [intOf]; omega
      · go_ret
        exact ⟨ret_bool (HF (.inl (Bool.eq_false_iff.2 ‹¬ _›))).out.symm, hB.off _ _⟩
    · have e : k = ps.length := by omega
      subst e
      have HT : Hid (ps.all (postB side) = true) := by rw [Hid, ← hall.out, List.take_length]
      clear hall
      go_wp2
      go_loopw [6, 52] (fun _ i wr => ∃ k : Nat, k ≤ ls.length ∧ i = .int .i64 k ∧ Kept (w.alloc (Obj.cells #[Value.int IntKind.i64 side, Value.slice pa ps.length pc, Value.slice la ls.length lc] 25)) wr ∧ Hid ((ls.take k).all (lenB ps.length) = true)) (fun _ i _ => ls.length - (intOf i).toNat)
      case atStart => exact ⟨0, Nat.zero_le _, rfl, hB, rfl⟩
      case round =>
        clear hB hc hsz
        obtain ⟨k, hk, rfl, hB, hall⟩ := hrel
        have hc := hB.cells
        have hsz : w.heap.size < wr.heap.size := hB.lt (by simp)
        by_cases hlt : k < ls.length
        · obtain ⟨b, o, rfl, hbs, c1, c2, c3, c4⟩ := HL.out k (ls[k]) (by simp)
          have hbs2 : b < wr.heap.size := by omega
          have HF : lenB ps.length ls[k] = false → Hid ((ps.all (postB side) && lensB ps.length ls) = false) := fun h => by
            rw [Hid, show lensB ps.length ls = false from all_false _ ls k hlt h, Bool.and_false]
          have HT2 : lenB ps.length ls[k] = true → Hid ((ls.take (k + 1)).all (lenB ps.length) = true) := fun a => by
            rw [Hid, all_snoc _ _ _ hlt, hall.out, a]; rfl
          have HL2 : Hid (lenB ps.length ls[k] = (isPegB ps.length ls[k].a && isPegB ps.length ls[k].b && !decide (ls[k].a = ls[k].b) && withinB ls[k].lo ls[k].hi 30)) := rfl
          clear hall
          go_wp2_with (first
            | (go_at_call 78; refine (isPeg_any _ _ _ _ _ _ _ _ _).mono ?_; rintro e w1 ⟨rfl, hb1⟩; have hc1 := hb1.cells; have hl1 := hb1.lts; (first | replace hB := Kept.step0 hB hb1 | replace hB := Kept.step1 hB hb1))
            | (go_at_call 89; refine (within_any _ _ _ _).mono ?_; rintro e w1 ⟨rfl, hb1⟩; have hc1 := hb1.cells; have hl1 := hb1.lts; (first | replace hB := Kept.step0 hB hb1 | replace hB := Kept.step1 hB hb1)))
          case roundEnd =>
            go_roundw
            case rel => exact ⟨k + 1, by omega, by go_num, hB, HT2 (by rw [HL2.out]; simp_all)⟩
            case measure => simp [intOf]; omega
          all_goals
            go_ret
            exact ⟨ret_bool (HF (by rw [HL2.out]; simp_all)).out.symm, hB.off _ _⟩
        · have e : k = ls.length := by omega
          subst e
          have HT2 : Hid (ls.all (lenB ps.length) = true) := by rw [Hid, ← hall.out, List.take_length]
          clear hall
          go_wp2
          go_ret
          exact ⟨ret_bool (by rw [HT.out, lensB, HT2.out]; rfl), hB.off _ _⟩
end Go.Proofs.Ytkjciobphbcknaa
