/- Package peg: the way back. -/
import Derived.Test.YtkjciobphbcknaaC
import Derived.Lib.QuietBelow
import Derived.StillTailTactics
import Derived.Deep.RegionHeld3
namespace Go.Proofs.Ytkjciobphbcknaa
open Go.RowKit

def sqSum (xs : List Int) : Int := (xs.map fun x => x * x).foldl (· + ·) 0
theorem sqSum_snoc (xs : List Int) (k : Nat) (h : k < xs.length) : sqSum (xs.take (k + 1)) = sqSum (xs.take k) + xs[k] * xs[k] := by
  rw [sqSum, sqSum, List.take_succ_eq_append_getElem h, List.map_append, List.foldl_append]; rfl
def small (xs : List Int) : Prop := xs.length ≤ 4 ∧ ∀ x ∈ xs, -40 ≤ x ∧ x ≤ 40
theorem sq_bd {x : Int} (h : -40 ≤ x ∧ x ≤ 40) : 0 ≤ x * x ∧ x * x ≤ 1600 := by
  refine ⟨by rw [← Int.natAbs_mul_self' x]; exact Int.natCast_nonneg _, ?_⟩
  have : x.natAbs ≤ 40 := by omega
  rw [← Int.natAbs_mul_self' x]
  have := Nat.mul_le_mul this this
  omega
theorem sqSum_bd (xs : List Int) (k : Nat) (h : small xs) (hk : k ≤ xs.length) : 0 ≤ sqSum (xs.take k) ∧ sqSum (xs.take k) ≤ 1600 * k := by
  induction k with
  | zero => simp [sqSum]
  | succ k ih =>
    have h1 := ih (by omega)
    have h2 := sq_bd (h.2 xs[k] (List.getElem_mem (by omega)))
    rw [sqSum_snoc _ _ (by omega)]
    omega

set_option maxHeartbeats 1000000 in
theorem squares_any (xa : Option Addr) (xc : Nat) (xs : List Int) (w : World) (hs : small xs) (hx : IntsIn w xa xs) :
    Calls Try.prog 84 #[.slice xa xs.length xc] w fun e w' => e = .returned (.int .i64 (sqSum xs)) ∧ w' = w := by
  have HX := Lib.hid hx
  have hlen := hs.1
  have HS := Lib.hid hs
  clear hx hs
  go_enter Try.func84, Try.ntmps84
  go_wp2
  go_loop [3, 5, 8] (fun s _ i => ∃ k : Nat, k ≤ xs.length ∧ i = .int .i64 k ∧ s = .int .i64 (sqSum (xs.take k))) (fun _ _ i => xs.length - (intOf i).toNat)
  case atStart => exact ⟨0, Nat.zero_le _, rfl, rfl⟩
  case round =>
    obtain ⟨k, hk, rfl, rfl⟩ := hrel
    by_cases hlt : k < xs.length
    · obtain ⟨b, o, rfl, hbs, c1⟩ := HX.out k (xs[k]) (by simp)
      have HQ : Hid (sqSum (xs.take (k + 1)) = sqSum (xs.take k) + xs[k] * xs[k]) := sqSum_snoc _ _ hlt
      obtain ⟨b1, b2⟩ := sqSum_bd xs k HS.out hk
      obtain ⟨b3, b4⟩ := sq_bd (HS.out.2 xs[k] (List.getElem_mem (by omega)))
      have hk4 : k ≤ 4 := by omega
      go_wp2
      go_round
      case rel => exact ⟨k + 1, by omega, by go_num, by rw [HQ.out]⟩
      case measure => simp [intOf]; omega
    · have e : k = xs.length := by omega
      subst e
      go_wp2
      go_ret
      exact ⟨rfl, rfl⟩

theorem ints1 (w : World) (a : Int) : IntsIn (w.alloc (.cells #[.int .i64 a] 3)) (some ⟨w.heap.size, 0, none⟩) [a] := by
  intro i x hi
  match i with
  | 0 => simp at hi; subst hi; exact ⟨_, _, rfl, by simp, by simp [go_sem]⟩
  | n + 1 => simp at hi
theorem ints2 (w : World) (a b : Int) : IntsIn (w.alloc (.cells #[.int .i64 a, .int .i64 b] 3)) (some ⟨w.heap.size, 0, none⟩) [a, b] := by
  intro i x hi
  match i with
  | 0 => simp at hi; subst hi; exact ⟨_, _, rfl, by simp, by simp [go_sem]⟩
  | 1 => simp at hi; subst hi; exact ⟨_, _, rfl, by simp, by simp [go_sem]⟩
  | n + 2 => simp at hi

theorem squares1 (a : Int) (n c : Nat) (w : World) (h : -40 ≤ a ∧ a ≤ 40) (hn : n = w.heap.size) : Calls Try.prog 84 #[.slice (some ⟨n, 0, none⟩) 1 c] (w.alloc (.cells #[.int .i64 a] 3)) fun e w' => e = .returned (.int .i64 (a * a)) ∧ w' = w.alloc (.cells #[.int .i64 a] 3) := by
  subst hn; exact (squares_any (some ⟨w.heap.size, 0, none⟩) c [a] _ ⟨by simp, by simpa using h⟩ (ints1 w a)).mono fun e w' h => ⟨by rw [h.1]; simp [sqSum], h.2⟩
theorem squares2 (a b : Int) (n c : Nat) (w : World) (h : -40 ≤ a ∧ a ≤ 40) (h2 : -40 ≤ b ∧ b ≤ 40) (hn : n = w.heap.size) : Calls Try.prog 84 #[.slice (some ⟨n, 0, none⟩) 2 c] (w.alloc (.cells #[.int .i64 a, .int .i64 b] 3)) fun e w' => e = .returned (.int .i64 (a * a + b * b)) ∧ w' = w.alloc (.cells #[.int .i64 a, .int .i64 b] 3) := by
  subst hn; exact (squares_any (some ⟨w.heap.size, 0, none⟩) c [a, b] _ ⟨by simp, by simp; omega⟩ (ints2 w a b)).mono fun e w' h => ⟨by rw [h.1]; simp [sqSum], h.2⟩

structure Pl where
  x : Int
  y : Int
  deriving DecidableEq
/-- A place of a field whose side is at most 15. -/
def Pl.ok (s : Pl) : Prop := 0 ≤ s.x ∧ s.x ≤ 15 ∧ 0 ≤ s.y ∧ s.y ≤ 15
def apartI (a b : Pl) : Int := (a.x - b.x) * (a.x - b.x) + (a.y - b.y) * (a.y - b.y)
def areaI (a b c : Pl) : Int := (b.x - a.x) * (c.y - a.y) - (c.x - a.x) * (b.y - a.y)
abbrev plV (s : Pl) : Value := .agg #[.int .i64 s.x, .int .i64 s.y]

set_option maxHeartbeats 400000 in
theorem apart_any (a b : Pl) (w : World) (ha : a.ok) (hb : b.ok) :
    Calls Try.prog 105 #[.agg #[.int .i64 a.x, .int .i64 a.y], .agg #[.int .i64 b.x, .int .i64 b.y]] w fun e w' => e = .returned (.int .i64 (apartI a b)) ∧ Kept w w' := by
  obtain ⟨a1, a2, a3, a4⟩ := ha
  obtain ⟨b1, b2, b3, b4⟩ := hb
  go_enter Try.func105, Try.ntmps105
  go_wp2_with (go_at_call 84; refine (squares2 _ _ _ _ _ (by omega) (by omega) (by simp)).mono ?_; rintro e w1 ⟨rfl, rfl⟩)
  go_ret
  exact ⟨rfl, (((Kept.refl _).alloc _).alloc _).alloc _⟩

theorem mul_bd {x y : Int} (h : -15 ≤ x ∧ x ≤ 15) (h2 : -15 ≤ y ∧ y ≤ 15) : -225 ≤ x * y ∧ x * y ≤ 225 := by
  have h3 : x.natAbs ≤ 15 := by omega
  have h4 : y.natAbs ≤ 15 := by omega
  have h5 := Nat.mul_le_mul h3 h4
  have h6 : (x * y).natAbs = x.natAbs * y.natAbs := Int.natAbs_mul x y
  omega

set_option maxHeartbeats 400000 in
theorem area_any (a b c : Pl) (w : World) (ha : a.ok) (hb : b.ok) (hc : c.ok) :
    Calls Try.prog 126 #[.agg #[.int .i64 a.x, .int .i64 a.y], .agg #[.int .i64 b.x, .int .i64 b.y], .agg #[.int .i64 c.x, .int .i64 c.y]] w fun e w' => e = .returned (.int .i64 (max (areaI a b c) (-areaI a b c))) ∧ Kept w w' := by
  obtain ⟨a1, a2, a3, a4⟩ := ha
  obtain ⟨b1, b2, b3, b4⟩ := hb
  obtain ⟨c1, c2, c3, c4⟩ := hc
  obtain ⟨m1, m2⟩ := mul_bd (x := b.x - a.x) (y := c.y - a.y) (by omega) (by omega)
  obtain ⟨m3, m4⟩ := mul_bd (x := c.x - a.x) (y := b.y - a.y) (by omega) (by omega)
  have HA : Hid (areaI a b c = (b.x - a.x) * (c.y - a.y) - (c.x - a.x) * (b.y - a.y)) := rfl
  go_enter Try.func126, Try.ntmps126
  go_wp2
  all_goals
    go_ret
    refine ⟨ret_int ?_, (((Kept.refl _).alloc _).alloc _).alloc _⟩
    rw [HA.out]
    omega

def beyondI (n lo hi : Int) : Int := max (max (lo - n) (n - hi)) 0
set_option maxHeartbeats 400000 in
theorem beyond_any (lo hi m : Int) (w : World) (h1 : 0 ≤ lo) (h2 : lo ≤ 15) (h3 : 0 ≤ hi) (h4 : hi ≤ 15) (h5 : 0 ≤ m) (h6 : m ≤ 15) :
    Calls Try.prog 85 #[.int .i64 m, .agg #[.int .i64 lo, .int .i64 hi]] w fun e w' => e = .returned (.int .i64 (beyondI m lo hi)) ∧ Kept w w' := by
  have HA : Hid (beyondI m lo hi = max (max (lo - m) (m - hi)) 0) := rfl
  go_enter Try.func85, Try.ntmps85
  go_wp2
  all_goals
    go_ret
    exact ⟨ret_int (by rw [HA.out]; (try split at *) <;> omega), (Kept.refl _).alloc _⟩
theorem beyond_bd (lo hi m : Int) (h1 : 0 ≤ lo) (h2 : lo ≤ 15) (h3 : 0 ≤ hi) (h4 : hi ≤ 15) (h5 : 0 ≤ m) (h6 : m ≤ 15) : 0 ≤ beyondI m lo hi ∧ beyondI m lo hi ≤ 15 := by
  unfold beyondI; omega
end Go.Proofs.Ytkjciobphbcknaa
namespace Go.Proofs.Ytkjciobphbcknaa
open Go.RowKit

def postOk (p : Post) (side : Int) : Prop := 0 ≤ p.xlo ∧ p.xlo ≤ p.xhi ∧ p.xhi ≤ side ∧ 0 ≤ p.ylo ∧ p.ylo ≤ p.yhi ∧ p.yhi ≤ side
def backI (s : Pl) (p : Post) : Int := beyondI s.x p.xlo p.xhi * beyondI s.x p.xlo p.xhi + beyondI s.y p.ylo p.yhi * beyondI s.y p.ylo p.yhi

set_option maxHeartbeats 1000000 in
theorem wayBack_any (s : Pl) (p : Post) (w : World) (hs : s.ok) (hp : postOk p 15) :
    Calls Try.prog 60 #[.agg #[.int .i64 s.x, .int .i64 s.y], .agg #[.int .i64 p.xlo, .int .i64 p.xhi, .int .i64 p.ylo, .int .i64 p.yhi]] w fun e w' => e = .returned (.int .i64 (backI s p)) ∧ Kept w w' := by
  obtain ⟨a1, a2, a3, a4⟩ := hs
  obtain ⟨p1, p2, p3, p4, p5, p6⟩ := hp
  have q1 := beyond_bd p.xlo p.xhi s.x (by omega) (by omega) (by omega) (by omega) (by omega) (by omega)
  have q2 := beyond_bd p.ylo p.yhi s.y (by omega) (by omega) (by omega) (by omega) (by omega) (by omega)
  have k0 : Kept w ((w.alloc (Obj.cells #[Value.int IntKind.i64 s.x, Value.int IntKind.i64 s.y] 93)).alloc (Obj.cells #[Value.int IntKind.i64 p.xlo, Value.int IntKind.i64 p.xhi, Value.int IntKind.i64 p.ylo, Value.int IntKind.i64 p.yhi] 56)) := ((Kept.refl _).alloc _).alloc _
  go_enter Try.func60, Try.ntmps60
  go_wp2_with fail
  go_region_held3 (fun w' => w'.cell? ⟨w.heap.size, 0, none⟩ = some (.int .i64 s.x) ∧ w'.cell? ⟨w.heap.size, 1, none⟩ = some (.int .i64 s.y) ∧
      w'.cell? ⟨w.heap.size + 1, 0, none⟩ = some (.int .i64 p.xlo) ∧ w'.cell? ⟨w.heap.size + 1, 1, none⟩ = some (.int .i64 p.xhi) ∧ w'.cell? ⟨w.heap.size + 1, 2, none⟩ = some (.int .i64 p.ylo) ∧ w'.cell? ⟨w.heap.size + 1, 3, none⟩ = some (.int .i64 p.yhi) ∧
      w.heap.size + 1 < w'.heap.size ∧ Kept w w')
    (first
      | assumption
      | (go_keep; done)
      | (simp [*, World.cell?_alloc_some, Kept.alloc, Kept.drew]; done)
      | (refine ⟨?_, ?_, ?_, ?_, ?_, ?_, ?_, ?_⟩ <;> first
           | (go_keep; done)
           | (simp [*, Kept.alloc]; done)
           | (simp [*]; omega)
           | (rw [hb1.cells _ _ (by omega)]; simp only [*])
           | exact hb1.lt (by simp only [*])
           | exact Kept.step0 (by simp only [*]) hb1))
    (first
      | (go_at_call 85; refine (beyond_any _ _ _ _ (by omega) (by omega) (by omega) (by omega) (by omega) (by omega)).mono ?_; rintro e w1 ⟨rfl, hb1⟩)
      | (go_at_call 84; refine (squares2 _ _ _ _ _ (by omega) (by omega) (by simp)).mono ?_; rintro e w1 ⟨rfl, rfl⟩))
  rename_i hh
  obtain ⟨_, _, _, _, _, _, _, hk⟩ := hh
  go_wp2
  go_ret
  exact ⟨rfl, hk⟩

abbrev atV (a b c d : Pl) : Value := .agg #[.int .i64 a.x, .int .i64 a.y, .int .i64 b.x, .int .i64 b.y, .int .i64 c.x, .int .i64 c.y, .int .i64 d.x, .int .i64 d.y]
structure At where
  p0 : Pl
  p1 : Pl
  p2 : Pl
  p3 : Pl
def At.get (t : At) (i : Int) : Pl := if i = 0 then t.p0 else if i = 1 then t.p1 else if i = 2 then t.p2 else t.p3
def At.ok (t : At) : Prop := t.p0.ok ∧ t.p1.ok ∧ t.p2.ok ∧ t.p3.ok
theorem At.get_ok {t : At} (h : t.ok) (i : Int) : (t.get i).ok := by
  unfold At.get; obtain ⟨h0, h1, h2, h3⟩ := h; repeat' split
  all_goals assumption
def rightB (l : Len) (t : At) : Bool := decide (l.lo * l.lo ≤ apartI (t.get l.a) (t.get l.b)) && decide (apartI (t.get l.a) (t.get l.b) ≤ l.hi * l.hi)
/-- The cells of a box of four places. -/
theorem at_cells (w : World) (t : At) (a : Nat) (h : a < 4) (n : Nat) (hn : n = w.heap.size) :
    (w.alloc (Obj.cells #[.int .i64 t.p0.x, .int .i64 t.p0.y, .int .i64 t.p1.x, .int .i64 t.p1.y, .int .i64 t.p2.x, .int .i64 t.p2.y, .int .i64 t.p3.x, .int .i64 t.p3.y] 137)).cell? ⟨n, a * 2, none⟩ = some (.int .i64 (t.get a).x) ∧
    (w.alloc (Obj.cells #[.int .i64 t.p0.x, .int .i64 t.p0.y, .int .i64 t.p1.x, .int .i64 t.p1.y, .int .i64 t.p2.x, .int .i64 t.p2.y, .int .i64 t.p3.x, .int .i64 t.p3.y] 137)).cell? ⟨n, a * 2 + 1, none⟩ = some (.int .i64 (t.get a).y) := by
  subst hn
  match a, h with
  | 0, _ => simp [go_sem, At.get]
  | 1, _ => simp [go_sem, At.get]
  | 2, _ => simp [go_sem, At.get]
  | 3, _ => simp [go_sem, At.get]

set_option maxHeartbeats 1000000 in
theorem right_nat (a b : Nat) (lo hi : Int) (t : At) (w : World) (ht : t.ok) (ha2 : a < 4) (hb2 : b < 4) (h1 : 0 ≤ lo) (h2 : lo ≤ hi) (h3 : hi ≤ 30) :
    Calls Try.prog 101 #[.agg #[.int .i64 a, .int .i64 b, .int .i64 lo, .int .i64 hi], .agg #[.int .i64 t.p0.x, .int .i64 t.p0.y, .int .i64 t.p1.x, .int .i64 t.p1.y, .int .i64 t.p2.x, .int .i64 t.p2.y, .int .i64 t.p3.x, .int .i64 t.p3.y]] w
      fun e w' => e = .returned (.bool (rightB ⟨a, b, lo, hi⟩ t)) ∧ Kept w w' := by
  have k0 : Kept w ((w.alloc (Obj.cells #[.int .i64 a, .int .i64 b, .int .i64 lo, .int .i64 hi] 65)).alloc (Obj.cells #[.int .i64 t.p0.x, .int .i64 t.p0.y, .int .i64 t.p1.x, .int .i64 t.p1.y, .int .i64 t.p2.x, .int .i64 t.p2.y, .int .i64 t.p3.x, .int .i64 t.p3.y] 137)) := ((Kept.refl _).alloc _).alloc _
  obtain ⟨a1, a2⟩ := at_cells (w.alloc (Obj.cells #[.int .i64 a, .int .i64 b, .int .i64 lo, .int .i64 hi] 65)) t a ha2 (w.heap.size + 1) (by simp)
  obtain ⟨b1, b2⟩ := at_cells (w.alloc (Obj.cells #[.int .i64 a, .int .i64 b, .int .i64 lo, .int .i64 hi] 65)) t b hb2 (w.heap.size + 1) (by simp)
  have oka := At.get_ok ht a
  have okb := At.get_ok ht b
  have i1 : (0 : Int) ≤ (a : Int) := by omega
  have i2 : (a : Int) < 4 := by omega
  have i3 : (0 : Int) ≤ (b : Int) := by omega
  have i4 : (b : Int) < 4 := by omega
  have HR : Hid (rightB ⟨a, b, lo, hi⟩ t = (decide (lo * lo ≤ apartI (t.get a) (t.get b)) && decide (apartI (t.get a) (t.get b) ≤ hi * hi))) := rfl
  generalize t.get a = pa at *
  generalize t.get b = pb at *
  go_enter Try.func101, Try.ntmps101
  go_wp2_with fail
  go_region_held3 (fun w' => w'.cell? ⟨w.heap.size, 0, none⟩ = some (.int .i64 a) ∧ w'.cell? ⟨w.heap.size, 1, none⟩ = some (.int .i64 b) ∧ w'.cell? ⟨w.heap.size, 2, none⟩ = some (.int .i64 lo) ∧ w'.cell? ⟨w.heap.size, 3, none⟩ = some (.int .i64 hi) ∧
      w'.cell? ⟨w.heap.size + 1, a * 2, none⟩ = some (.int .i64 pa.x) ∧ w'.cell? ⟨w.heap.size + 1, a * 2 + 1, none⟩ = some (.int .i64 pa.y) ∧ w'.cell? ⟨w.heap.size + 1, b * 2, none⟩ = some (.int .i64 pb.x) ∧ w'.cell? ⟨w.heap.size + 1, b * 2 + 1, none⟩ = some (.int .i64 pb.y) ∧
      w.heap.size + 1 < w'.heap.size ∧ Kept w w')
    (first
      | assumption
      | (go_keep; done)
      | (simp [*, World.cell?_alloc_some, Kept.alloc, Kept.drew]; done)
      | (refine ⟨?_, ?_, ?_, ?_, ?_, ?_, ?_, ?_, ?_, ?_⟩ <;> first
           | (go_keep; done)
           | (simp [*, Kept.alloc, Kept.drew]; done)
           | (simp [*]; omega)
           | (rw [hb1.cells _ _ (by omega)]; simp only [*])
           | exact hb1.lt (by simp only [*])
           | exact Kept.step0 (by simp only [*]) hb1))
    (first
      | (go_at_call 105; refine (apart_any pa pb _ oka okb).mono ?_; rintro e w1 ⟨rfl, hb1⟩))
  rename_i hh
  obtain ⟨c1, c2, c3, c4, _, _, _, _, hz, hk⟩ := hh
  have hz0 : w.heap.size < w1.heap.size := by omega
  clear k0 a1 a2 b1 b2 hb1
  go_wp2_with (go_at_call 84; refine (squares1 _ _ _ _ (by omega) (by simp)).mono ?_; rintro e w2 ⟨rfl, rfl⟩)
  all_goals
    go_ret
    refine ⟨ret_bool ?_, by simp [hk, Kept.alloc]⟩
    rw [HR.out]
    simp_all
    try omega

theorem right_any (l : Len) (t : At) (w : World) (ht : t.ok) (ha : 0 ≤ l.a) (ha2 : l.a < 4) (hb : 0 ≤ l.b) (hb2 : l.b < 4) (h1 : 0 ≤ l.lo) (h2 : l.lo ≤ l.hi) (h3 : l.hi ≤ 30) :
    Calls Try.prog 101 #[.agg #[.int .i64 l.a, .int .i64 l.b, .int .i64 l.lo, .int .i64 l.hi], .agg #[.int .i64 t.p0.x, .int .i64 t.p0.y, .int .i64 t.p1.x, .int .i64 t.p1.y, .int .i64 t.p2.x, .int .i64 t.p2.y, .int .i64 t.p3.x, .int .i64 t.p3.y]] w
      fun e w' => e = .returned (.bool (rightB l t)) ∧ Kept w w' := by
  obtain ⟨a, b, lo, hi⟩ := l
  obtain ⟨a, rfl⟩ := Int.eq_ofNat_of_zero_le ha
  obtain ⟨b, rfl⟩ := Int.eq_ofNat_of_zero_le hb
  exact right_nat a b lo hi t w ht (by simp at ha2; omega) (by simp at hb2; omega) h1 h2 h3

/-- A length that can be asked of places. -/
def lenOk (l : Len) : Prop := 0 ≤ l.a ∧ l.a < 4 ∧ 0 ≤ l.b ∧ l.b < 4 ∧ 0 ≤ l.lo ∧ l.lo ≤ l.hi ∧ l.hi ≤ 30
def lenAt (t : At) (k : Int) (l : Len) : Bool := !decide (max l.a l.b = k) || rightB l t
def lensRightB (ls : List Len) (t : At) (k : Int) : Bool := ls.all (lenAt t k)

set_option maxHeartbeats 1000000 in
theorem lengthsRight_any (ls : List Len) (la : Option Addr) (lc : Nat) (t : At) (k : Int) (w : World) (ht : t.ok) (hl : ∀ l ∈ ls, lenOk l) (hls : LensIn w la ls) (hlen : ls.length ≤ 6) :
    Calls Try.prog 93 #[.slice la ls.length lc, .agg #[.int .i64 t.p0.x, .int .i64 t.p0.y, .int .i64 t.p1.x, .int .i64 t.p1.y, .int .i64 t.p2.x, .int .i64 t.p2.y, .int .i64 t.p3.x, .int .i64 t.p3.y], .int .i64 k] w
      fun e w' => e = .returned (.bool (lensRightB ls t k)) ∧ Kept w w' := by
  have HL := Lib.hid hls
  have HO := Lib.hid hl
  clear hls hl
  go_enter Try.func93, Try.ntmps93
  go_wp2
  go_loopw [8, 11] (fun _ i wr => ∃ j : Nat, j ≤ ls.length ∧ i = .int .i64 j ∧ Kept (w.alloc (Obj.cells #[.int .i64 t.p0.x, .int .i64 t.p0.y, .int .i64 t.p1.x, .int .i64 t.p1.y, .int .i64 t.p2.x, .int .i64 t.p2.y, .int .i64 t.p3.x, .int .i64 t.p3.y] 137)) wr ∧ Hid ((ls.take j).all (lenAt t k) = true)) (fun _ i _ => ls.length - (intOf i).toNat)
  case atStart => exact ⟨0, Nat.zero_le _, rfl, Kept.refl _, rfl⟩
  case round =>
    obtain ⟨j, hj, rfl, hB, hall⟩ := hrel
    have hc := hB.cells
    have hl := hB.lts
    by_cases hlt : j < ls.length
    · obtain ⟨b, o, rfl, hbs, c1, c2, c3, c4⟩ := HL.out j (ls[j]) (by simp)
      have hbs2 : b < wr.heap.size := hl _ (by simp; omega)
      obtain ⟨o1, o2, o3, o4, o5, o6, o7⟩ := HO.out ls[j] (List.getElem_mem hlt)
      have HT : lenAt t k ls[j] = true → Hid ((ls.take (j + 1)).all (lenAt t k) = true) := fun a => by
        rw [Hid, all_snoc _ _ _ hlt, hall.out, a]; rfl
      have HF : lenAt t k ls[j] = false → Hid (lensRightB ls t k = false) := fun a => all_false _ ls j hlt a
      have HL2 : Hid (lenAt t k ls[j] = (!decide (max ls[j].a ls[j].b = k) || rightB ls[j] t)) := rfl
      clear hall
      go_wp2_with fail
      · have hk : ls[j].b = k := by assumption
        refine (right_any ⟨ls[j].a, k, ls[j].lo, ls[j].hi⟩ t (wr.alloc (Obj.cells #[Value.int IntKind.i64 ls[j].a, Value.int IntKind.i64 k, Value.int IntKind.i64 ls[j].lo, Value.int IntKind.i64 ls[j].hi] 65)) ht (by simp only; omega) (by simp only; omega) (by simp only; omega) (by simp only; omega) (by simp only; omega) (by simp only; omega) (by simp only; omega)).mono ?_
        rintro e w2 ⟨rfl, hb1⟩
        replace hB := Kept.step1 hB hb1
        have HR : Hid (lenAt t k ls[j] = rightB ⟨ls[j].a, k, ls[j].lo, ls[j].hi⟩ t) := by
          have e : max ls[j].a ls[j].b = k := by omega
          have h2 := HL2.out
          rw [e] at h2
          rw [Hid, h2]
          simp only [decide_true, Bool.not_true, Bool.false_or]
          rw [← hk]
        clear hk
        cases hr : rightB ⟨ls[j].a, k, ls[j].lo, ls[j].hi⟩ t with
        | true =>
          have HR2 : Hid (lenAt t k ls[j] = true) := by rw [Hid, HR.out, hr]
          clear hr
          go_wp2
          go_roundw
          case rel => exact ⟨j + 1, by omega, by go_num, hB, HT HR2.out⟩
          case measure => simp [intOf]; omega
        | false =>
          have HR2 : Hid (lenAt t k ls[j] = false) := by rw [Hid, HR.out, hr]
          clear hr
          go_wp2
          go_ret
          exact ⟨ret_bool (HF HR2.out).out.symm, hB.off _ _⟩
      · go_roundw
        case rel => exact ⟨j + 1, by omega, by go_num, hB.alloc _, HT (by rw [HL2.out, decide_eq_false (by omega)]; rfl)⟩
        case measure => simp [intOf]; omega
      · have hk : ls[j].a = k := by assumption
        refine (right_any ⟨k, ls[j].b, ls[j].lo, ls[j].hi⟩ t (wr.alloc (Obj.cells #[Value.int IntKind.i64 k, Value.int IntKind.i64 ls[j].b, Value.int IntKind.i64 ls[j].lo, Value.int IntKind.i64 ls[j].hi] 65)) ht (by simp only; omega) (by simp only; omega) (by simp only; omega) (by simp only; omega) (by simp only; omega) (by simp only; omega) (by simp only; omega)).mono ?_
        rintro e w2 ⟨rfl, hb1⟩
        replace hB := Kept.step1 hB hb1
        have HR : Hid (lenAt t k ls[j] = rightB ⟨k, ls[j].b, ls[j].lo, ls[j].hi⟩ t) := by
          have e : max ls[j].a ls[j].b = k := by omega
          have h2 := HL2.out
          rw [e] at h2
          rw [Hid, h2]
          simp only [decide_true, Bool.not_true, Bool.false_or]
          rw [← hk]
        clear hk
        cases hr : rightB ⟨k, ls[j].b, ls[j].lo, ls[j].hi⟩ t with
        | true =>
          have HR2 : Hid (lenAt t k ls[j] = true) := by rw [Hid, HR.out, hr]
          clear hr
          go_wp2
          go_roundw
          case rel => exact ⟨j + 1, by omega, by go_num, hB, HT HR2.out⟩
          case measure => simp [intOf]; omega
        | false =>
          have HR2 : Hid (lenAt t k ls[j] = false) := by rw [Hid, HR.out, hr]
          clear hr
          go_wp2
          go_ret
          exact ⟨ret_bool (HF HR2.out).out.symm, hB.off _ _⟩
      · go_roundw
        case rel => exact ⟨j + 1, by omega, by go_num, hB.alloc _, HT (by rw [HL2.out, decide_eq_false (by omega)]; rfl)⟩
        case measure => simp [intOf]; omega
    · have e : j = ls.length := by omega
      subst e
      have HT : Hid (lensRightB ls t k = true) := by rw [Hid, lensRightB, ← hall.out, List.take_length]
      clear hall
      go_wp2
      go_ret
      exact ⟨ret_bool (HT.out.symm), hB.off _ _⟩
end Go.Proofs.Ytkjciobphbcknaa
