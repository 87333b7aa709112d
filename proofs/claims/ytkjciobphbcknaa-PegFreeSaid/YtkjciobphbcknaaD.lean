/- Package peg: distances and areas. -/
import Derived.Test.YtkjciobphbcknaaC
import Derived.Lib.QuietBelow
import Derived.StillTailTactics
namespace Go.Proofs.Ytkjciobphbcknaa
open Go.RowKit

def sqSum (xs : List Int) : Int := (xs.map fun x => x * x).foldl (· + ·) 0
theorem sqSum_snoc (xs : List Int) (k : Nat) (h : k < xs.length) : sqSum (xs.take (k + 1)) = sqSum (xs.take k) + xs[k] * xs[k] := by
  rw [sqSum, sqSum, List.take_succ_eq_append_getElem h, List.map_append, List.foldl_append]; rfl
def small (xs : List Int) : Prop := xs.length ≤ 4 ∧ ∀ x ∈ xs, -40 ≤ x ∧ x ≤ 40
theorem sq_bd {x : Int} (h : -40 ≤ x ∧ x ≤ 40) : 0 ≤ x * x ∧ x * x ≤ 1600 := by
  refine ⟨by rw [← Int.natAbs_mul_self' x]; exact Int.natCast_nonneg _, ?_⟩
  have : x.natAbs ≤ 40 := by omega
  rw [← Int.natAbs_mul_self' x]
  have := Nat.mul_le_mul this this
  omega
theorem sqSum_bd (xs : List Int) (k : Nat) (h : small xs) (hk : k ≤ xs.length) : 0 ≤ sqSum (xs.take k) ∧ sqSum (xs.take k) ≤ 1600 * k := by
  induction k with
  | zero => simp [sqSum]
  | succ k ih =>
    have h1 := ih (by omega)
    have h2 := sq_bd (h.2 xs[k] (List.getElem_mem (by omega)))
    rw [sqSum_snoc _ _ (by omega)]
    omega

set_option maxHeartbeats 1000000 in
theorem squares_any (xa : Option Addr) (xc : Nat) (xs : List Int) (w : World) (hs : small xs) (hx : IntsIn w xa xs) :
    Calls Try.prog 84 #[.slice xa xs.length xc] w fun e w' => e = .returned (.int .i64 (sqSum xs)) ∧ w' = w := by
  have HX := Lib.hid hx
  have hlen := hs.1
  have HS := Lib.hid hs
  clear hx hs
  go_enter Try.func84, Try.ntmps84
  go_wp2
  go_loop [3, 5, 8] (fun s _ i => ∃ k : Nat, k ≤ xs.length ∧ i = .int .i64 k ∧ s = .int .i64 (sqSum (xs.take k))) (fun _ _ i => xs.length - (intOf i).toNat)
  case atStart => exact ⟨0, Nat.zero_le _, rfl, rfl⟩
  case round =>
    obtain ⟨k, hk, rfl, rfl⟩ := hrel
    by_cases hlt : k < xs.length
    · obtain ⟨b, o, rfl, hbs, c1⟩ := HX.out k (xs[k]) (by simp)
      have HQ : Hid (sqSum (xs.take (k + 1)) = sqSum (xs.take k) + xs[k] * xs[k]) := sqSum_snoc _ _ hlt
      obtain ⟨b1, b2⟩ := sqSum_bd xs k HS.out hk
      obtain ⟨b3, b4⟩ := sq_bd (HS.out.2 xs[k] (List.getElem_mem (by omega)))
      have hk4 : k ≤ 4 := by omega
      go_wp2
      go_round
      case rel => exact ⟨k + 1, by omega, by go_num, by rw [HQ.out]⟩
      case measure => simp [intOf]; omega
    · have e : k = xs.length := by omega
      subst e
      go_wp2
      go_ret
      exact ⟨rfl, rfl⟩

theorem ints1 (w : World) (a : Int) : IntsIn (w.alloc (.cells #[.int .i64 a] 3)) (some ⟨w.heap.size, 0, none⟩) [a] := by
  intro i x hi
  match i with
  | 0 => simp at hi; subst hi; exact ⟨_, _, rfl, by simp, by simp [go_sem]⟩
  | n + 1 => simp at hi
theorem ints2 (w : World) (a b : Int) : IntsIn (w.alloc (.cells #[.int .i64 a, .int .i64 b] 3)) (some ⟨w.heap.size, 0, none⟩) [a, b] := by
  intro i x hi
  match i with
  | 0 => simp at hi; subst hi; exact ⟨_, _, rfl, by simp, by simp [go_sem]⟩
  | 1 => simp at hi; subst hi; exact ⟨_, _, rfl, by simp, by simp [go_sem]⟩
  | n + 2 => simp at hi

theorem squares1 (a : Int) (n c : Nat) (w : World) (h : -40 ≤ a ∧ a ≤ 40) (hn : n = w.heap.size) : Calls Try.prog 84 #[.slice (some ⟨n, 0, none⟩) 1 c] (w.alloc (.cells #[.int .i64 a] 3)) fun e w' => e = .returned (.int .i64 (a * a)) ∧ w' = w.alloc (.cells #[.int .i64 a] 3) := by
  subst hn; exact (squares_any (some ⟨w.heap.size, 0, none⟩) c [a] _ ⟨by simp, by simpa using h⟩ (ints1 w a)).mono fun e w' h => ⟨by rw [h.1]; simp [sqSum], h.2⟩
theorem squares2 (a b : Int) (n c : Nat) (w : World) (h : -40 ≤ a ∧ a ≤ 40) (h2 : -40 ≤ b ∧ b ≤ 40) (hn : n = w.heap.size) : Calls Try.prog 84 #[.slice (some ⟨n, 0, none⟩) 2 c] (w.alloc (.cells #[.int .i64 a, .int .i64 b] 3)) fun e w' => e = .returned (.int .i64 (a * a + b * b)) ∧ w' = w.alloc (.cells #[.int .i64 a, .int .i64 b] 3) := by
  subst hn; exact (squares_any (some ⟨w.heap.size, 0, none⟩) c [a, b] _ ⟨by simp, by simp; omega⟩ (ints2 w a b)).mono fun e w' h => ⟨by rw [h.1]; simp [sqSum], h.2⟩

structure Pl where
  x : Int
  y : Int
  deriving DecidableEq
/-- A place of a field whose side is at most 15. -/
def Pl.ok (s : Pl) : Prop := 0 ≤ s.x ∧ s.x ≤ 15 ∧ 0 ≤ s.y ∧ s.y ≤ 15
def apartI (a b : Pl) : Int := (a.x - b.x) * (a.x - b.x) + (a.y - b.y) * (a.y - b.y)
def areaI (a b c : Pl) : Int := (b.x - a.x) * (c.y - a.y) - (c.x - a.x) * (b.y - a.y)
abbrev plV (s : Pl) : Value := .agg #[.int .i64 s.x, .int .i64 s.y]

set_option maxHeartbeats 400000 in
theorem apart_any (a b : Pl) (w : World) (ha : a.ok) (hb : b.ok) :
    Calls Try.prog 105 #[.agg #[.int .i64 a.x, .int .i64 a.y], .agg #[.int .i64 b.x, .int .i64 b.y]] w fun e w' => e = .returned (.int .i64 (apartI a b)) ∧ Kept w w' := by
  obtain ⟨a1, a2, a3, a4⟩ := ha
  obtain ⟨b1, b2, b3, b4⟩ := hb
  go_enter Try.func105, Try.ntmps105
  go_wp2_with (go_at_call 84; refine (squares2 _ _ _ _ _ (by omega) (by omega) (by simp)).mono ?_; rintro e w1 ⟨rfl, rfl⟩)
  go_ret
  exact ⟨rfl, (((Kept.refl _).alloc _).alloc _).alloc _⟩

theorem mul_bd {x y : Int} (h : -15 ≤ x ∧ x ≤ 15) (h2 : -15 ≤ y ∧ y ≤ 15) : -225 ≤ x * y ∧ x * y ≤ 225 := by
  have h3 : x.natAbs ≤ 15 := by omega
  have h4 : y.natAbs ≤ 15 := by omega
  have h5 := Nat.mul_le_mul h3 h4
  have h6 : (x * y).natAbs = x.natAbs * y.natAbs := Int.natAbs_mul x y
  omega

set_option maxHeartbeats 400000 in
theorem area_any (a b c : Pl) (w : World) (ha : a.ok) (hb : b.ok) (hc : c.ok) :
    Calls Try.prog 126 #[.agg #[.int .i64 a.x, .int .i64 a.y], .agg #[.int .i64 b.x, .int .i64 b.y], .agg #[.int .i64 c.x, .int .i64 c.y]] w fun e w' => e = .returned (.int .i64 (max (areaI a b c) (-areaI a b c))) ∧ Kept w w' := by
  obtain ⟨a1, a2, a3, a4⟩ := ha
  obtain ⟨b1, b2, b3, b4⟩ := hb
  obtain ⟨c1, c2, c3, c4⟩ := hc
  obtain ⟨m1, m2⟩ := mul_bd (x := b.x - a.x) (y := c.y - a.y) (by omega) (by omega)
  obtain ⟨m3, m4⟩ := mul_bd (x := c.x - a.x) (y := b.y - a.y) (by omega) (by omega)
  have HA : Hid (areaI a b c = (b.x - a.x) * (c.y - a.y) - (c.x - a.x) * (b.y - a.y)) := rfl
  go_enter Try.func126, Try.ntmps126
  go_wp2
  all_goals
    go_ret
    refine ⟨ret_int ?_, (((Kept.refl _).alloc _).alloc _).alloc _⟩
    rw [HA.out]
    omega

def beyondI (n lo hi : Int) : Int := max (max (lo - n) (n - hi)) 0
set_option maxHeartbeats 400000 in
theorem beyond_any (lo hi m : Int) (w : World) (h1 : 0 ≤ lo) (h2 : lo ≤ 15) (h3 : 0 ≤ hi) (h4 : hi ≤ 15) (h5 : 0 ≤ m) (h6 : m ≤ 15) :
    Calls Try.prog 85 #[.int .i64 m, .agg #[.int .i64 lo, .int .i64 hi]] w fun e w' => e = .returned (.int .i64 (beyondI m lo hi)) ∧ Kept w w' := by
  have HA : Hid (beyondI m lo hi = max (max (lo - m) (m - hi)) 0) := rfl
  go_enter Try.func85, Try.ntmps85
  go_wp2
  all_goals
    go_ret
    exact ⟨ret_int (by rw [HA.out]; (try split at *) <;> omega), (Kept.refl _).alloc _⟩
theorem beyond_bd (lo hi m : Int) (h1 : 0 ≤ lo) (h2 : lo ≤ 15) (h3 : 0 ≤ hi) (h4 : hi ≤ 15) (h5 : 0 ≤ m) (h6 : m ≤ 15) : 0 ≤ beyondI m lo hi ∧ beyondI m lo hi ≤ 15 := by
  unfold beyondI; omega
end Go.Proofs.Ytkjciobphbcknaa
