/- PegProof: its closure. -/
import Derived.Test.YtkjciobphbcknaaAV
import Derived.Test.YtkjciobphbcknaaFA
namespace Go.Proofs.Ytkjciobphbcknaa
open Go.RowKit

/-- How many elements, as they are counted. -/
def sizeTo : Nat → Nat → Nat
  | 0, _ => 0
  | f + 1, n => n % 2 + sizeTo f (n / 2)
theorem sizeTo_step (f n : Nat) : sizeTo (f + 1) n = n % 2 + sizeTo f (n / 2) := rfl
theorem sizeTo_zero : ∀ f, sizeTo f 0 = 0
  | 0 => rfl
  | f + 1 => by rw [sizeTo, Nat.zero_div, sizeTo_zero f]
theorem sizeTo_cnt (n : Nat) (h : n < 64) : sizeTo 6 n = cnt n := (by decide +kernel : ∀ n : Fin 64, sizeTo 6 n.1 = cnt n.1) ⟨n, h⟩
theorem sizeTo_bd : ∀ f n, sizeTo f n ≤ f
  | 0, _ => by simp [sizeTo]
  | f + 1, n => by
    have := sizeTo_bd f (n / 2)
    have := Nat.mod_lt n (show 2 > 0 by omega)
    rw [sizeTo]; omega

set_option maxHeartbeats 2000000 in
theorem size_any (n : Nat) (w : World) (h : n < 64) : Calls Try.prog 39 #[.int .i64 n] w fun e w' => e = .returned (.int .i64 (cnt n)) ∧ w' = w := by
  have HC := Lib.hid (sizeTo_cnt n h)
  go_enter Try.func39, Try.ntmps39
  go_wp2
  go_loop [0, 3] (fun s k => ∃ x y : Nat, x < 64 ∧ s = .int .i64 x ∧ y ≤ 6 ∧ k = .int .i64 y ∧ ∃ f : Nat, Hid (x < 2 ^ f ∧ y + f ≤ 6 ∧ y + sizeTo f x = sizeTo 6 n)) (fun s _ => (intOf s).toNat)
  case atStart => exact ⟨n, 0, h, rfl, by omega, rfl, 6, h, by omega, by omega⟩
  case round =>
    obtain ⟨x, y, hx, rfl, hy, rfl, f, HF⟩ := hrel
    by_cases h0 : x = 0
    · have HE : Hid (y = cnt n) := by
        obtain ⟨_, _, h3⟩ := HF.out
        rw [h0, sizeTo_zero, HC.out] at h3
        exact h3
      subst h0
      go_wp2
      go_ret
      exact ⟨by rw [HE.out]; rfl, rfl⟩
    · have hpos : 0 < x := by omega
      have HN : Hid (∃ g : Nat, x / 2 < 2 ^ g ∧ (y + x % 2) + g ≤ 6 ∧ (y + x % 2) + sizeTo g (x / 2) = sizeTo 6 n) := by
        obtain ⟨h1, h2, h3⟩ := HF.out
        cases f with
        | zero => simp at h1; omega
        | succ g =>
          rw [sizeTo_step] at h3
          have := Nat.mod_lt x (show 2 > 0 by omega)
          exact ⟨g, by rw [Nat.pow_succ] at h1; omega, by omega, by omega⟩
      have h2 : (0 : Int) < (x : Int) := by omega
      go_wp2
      go_round
      case rel =>
        obtain ⟨g, g1, g2, g3⟩ := HN.out
        exact ⟨x / 2, y + x % 2, by omega, by go_num, by omega, by go_num, g, g1, g2, g3⟩
      case measure => simp [intOf]; omega
end Go.Proofs.Ytkjciobphbcknaa
namespace Go.Proofs.Ytkjciobphbcknaa
open Go.RowKit

theorem shl_nat (i : Nat) (h : i < 7) : wrap64 (2 ^ i) = 2 ^ i := (by decide +kernel : ∀ i : Fin 7, wrap64 (2 ^ i.1) = 2 ^ i.1) ⟨i, h⟩
theorem moved_part {p : PegsD} {pa la : Option Addr} {pc lc : Nat} {w : World} {set : Nat} {o : Except Int (Int × Int × Bool)} (hv : validB p = true) (hp : PegsIn w (partP p set) pa la) (ho : movedR (partP p set) = o) :
    Calls Try.prog 13 #[.agg #[.int .i64 p.side, .slice pa p.ps.length pc, .slice la (partL set p.ls).length lc]] w
      fun e w' => e = .returned (.tuple #[.int .i64 (valOf (0, 0, false) o).2.1, .bool (valOf (0, 0, false) o).2.2, .int .i64 (errOf o)]) ∧ Kept w w' := by
  have hl := validB_sizes hv
  have hl2 := (fit_of_valid (validB_part hv set)).l6
  have h := moved_any (partP p set) pa la pc lc w (by have : (partP p set).ps.length = p.ps.length := rfl; omega) (by omega) hp
  rw [ho] at h
  exact h

theorem moved_part_ok {p : PegsD} {pa la : Option Addr} {pc lc : Nat} {w : World} {set : Nat} {A S : Int} {b : Bool} (hv : validB p = true) (hp : PegsIn w (partP p set) pa la) (ho : movedR (partP p set) = .ok (A, S, b)) :
    Calls Try.prog 13 #[.agg #[.int .i64 p.side, .slice pa p.ps.length pc, .slice la (partL set p.ls).length lc]] w fun e w' => e = .returned (.tuple #[.int .i64 S, .bool b, .int .i64 0]) ∧ Kept w w' := moved_part hv hp ho
theorem moved_part_err {p : PegsD} {pa la : Option Addr} {pc lc : Nat} {w : World} {set : Nat} {n : Int} (hv : validB p = true) (hp : PegsIn w (partP p set) pa la) (ho : movedR (partP p set) = .error n) :
    Calls Try.prog 13 #[.agg #[.int .i64 p.side, .slice pa p.ps.length pc, .slice la (partL set p.ls).length lc]] w fun e w' => e = .returned (.tuple #[.int .i64 0, .bool false, .int .i64 n]) ∧ Kept w w' := moved_part hv hp ho
set_option maxHeartbeats 2000000 in
theorem proves_any (p : PegsD) (pa la : Option Addr) (pc lc b set i : Nat) (w : World) (hv : validB p = true) (hi : i < p.ps.length) (hset : set < 64) (hB : PBox w b (.int .i64 p.side) (.slice pa p.ps.length pc) (.slice la p.ls.length lc)) (hp : PegsIn w p pa la) :
    Calls Try.prog 37 #[.int .i64 set, .int .i64 i, .pointer (some ⟨b, 0, none⟩)] w fun e w' => e = .returned (.bool (provesR p set i)) ∧ Kept w w' := by
  have HP := Lib.hid hp
  have h6 := (fit_of_valid hv).l6
  have h4 := (fit_of_valid hv).n4
  obtain ⟨l, b0, b1, b2, _, _, _⟩ := hB
  have HV := Lib.hid hv
  have hsh := shl_nat i (by omega)
  have hi0 : (0 : Int) ≤ (i : Int) := by omega
  have hi4 : (i : Int) < 4 := by omega
  have hvp := validB_part hv set
  by_cases hE : truthsL (partP p set) = []
  · have e : movedR (partP p set) = .error 10 := by rw [movedR, if_neg (by simp [hvp]), if_pos hE]
    have HR : Hid (provesR p set i = false) := by rw [Hid, provesR, e]
    have HE := Lib.hid e
    clear hp hv hvp hE e
    go_enter Try.func37, Try.ntmps37
    go_wp2_with (first
      | (go_at_call 38; refine (part_any p.side _ la lc p.ls set _ hset h6 HP.out.2 ⟨_, _, _, rfl⟩).mono ?_; rintro e w1 ⟨la1, lc1, rfl, hl1, _, k1⟩)
      | (go_at_call 13; refine (moved_part_err HV.out ⟨(HP.out.kept k1).1, hl1⟩ HE.out).mono ?_; rintro e w2 ⟨rfl, k2⟩))
    go_ret
    exact ⟨by rw [HR.out]; rfl, k1.step0 k2⟩
  · obtain ⟨S, bb, e, hrest⟩ := movedR_spec hvp hE
    clear hrest
    have HE := Lib.hid e
    cases bb with
    | true =>
      have HR : Hid (provesR p set i = false) := by rw [Hid, provesR, e]; rfl
      clear hp hv hvp hE e
      go_enter Try.func37, Try.ntmps37
      go_wp2_with (first
        | (go_at_call 38; refine (part_any p.side _ la lc p.ls set _ hset h6 HP.out.2 ⟨_, _, _, rfl⟩).mono ?_; rintro e w1 ⟨la1, lc1, rfl, hl1, _, k1⟩)
        | (go_at_call 13; refine (moved_part_ok HV.out ⟨(HP.out.kept k1).1, hl1⟩ HE.out).mono ?_; rintro e w2 ⟨rfl, k2⟩))

      go_ret
      exact ⟨by rw [HR.out]; rfl, k1.step0 k2⟩
    | false =>
      have HR : Hid (provesR p set i = decide ((S : Int) = 2 ^ i)) := by rw [Hid, provesR, e]; simp
      clear hp hv hvp hE e
      go_enter Try.func37, Try.ntmps37
      go_wp2_with (first
        | (go_at_call 38; refine (part_any p.side _ la lc p.ls set _ hset h6 HP.out.2 ⟨_, _, _, rfl⟩).mono ?_; rintro e w1 ⟨la1, lc1, rfl, hl1, _, k1⟩)
        | (go_at_call 13; refine (moved_part_ok HV.out ⟨(HP.out.kept k1).1, hl1⟩ HE.out).mono ?_; rintro e w2 ⟨rfl, k2⟩))
      go_ret
      exact ⟨by rw [HR.out]; rfl, k1.step0 k2⟩
end Go.Proofs.Ytkjciobphbcknaa
