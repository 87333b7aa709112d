/- Package peg: how many elements a set has. -/
import Derived.Test.YtkjciobphbcknaaAH
namespace Go.Proofs.Ytkjciobphbcknaa
open Go.RowKit

def popA (x : Int) : Int := IntKind.u64.wrap (bits .and .u64 (x / 2) 6148914691236517205 + bits .and .u64 x 6148914691236517205)
def popB (a : Int) : Int := IntKind.u64.wrap (bits .and .u64 (a / 4) 3689348814741910323 + bits .and .u64 a 3689348814741910323)
def popC (b : Int) : Int := bits .and .u64 (IntKind.u64.wrap (b / 16 + b)) 1085102592571150095
def popD (c : Int) : Int := IntKind.u64.wrap (c + c / 256)
def popE (d : Int) : Int := IntKind.u64.wrap (d + d / 65536)
def popF (e : Int) : Int := IntKind.u64.wrap (e + e / 4294967296)
def popAll (x : Int) : Int := bits .and .i64 (wrap64 (popF (popE (popD (popC (popB (popA x))))))) 127
/-- How many of the first six bits are set. -/
def cnt (n : Nat) : Nat := n % 2 + n / 2 % 2 + n / 4 % 2 + n / 8 % 2 + n / 16 % 2 + n / 32 % 2
theorem popAll_eq (n : Nat) (h : n < 64) : popAll (n : Int) = (cnt n : Int) := (by decide +kernel : ∀ n : Fin 64, popAll (n.1 : Int) = (cnt n.1 : Int)) ⟨n, h⟩

theorem ones96 (n : Nat) (w : World) (h : n < 64) : Calls Try.prog 96 #[.int .u64 n] w fun e w' => e = .returned (.int .i64 (cnt n)) ∧ w' = w := by
  have h0 : (0 : Int) ≤ (n : Int) := by omega
  have h1 : (n : Int) < 64 := by omega
  have HP := Lib.hid (popAll_eq n h)
  clear h
  generalize (n : Int) = x at *
  go_enter Try.func96, Try.ntmps96
  go_wp2
  go_ret
  exact ⟨ret_int (by rw [← HP.out]; rfl), rfl⟩

theorem ones_any (n : Nat) (w : World) (h : n < 64) : Calls Try.prog 87 #[.int .u64 n] w fun e w' => e = .returned (.int .i64 (cnt n)) ∧ w' = w := by
  have h0 : (0 : Int) ≤ (n : Int) := by omega
  have h1 : (n : Int) < 64 := by omega
  go_enter Try.func87, Try.ntmps87
  go_wp2_with (go_at_call 96; refine (ones96 n _ h).mono ?_; rintro e w1 ⟨rfl, rfl⟩)
  go_ret
  exact ⟨rfl, rfl⟩

/-- Is the set a part of the other one? -/
def subB (set all : Nat) : Bool := decide (all &&& set = set)
theorem and_sub (a s : Nat) (ha : a < 64) (hs : s < 64) : bits .and .i64 (a : Int) (s : Int) = ((a &&& s : Nat) : Int) := (by decide +kernel : ∀ a s : Fin 64, bits .and .i64 (a.1 : Int) (s.1 : Int) = ((a.1 &&& s.1 : Nat) : Int)) ⟨a, ha⟩ ⟨s, hs⟩
def noneB (s : EvD) (set n : Nat) : Bool := (List.range n).all fun a => !(subB set a && s.not a)
def someB (s : EvD) (set n : Nat) : Bool := (List.range n).any fun a => subB set a && s.moved a
/-- Do the lengths of the set prove it? -/
def proveB (s : EvD) (set : Nat) : Bool := noneB s set 64 && someB s set 64
theorem noneB_succ (s : EvD) (set n : Nat) : noneB s set (n + 1) = (noneB s set n && !(subB set n && s.not n)) := by simp [noneB, List.range_succ]
theorem someB_succ (s : EvD) (set n : Nat) : someB s set (n + 1) = (someB s set n || (subB set n && s.moved n)) := by simp [someB, List.range_succ]
theorem noneB_false {s : EvD} {set j : Nat} (hj : j < 64) (h : (subB set j && s.not j) = true) : noneB s set 64 = false := by
  rw [noneB, List.all_eq_false]
  exact ⟨j, by simp [hj], by simp [h]⟩

set_option maxHeartbeats 4000000 in
theorem prove_any (b : Nat) (la : Option Addr) (lc : Nat) (s : EvD) (set : Nat) (W : World) (hset : set < 64) (h : EvAt b la lc s W) :
    Calls Try.prog 66 #[.pointer (some ⟨b, 0, none⟩), .int .i64 set] W fun e w' => e = .returned (.bool (proveB s set)) ∧ w' = W := by
  obtain ⟨hb, _, _, cm, cn, _⟩ := h
  have HCM := Lib.hid cm
  have HCN := Lib.hid cn
  clear cm cn
  go_enter Try.func66, Try.ntmps66
  go_wp2
  go_loopw [5, 7] (fun v i wr => ∃ j : Nat, j ≤ 64 ∧ i = .int .i64 j ∧ v = .bool (someB s set j) ∧ wr = W ∧ Hid (noneB s set j = true)) (fun _ i _ => 64 - (intOf i).toNat)
  case atStart => exact ⟨0, by omega, rfl, rfl, rfl, rfl⟩
  case round =>
    obtain ⟨j, hj, rfl, rfl, rfl, hn⟩ := hrel
    by_cases hlt : j < 64
    · obtain ⟨m1, m2⟩ := HCM.out j hlt
      obtain ⟨n1, n2⟩ := HCN.out j hlt
      have hlt2 : (j : Int) < 64 := by omega
      have hand := and_sub j set hlt hset
      have HS := someB_succ s set j
      have HN := noneB_succ s set j
      by_cases hsub : j &&& set = set
      · have hs : subB set j = true := by simp [subB, hsub]
        rw [hs, Bool.true_and] at HS HN
        rw [hsub] at hand
        cases hnot : s.not j with
        | true =>
          have HF : Hid (proveB s set = false) := by rw [Hid, proveB, noneB_false hlt (by rw [hs, hnot]; rfl)]; rfl
          clear HS HN hs
          rw [hnot] at n1
          go_wp2
          go_ret
          exact ⟨ret_bool HF.out.symm, rfl⟩
        | false =>
          rw [hnot] at n1 HN
          rw [hn.out] at HN
          generalize someB s set j = pv at *
          have HS2 := Lib.hid HS
          have HN2 := Lib.hid HN
          clear HS HN hs
          cases pv with
          | true =>
            go_wp2
            go_roundw
            case rel => exact ⟨j + 1, by omega, by go_num, by rw [HS2.out]; rfl, trivial, HN2.out⟩
            case measure => simp [intOf]; omega
          | false =>
            go_wp2
            go_roundw
            case rel => exact ⟨j + 1, by omega, by go_num, by rw [HS2.out]; rfl, trivial, HN2.out⟩
            case measure => simp [intOf]; omega
      · have hs : subB set j = false := by simp [subB, hsub]
        rw [hs, Bool.false_and] at HS HN
        rw [hn.out] at HN
        have hne : ¬ ((j &&& set : Nat) : Int) = (set : Int) := by omega
        have HS2 := Lib.hid HS
        have HN2 := Lib.hid HN
        clear HS HN hs
        go_wp2
        go_roundw
        case rel => exact ⟨j + 1, by omega, by go_num, by rw [HS2.out]; simp, trivial, HN2.out⟩
        case measure => simp [intOf]; omega
    · have e : j = 64 := by omega
      subst e
      have HP : Hid (proveB s set = someB s set 64) := by rw [Hid, proveB, hn.out]; rfl
      go_wp2
      go_ret
      exact ⟨ret_bool HP.out.symm, rfl⟩
end Go.Proofs.Ytkjciobphbcknaa
