/- PegProof: the main walk, if something proves it. -/
import Derived.Test.YtkjciobphbcknaaPB
namespace Go.Proofs.Ytkjciobphbcknaa
open Go.RowKit

theorem and_all (x n : Nat) (hx : x < 256) (hn : n < 7) : bits .and .i64 (x : Int) (2 ^ n - 1) = ((x % 2 ^ n : Nat) : Int) :=
  (by decide +kernel : ∀ x : Fin 256, ∀ n : Fin 7, bits .and .i64 (x.1 : Int) (2 ^ n.1 - 1) = ((x.1 % 2 ^ n.1 : Nat) : Int)) ⟨x, hx⟩ ⟨n, hn⟩
theorem pow_bd (n : Nat) (hn : n < 7) : (1 : Int) ≤ 2 ^ n ∧ (2 : Int) ^ n ≤ 64 := (by decide +kernel : ∀ n : Fin 7, (1 : Int) ≤ 2 ^ n.1 ∧ (2 : Int) ^ n.1 ≤ 64) ⟨n, hn⟩
theorem all_nat (n : Nat) : (2 : Int) ^ n - 1 = ((2 ^ n - 1 : Nat) : Int) := by
  have := Nat.two_pow_pos n
  have e : ((2 ^ n : Nat) : Int) = 2 ^ n := by push_cast; rfl
  omega

set_option maxRecDepth 100000 in
set_option maxHeartbeats 8000000 in
theorem pegProof_none (p : PegsD) (i : Nat) (b : Int) (x : Nat) (pa la : Option Addr) (pc lc : Nat) (w : World) (hp : PegsIn w p pa la) (hv : validB p = true) (hi : i < p.ps.length) (hh : heavyB p 3 9 = false) (hx : x < 256) (hN : proofR p i = .error 4) (hno : ∀ y, y < 2 ^ p.ls.length → provesR p y i = false) :
    Calls Try.prog 7 #[.agg #[.int .i64 p.side, .slice pa p.ps.length pc, .slice la p.ls.length lc], .int .i64 i, .int .i64 b, .int .u8 x] w fun e w' => e = .returned (.bool true) ∧ Kept w w' := by
  obtain ⟨s0, s1, l4, l6⟩ := validB_sizes hv
  have hm : p.ps.length ≤ 9223372036854775807 := by omega
  have hm2 : p.ls.length ≤ 9223372036854775807 := by omega
  have HV := Lib.hid hv
  have HH := Lib.hid hh
  have HP := Lib.hid hp
  have HI : Hid (isPegB p.ps.length (i : Int) = true) := by simp [Hid, isPegB, hi]
  have HN : Hid (∀ w', PegsIn w' p pa la → Calls Try.prog 25 #[.agg #[.int .i64 p.side, .slice pa p.ps.length pc, .slice la p.ls.length lc], .int .i64 i] w' fun e w'' => e = .returned (.tuple #[.int .i64 0, .int .i64 4]) ∧ Kept w' w'') := fun w' h' => by
    have h := proof_any p i pa la pc lc w' hm hm2 h'
    rw [hN] at h
    exact h
  obtain ⟨q1, q2⟩ := pow_bd p.ls.length (by omega)
  have qw := shl_nat p.ls.length (by omega)
  have qa := and_all x p.ls.length hx (by omega)
  have qn := all_nat p.ls.length
  have hown : x % 2 ^ p.ls.length < 2 ^ p.ls.length := Nat.mod_lt _ (Nat.two_pow_pos _)
  have h64 : 2 ^ p.ls.length ≤ 64 := Nat.pow_le_pow_right (by omega) (show p.ls.length ≤ 6 from l6)
  have HO := Lib.hid (hno _ hown)
  have HA := Lib.hid (hno (2 ^ p.ls.length - 1) (by have := Nat.two_pow_pos p.ls.length; omega))
  have hown2 : x % 2 ^ p.ls.length < 64 := by omega
  have hall2 : 2 ^ p.ls.length - 1 < 64 := by omega
  have hx0 : (0 : Int) ≤ (x : Int) := by omega
  have hx1 : (x : Int) < 256 := by omega
  rw [qn] at qa
  generalize ho : x % 2 ^ p.ls.length = own at *
  generalize ha : 2 ^ p.ls.length - 1 = all at *
  clear hv hh hp hN hno hown h64 ho ha
  go_enter Try.func7, Try.ntmps7
  go_wp2_with (first
    | (go_at_call 11; refine (heavy_any p _ _ _ _ _ _ _ hm hm2 (HP.out.kept ((Kept.refl _).alloc _))).mono ?_; rintro e f1 ⟨rfl, k1⟩; have kk1 := Kept.step1 (Kept.refl w) k1; have B1 := (pbox_new w _ _ _ _).kept k1; obtain ⟨l1, a10, a11, a12, z10, z11, z12⟩ := id B1; rw [HH.out])
    | (go_at_call 25; refine (HN.out _ (HP.out.kept kk1)).mono ?_; rintro e f2 ⟨rfl, k2⟩; have kk2 := kk1.step0 k2; have B2 := B1.kept k2; obtain ⟨l2, a20, a21, a22, z20, z21, z22⟩ := id B2)
    | (go_at_call 35; refine (rvalid_any p _ _ _ _ _ hm hm2 (HP.out.kept kk2)).mono ?_; rintro e f3 ⟨rfl, k3⟩; have kk3 := kk2.step0 k3; have B3 := B2.kept k3; obtain ⟨l3, a30, a31, a32, z30, z31, z32⟩ := id B3; rw [HV.out])
    | (go_at_call 36; refine (rPeg_any _ _ _ _ _ _ _ _ _ hm).mono ?_; rintro e f4 ⟨rfl, k4⟩; have kk4 := kk3.step0 k4; have B4 := B3.kept k4; obtain ⟨l4', a40, a41, a42, z40, z41, z42⟩ := id B4; rw [HI.out])
    | (go_at_call 37; have kq := k5; refine (proves_any p pa la pc lc w.heap.size all i _ HV.out hi hall2 B5 (HP.out.kept kk5)).mono ?_; rintro e f6 ⟨rfl, k6⟩; have kk6 := kk5.step0 k6; rw [HA.out])
    | (go_at_call 37; refine (proves_any p pa la pc lc w.heap.size own i _ HV.out hi hown2 B4 (HP.out.kept kk4)).mono ?_; rintro e f5 ⟨rfl, k5⟩; have kk5 := kk4.step0 k5; have B5 := B4.kept k5; rw [HO.out])
    | (go_at_call 12; refine (alive_any _).mono ?_; rintro e wa ⟨rfl, ka⟩))
  go_ret
  exact ⟨rfl, kk6.step0 ka⟩
end Go.Proofs.Ytkjciobphbcknaa
namespace Go.Proofs.Ytkjciobphbcknaa
open Go.RowKit

theorem andNot_run (s k : Nat) (hs : s < 64) (hk : k < 6) (h : s / 2 ^ k % 2 = 1) : bits .andNot .i64 (s : Int) (2 ^ k) = ((s - 2 ^ k : Nat) : Int) :=
  (by decide +kernel : ∀ s : Fin 64, ∀ k : Fin 6, s.1 / 2 ^ k.1 % 2 = 1 → bits .andNot .i64 (s.1 : Int) (2 ^ k.1) = ((s.1 - 2 ^ k.1 : Nat) : Int)) ⟨s, hs⟩ ⟨k, hk⟩ h
/-- What is told of another peg. -/
theorem proofR_cases {p : PegsD} (hv : validB p = true) (b : Int) : (∃ n : Int, proofR p b = .error n ∧ n ≠ 0) ∨ ∃ (j y : Nat), b = j ∧ j < p.ps.length ∧ proofR p b = .ok (y : Int) ∧ y < 2 ^ p.ls.length ∧ provesR p y j = true := by
  by_cases hb : 0 ≤ b ∧ b < p.ps.length
  · obtain ⟨j, rfl⟩ := Int.eq_ofNat_of_zero_le hb.1
    rcases proofR_first hv (i := j) (by omega) with ⟨h, _⟩ | ⟨y, h1, h2, _, h3, _⟩
    · exact .inl ⟨4, h, by decide⟩
    · exact .inr ⟨j, y, rfl, by omega, h1, h2, h3⟩
  · left
    refine ⟨2, ?_, by decide⟩
    have : checkR p [b] = some 2 := by
      simp only [checkR, hv, List.all_cons, List.all_nil, Bool.and_true, isPegB]
      rw [if_neg (by simp), if_pos (by simp; omega)]
    rw [proofR, this]

set_option maxRecDepth 100000 in
set_option maxHeartbeats 16000000 in
theorem pegProof_some (p : PegsD) (i : Nat) (b : Int) (x s : Nat) (pa la : Option Addr) (pc lc : Nat) (w : World) (hp : PegsIn w p pa la) (hv : validB p = true) (hi : i < p.ps.length) (hh : heavyB p 3 9 = false) (hx : x < 256)
    (hN : proofR p i = .ok (s : Int)) (hs : s < 2 ^ p.ls.length) (hs1 : 1 ≤ s) (hsp : provesR p s i = true) (hmin : ∀ y, y < 2 ^ p.ls.length → provesR p y i = true → y = s ∨ before s y) :
    Calls Try.prog 7 #[.agg #[.int .i64 p.side, .slice pa p.ps.length pc, .slice la p.ls.length lc], .int .i64 i, .int .i64 b, .int .u8 x] w fun e w' => e = .returned (.bool true) ∧ Kept w w' := by
  obtain ⟨s0, s1, l4, l6⟩ := validB_sizes hv
  have hm : p.ps.length ≤ 9223372036854775807 := by omega
  have hm2 : p.ls.length ≤ 9223372036854775807 := by omega
  have HV := Lib.hid hv
  have HH := Lib.hid hh
  have HP := Lib.hid hp
  have HI : Hid (isPegB p.ps.length (i : Int) = true) := by simp [Hid, isPegB, hi]
  have HN : Hid (∀ w', PegsIn w' p pa la → Calls Try.prog 25 #[.agg #[.int .i64 p.side, .slice pa p.ps.length pc, .slice la p.ls.length lc], .int .i64 i] w' fun e w'' => e = .returned (.tuple #[.int .i64 s, .int .i64 0]) ∧ Kept w' w'') := fun w' h' => by
    have h := proof_any p i pa la pc lc w' hm hm2 h'
    rw [hN] at h
    exact h
  obtain ⟨q1, q2⟩ := pow_bd p.ls.length (by omega)
  have qw := shl_nat p.ls.length (by omega)
  have qa := and_all x p.ls.length hx (by omega)
  have qn := all_nat p.ls.length
  have hown : x % 2 ^ p.ls.length < 2 ^ p.ls.length := Nat.mod_lt _ (Nat.two_pow_pos _)
  have h64 : 2 ^ p.ls.length ≤ 64 := Nat.pow_le_pow_right (by omega) (show p.ls.length ≤ 6 from l6)
  have HS := Lib.hid hsp
  have HNeed : Hid (∀ k : Nat, k < p.ls.length → s / 2 ^ k % 2 = 1 → provesR p (s - 2 ^ k) i = false) := fun k hk hb => proof_needs hv hs hmin hk hb
  have HOwn : Hid (provesR p (x % 2 ^ p.ls.length) i = true → ¬ cnt (x % 2 ^ p.ls.length) < cnt s ∧ (cnt (x % 2 ^ p.ls.length) = cnt s → ¬ x % 2 ^ p.ls.length < s)) := fun h => by
    rcases hmin _ hown h with e | e | e
    · rw [e]; exact ⟨by omega, fun _ => by omega⟩
    · exact ⟨by omega, fun _ => by omega⟩
    · exact ⟨by omega, fun _ => by omega⟩
  have hown2 : x % 2 ^ p.ls.length < 64 := by omega
  have hs64 : s < 64 := by omega
  have hsall : s ≤ 2 ^ p.ls.length - 1 := by omega
  have hx0 : (0 : Int) ≤ (x : Int) := by omega
  have hx1 : (x : Int) < 256 := by omega
  rw [qn] at qa
  generalize ho : x % 2 ^ p.ls.length = own at *
  generalize ha : 2 ^ p.ls.length - 1 = all at *
  have t1 : decide ((s : Int) < 1) = false := by simp; omega
  have t2 : decide ((all : Int) < (s : Int)) = false := by simp; omega
  have t2' : decide (all < s) = false := by simp; omega
  have HC := Lib.hid (proofR_cases hv b)
  have HT : Hid (∀ (j y : Nat), y < 2 ^ p.ls.length → provesR p y j = true → i ≠ j → truthsL p = []) := fun j y hy hpj hij => two_proofs hv hs hy hsp hpj hij
  have HE : Hid (∃ (v25 n25 m1 m3 : Int) (m2 : Bool), (∀ w', PegsIn w' p pa la → Calls Try.prog 25 #[.agg #[.int .i64 p.side, .slice pa p.ps.length pc, .slice la p.ls.length lc], .int .i64 b] w' fun e w'' => e = .returned (.tuple #[.int .i64 v25, .int .i64 n25]) ∧ Kept w' w'') ∧
      (∀ w', PegsIn w' p pa la → Calls Try.prog 13 #[.agg #[.int .i64 p.side, .slice pa p.ps.length pc, .slice la p.ls.length lc]] w' fun e w'' => e = .returned (.tuple #[.int .i64 m1, .bool m2, .int .i64 m3]) ∧ Kept w' w'') ∧
      ((n25 != 0) = true ∨ n25 = 0 ∧ b = i ∨ n25 = 0 ∧ ((i : Int) == b) = false ∧ (m3 != 0) = true)) := by
    refine ⟨_, _, _, _, _, fun w' h' => proof_any p b pa la pc lc w' hm hm2 h', fun w' h' => moved_any p pa la pc lc w' hm hm2 h', ?_⟩
    rcases HC.out with ⟨n, h1, h2⟩ | ⟨j, y, rfl, hj, h1, h2, h3⟩
    · left
      rw [h1]
      simpa [errOf] using h2
    · right
      rw [h1]
      by_cases hij : i = j
      · left; exact ⟨rfl, by rw [hij]⟩
      · right
        have hE := HT.out j y h2 h3 hij
        have e : movedR p = .error 10 := by rw [movedR, if_neg (by simp [hv]), if_pos hE]
        rw [e]
        exact ⟨rfl, by simp; omega, rfl⟩
  clear hv hh hp hN hown h64 ho ha hsp hmin hs hsall
  go_enter Try.func7, Try.ntmps7
  go_wp2_with (first
    | (go_at_call 11; refine (heavy_any p _ _ _ _ _ _ _ hm hm2 (HP.out.kept ((Kept.refl _).alloc _))).mono ?_; rintro e f1 ⟨rfl, k1⟩; have kk1 := Kept.step1 (Kept.refl w) k1; have B1 := (pbox_new w _ _ _ _).kept k1; obtain ⟨l1, a10, a11, a12, z10, z11, z12⟩ := id B1; rw [HH.out])
    | (go_at_call 25; refine (HN.out _ (HP.out.kept kk1)).mono ?_; rintro e f2 ⟨rfl, k2⟩; have kk2 := kk1.step0 k2; have B2 := B1.kept k2; obtain ⟨l2, a20, a21, a22, z20, z21, z22⟩ := id B2)
    | (go_at_call 35; refine (rvalid_any p _ _ _ _ _ hm hm2 (HP.out.kept kk2)).mono ?_; rintro e f3 ⟨rfl, k3⟩; have kk3 := kk2.step0 k3; have B3 := B2.kept k3; obtain ⟨l3, a30, a31, a32, z30, z31, z32⟩ := id B3; rw [HV.out])
    | (go_at_call 36; refine (rPeg_any _ _ _ _ _ _ _ _ _ hm).mono ?_; rintro e f4 ⟨rfl, k4⟩; have kk4 := kk3.step0 k4; have B4 := B3.kept k4; obtain ⟨l4', a40, a41, a42, z40, z41, z42⟩ := id B4; rw [HI.out])
    | (go_at_call 37; refine (proves_any p pa la pc lc w.heap.size s i _ HV.out hi hs64 B4 (HP.out.kept kk4)).mono ?_; rintro e f5 ⟨rfl, k5⟩; have kk5 := kk4.step0 k5; have B5 := B4.kept k5; obtain ⟨l5, a50, a51, a52, z50, z51, z52⟩ := id B5; rw [HS.out]))
  have HK5 := Lib.hid kk5
  have HB5 := Lib.hid B5
  clear a10 a11 a12 z10 z11 z12 a20 a21 a22 z20 z21 z22 a30 a31 a32 z30 z31 z32 a40 a41 a42 z40 z41 z42 z50 z51 z52 l1 l2 l3 l4' k1 k2 k3 k4 k5 kk1 kk2 kk3 kk4 kk5 B1 B2 B3 B4 B5 t1 t2 t2'
  go_loopw [113, 14] (fun j _ wr => ∃ k : Nat, k ≤ p.ls.length ∧ j = .int .i64 k ∧ Kept f5 wr) (fun j _ _ => p.ls.length - (intOf j).toNat)
  case atStart => exact ⟨0, Nat.zero_le _, rfl, Kept.refl _⟩
  case round =>
    obtain ⟨k, hk, rfl, kR⟩ := hrel
    clear l5 a50 a51 a52
    have HKR := Lib.hid kR
    have kk := HK5.out.step0 kR
    have BR := HB5.out.kept kR
    clear kR
    by_cases hlt : k < p.ls.length
    · have hbit := bit_run s k hs64 (by omega)
      have hk0 : (0 : Int) ≤ (k : Int) := by omega
      have hsh := shl_nat k (by omega)
      by_cases hb : s / 2 ^ k % 2 = 1
      · have hz := andNot_run s k hs64 (by omega) hb
        have HZ := Lib.hid (HNeed.out k hlt hb)
        have hz64 : s - 2 ^ k < 64 := Nat.lt_of_le_of_lt (Nat.sub_le _ _) hs64
        rw [hb] at hbit
        clear hb
        generalize s - 2 ^ k = z at *
        go_wp2_with (go_at_call 37; refine (proves_any p pa la pc lc w.heap.size z i _ HV.out hi hz64 BR (HP.out.kept kk)).mono ?_; rintro e f6 ⟨rfl, k6⟩; rw [HZ.out])
        go_roundw
        case rel => exact ⟨k + 1, by omega, by go_num, HKR.out.step0 k6⟩
        case measure => simp [intOf]; omega
      · have hb0 : s / 2 ^ k % 2 = 0 := by have := Nat.mod_lt (s / 2 ^ k) (show 2 > 0 by omega); omega
        rw [hb0] at hbit
        clear hb hb0
        go_wp2
        go_roundw
        case rel => exact ⟨k + 1, by omega, by go_num, HKR.out⟩
        case measure => simp [intOf]; omega
    · have e : k = p.ls.length := by omega
      subst e
      obtain ⟨l6', a60, a61, a62, z60, z61, z62⟩ := id BR
      clear z60 z61 z62 hlt hk
      obtain ⟨v25, n25, m1, m3, m2, H25, H13, hcase⟩ := HE.out
      have H25 := Lib.hid H25
      have H13 := Lib.hid H13
      clear HC HT HE HN HNeed qn qw qa q1 q2
      have hown : provesR p own i = false ∨ provesR p own i = true ∧ ((cnt own : Int) == (cnt s : Int)) = false ∧ decide (cnt own < cnt s) = false ∨ provesR p own i = true ∧ ((cnt own : Int) == (cnt s : Int)) = true ∧ decide (cnt own < cnt s) = false ∧ decide (own < s) = false := by
        cases hpo : provesR p own i with
        | false => exact .inl rfl
        | true =>
          right
          obtain ⟨h1, h2⟩ := HOwn.out hpo
          by_cases he : cnt own = cnt s
          · right; exact ⟨rfl, by simp [he], by simp; omega, by have := h2 he; simp; omega⟩
          · left; exact ⟨rfl, by simp; omega, by simp; omega⟩
      clear HOwn
      rcases hown with ho | ⟨ho, o1, o2⟩ | ⟨ho, o1, o2, o3⟩
      all_goals
        have HO := Lib.hid ho
        clear ho
        rcases hcase with hc | ⟨rfl, rfl⟩ | ⟨rfl, hc, hc2⟩
        all_goals
          go_wp2_with (first
            | (go_at_call 39; have kq := HO1; refine (size_any s _ hs64).mono ?_; rintro e w9 ⟨rfl, rfl⟩)
            | (go_at_call 39; refine (size_any own _ hown2).mono ?_; rintro e w9 ⟨rfl, rfl⟩; have HO1 := Lib.hid hown2)
            | (go_at_call 37; refine (proves_any p pa la pc lc w.heap.size own i _ HV.out hi hown2 BR (HP.out.kept kk)).mono ?_; rintro e f6 ⟨rfl, k6⟩; have kk6 := kk.step0 k6; have B6 := BR.kept k6; obtain ⟨l7, a70, a71, a72, z70, z71, z72⟩ := id B6; rw [HO.out])
            | (go_at_call 25; refine (H25.out _ (HP.out.kept kk6)).mono ?_; rintro e f7 ⟨rfl, k7⟩; have kk7 := kk6.step0 k7; have B7 := B6.kept k7; obtain ⟨l8, a80, a81, a82, z80, z81, z82⟩ := id B7)
            | (go_at_call 13; refine (H13.out _ (HP.out.kept kk7)).mono ?_; rintro e f8 ⟨rfl, k8⟩; have kk8 := kk7.step0 k8)
            | (go_at_call 12; refine (alive_any _).mono ?_; rintro e wa ⟨rfl, ka⟩))
          go_ret
          exact ⟨rfl, kk8.step0 ka⟩
end Go.Proofs.Ytkjciobphbcknaa
