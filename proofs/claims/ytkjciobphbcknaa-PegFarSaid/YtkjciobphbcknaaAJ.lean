/- Package peg: the iterator over sets. -/
import Derived.Test.YtkjciobphbcknaaAI
namespace Go.Proofs.Ytkjciobphbcknaa
open Go.RowKit
attribute [local go_sem] Oper.semAt_some

/-- The sets with so many elements, up to one. -/
def ofSize (z m : Nat) : List Nat := (List.range m).filter fun s => cnt s = z
/-- The sets of fewer elements, then those of this many, up to one. -/
def setsTo (n z m : Nat) : List Nat := ((List.range z).flatMap fun z => ofSize z (2 ^ n)) ++ ofSize z m
/-- All sets, as they are yielded. -/
def setsL (n : Nat) : List Nat := setsTo n (n + 1) 0
def encS (s : Nat) : Array Value := #[.int .i64 s]
theorem setsTo_next (n z m : Nat) : setsTo n z (m + 1) = setsTo n z m ++ if cnt m = z then [m] else [] := by
  simp only [setsTo, ofSize, List.range_succ, List.filter_append, List.append_assoc]
  congr 2
  by_cases h : cnt m = z <;> simp [h]
theorem setsTo_up (n z : Nat) : setsTo n (z + 1) 0 = setsTo n z (2 ^ n) := by
  simp [setsTo, ofSize, List.range_succ, List.flatMap_append]
theorem setsTo_suf (n z m : Nat) (hz : z ≤ n) (hm : m ≤ 2 ^ n) : ∃ suf, setsL n = setsTo n z m ++ suf := by
  have h1 : ∀ k, ∃ suf, setsTo n (z + 1 + k) 0 = setsTo n (z + 1) 0 ++ suf := by
    intro k
    induction k with
    | zero => exact ⟨[], by simp⟩
    | succ k ih =>
      obtain ⟨suf, e⟩ := ih
      refine ⟨suf ++ ofSize (z + 1 + k) (2 ^ n), ?_⟩
      have : setsTo n (z + 1 + (k + 1)) 0 = setsTo n (z + 1 + k) (2 ^ n) := setsTo_up n (z + 1 + k)
      rw [this, ← List.append_assoc, ← e]
      simp [setsTo, ofSize]
  obtain ⟨s1, e1⟩ := h1 (n - z)
  have e2 : ∃ suf, setsTo n z (2 ^ n) = setsTo n z m ++ suf := by
    have h2 : ∀ k, ∃ suf, setsTo n z (m + k) = setsTo n z m ++ suf := by
      intro k
      induction k with
      | zero => exact ⟨[], by simp⟩
      | succ k ih =>
        obtain ⟨suf, e⟩ := ih
        exact ⟨suf ++ if cnt (m + k) = z then [m + k] else [], by rw [← Nat.add_assoc, setsTo_next, e, List.append_assoc]⟩
    obtain ⟨suf, e⟩ := h2 (2 ^ n - m)
    exact ⟨suf, by rw [← e]; congr 1; omega⟩
  obtain ⟨s2, e3⟩ := e2
  refine ⟨s2 ++ s1, ?_⟩
  rw [setsL, show n + 1 = z + 1 + (n - z) from by omega, e1, setsTo_up, e3, List.append_assoc]

set_option maxRecDepth 100000 in
set_option maxHeartbeats 4000000 in
theorem sets1_iter (T : Nat → Prop) (n b : Nat) (w : World) (hn : n ≤ 6) (c0 : w.cell? ⟨b, 0, none⟩ = some (.int .i64 n)) (hT : ∀ k, T k → k < w.heap.size) (nb : ¬ T b) :
    Iter Try.prog 86 #[.pointer (some ⟨b, 0, none⟩)] encS (setsL n) T w := by
  intro l J Jx W hW hJs hJxs hY hJ
  have l0 := World.block_lt_of_cell? w _ c0
  have d0 := (hW.cells _ _ l0 nb).trans c0
  have lW := Nat.lt_of_lt_of_le l0 hW.size
  simp only at lW
  have hpw : 2 ^ n ≤ 64 := Nat.pow_le_pow_right (by omega) (show n ≤ 6 from hn)
  obtain ⟨N, hN⟩ : ∃ N, N = 2 ^ n := ⟨_, rfl⟩
  have hw : IntKind.i64.wrap (2 ^ n) = (N : Int) := by
    have := (by decide +kernel : ∀ j : Fin 7, IntKind.i64.wrap (2 ^ j.1) = ((2 ^ j.1 : Nat) : Int)) ⟨n, by omega⟩
    rw [hN]; exact this
  rw [← hN] at hpw
  have HN2 := Lib.hid hN
  clear hN
  have HY := Lib.hid hY
  have HJ := Lib.hid hJ
  have D0 := Lib.hid d0
  clear hY hJ hJs hJxs hW c0 hT
  refine callsIn_wide (n := 0) |>.1 ?_
  refine callsIn_of_wp Try.func86 rfl trivial ?_ rfl
  simp only [Try.ntmps86, List.size_toArray, List.length_cons, List.length_nil, Nat.reduceAdd, Nat.reduceSub, Array.replicate_succ, Array.replicate_zero, List.push_toArray, List.append_toArray, List.nil_append, List.cons_append]
  gi_wp2
  gi_loopw [3] (fun zv wr => ∃ z : Nat, z ≤ n + 1 ∧ zv = .int .i64 z ∧ J (setsTo n z 0) wr ∧ KeptT T W wr) (fun zv _ => (n + 1) - (intOf zv).toNat)
  case atStart => exact ⟨0, by omega, rfl, HJ.out, KeptT.refl _⟩
  case round =>
    obtain ⟨z, hz, rfl, hJz, hk⟩ := hrel
    have e0 := (hk.cells b 0 lW nb).trans D0.out
    by_cases hlt : z < n + 1
    · have hlt2 : (z : Int) ≤ (n : Int) := by omega
      gi_wp2
      gi_loopw [4] (fun sv wr => ∃ s : Nat, s ≤ N ∧ sv = .int .i64 s ∧ J (setsTo n z s) wr ∧ KeptT T W wr) (fun sv _ => N - (intOf sv).toNat)
      case atStart => exact ⟨0, by omega, rfl, hJz, hk⟩
      case round =>
        clear hJz hk e0
        obtain ⟨s, hs, rfl, hJs, hk⟩ := hrel
        have e0 := (hk.cells b 0 lW nb).trans D0.out
        by_cases hls : s < N
        · have hs64 : s < 64 := by omega
          have hls2 : (s : Int) < (N : Int) := by omega
          have hs0 : (0 : Int) ≤ (s : Int) := by omega
          have HN := Lib.hid (setsTo_next n z s)
          by_cases hc : cnt s = z
          · obtain ⟨suf, hsuf⟩ := setsTo_suf n z (s + 1) (by omega) (by rw [← HN2.out]; omega)
            have hsn : setsTo n z (s + 1) = setsTo n z s ++ [s] := by rw [HN.out, if_pos hc]
            rw [hsn, List.append_assoc] at hsuf
            obtain ⟨fn, tmps, assign, body, hy, hR⟩ := HY.out (setsTo n z s) s suf wr hsuf hJs
            have HSN := Lib.hid hsn
            simp only [encS] at hy
            have hc2 : (cnt s : Int) = (z : Int) := by rw [hc]
            clear hsuf hsn hJs
            gi_wp2_with (first
              | (refine ⟨(trivial : Fence.wide.fn 87), (rfl : Fence.wide.depth = none), ?_⟩; refine (callsIn_wide.2 (ones_any s _ hs64)).mono ?_; rintro e w1 ⟨rfl, rfl⟩)
              | (refine ⟨(rfl : Fence.wide.depth = none), ?_⟩; refine hR.mono ?_; clear hR; rintro e W2 (⟨rfl, hJ2, hk2⟩ | ⟨rfl, hJx⟩)))
            · go_roundw
              case rel => exact ⟨s + 1, by omega, by go_num, by rw [HSN.out]; exact hJ2, hk.trans hk2⟩
              case measure => simp [intOf]; omega
            · refine bodyPost_ret (results_none rfl _ _ _) rfl ?_
              exact ⟨⟨_, rfl⟩, .inr hJx⟩
          · have hsn : setsTo n z (s + 1) = setsTo n z s := by rw [HN.out, if_neg hc, List.append_nil]
            have HSN := Lib.hid hsn
            have HJs := Lib.hid hJs
            have hc2 : ((cnt s : Int) == (z : Int)) = false := by simp; omega
            clear hsn hJs
            gi_wp2_with (refine ⟨(trivial : Fence.wide.fn 87), (rfl : Fence.wide.depth = none), ?_⟩; refine (callsIn_wide.2 (ones_any s _ hs64)).mono ?_; rintro e w1 ⟨rfl, rfl⟩)
            refine ⟨fun _ h => (by cases h), ?_⟩
            gi_wp2
            go_roundw
            case rel => exact ⟨s + 1, by omega, by go_num, by rw [HSN.out]; exact HJs.out, hk⟩
            case measure => simp [intOf]; omega
        · have hls3 : ¬ (s : Int) < (N : Int) := by omega
          have e : s = N := by omega
          have HJs : Hid (J (setsTo n (z + 1) 0) wr) := by rw [Hid, setsTo_up, ← HN2.out, ← e]; exact hJs
          clear hJs
          gi_wp2
          go_roundw
          case rel => exact ⟨z + 1, by omega, by go_num, HJs.out, hk⟩
          case measure => simp [intOf]; omega
    · have e : z = n + 1 := by omega
      have hlt3 : ¬ (z : Int) ≤ (n : Int) := by omega
      have HJs : Hid (J (setsL n) wr) := by rw [Hid, setsL, ← e]; exact hJz
      clear hJz
      gi_wp2
      go_end0
      exact ⟨⟨_, rfl⟩, .inl HJs.out⟩
end Go.Proofs.Ytkjciobphbcknaa
