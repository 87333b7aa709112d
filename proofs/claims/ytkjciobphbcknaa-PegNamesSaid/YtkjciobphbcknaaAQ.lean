/- PegNames. -/
import Derived.Test.YtkjciobphbcknaaAP
namespace Go.Proofs.Ytkjciobphbcknaa
open Go.RowKit

theorem samp2 (w : World) : Calls Try.prog 27 #[.int .i64 2] w fun e w' => ∃ pa la lc, e = .returned (.agg #[.int .i64 12, .slice pa 3 3, .slice la (sampleD 2).ls.length lc]) ∧ PegsIn w' (sampleD 2) pa la ∧ Kept w w' := sample_any 2 w (by omega)
theorem samp0 (w : World) : Calls Try.prog 27 #[.int .i64 0] w fun e w' => ∃ pa la lc, e = .returned (.agg #[.int .i64 12, .slice pa 3 3, .slice la (sampleD 0).ls.length lc]) ∧ PegsIn w' (sampleD 0) pa la ∧ Kept w w' := sample_any 0 w (by omega)
theorem c13_2 (pa la : Option Addr) (lc : Nat) (w : World) (hp : PegsIn w (sampleD 2) pa la) : Calls Try.prog 13 #[.agg #[.int .i64 12, .slice pa 3 3, .slice la (sampleD 2).ls.length lc]] w fun e w' => e = .returned (.tuple #[.int .i64 7, .bool true, .int .i64 0]) ∧ Kept w w' := by
  have h := moved_any (sampleD 2) pa la 3 lc w (by decide) (by decide) hp
  rw [s2_moved] at h
  exact h
theorem c15_7b (pa la : Option Addr) (lc : Nat) (w : World) (hp : PegsIn w (sampleD 7) pa la) : Calls Try.prog 15 #[.agg #[.int .i64 12, .slice pa 3 3, .slice la (sampleD 7).ls.length lc], .int .i64 2] w fun e w' => e = .returned (.tuple #[.agg #[.int .i64 0, .int .i64 0], .agg #[.int .i64 3, .int .i64 3], .int .i64 0]) ∧ Kept w w' := by
  have h := where_any (sampleD 7) 2 pa la 3 lc w (by decide) (by decide) hp
  rw [s7_where2] at h
  exact h
theorem c17_7 (pa la : Option Addr) (lc : Nat) (w : World) (hp : PegsIn w (sampleD 7) pa la) : Calls Try.prog 17 #[.agg #[.int .i64 12, .slice pa 3 3, .slice la (sampleD 7).ls.length lc], .int .i64 1] w fun e w' => e = .returned (.tuple #[.int .i64 1, .int .i64 0]) ∧ Kept w w' := by
  have h := places_any (sampleD 7) 1 pa la 3 lc w (by decide) (by decide) hp
  rw [s7_places] at h
  exact h
theorem c17_0 (pa la : Option Addr) (lc : Nat) (w : World) (hp : PegsIn w (sampleD 0) pa la) : Calls Try.prog 17 #[.agg #[.int .i64 12, .slice pa 3 3, .slice la (sampleD 0).ls.length lc], .int .i64 1] w fun e w' => e = .returned (.tuple #[.int .i64 169, .int .i64 0]) ∧ Kept w w' := by
  have h := places_any (sampleD 0) 1 pa la 3 lc w (by decide) (by decide) hp
  rw [s0_places] at h
  exact h
theorem c19_70 (pa la : Option Addr) (lc : Nat) (w : World) (hp : PegsIn w (sampleD 7) pa la) : Calls Try.prog 19 #[.agg #[.int .i64 12, .slice pa 3 3, .slice la (sampleD 7).ls.length lc], .int .i64 0] w fun e w' => e = .returned (.tuple #[.agg #[.int .i64 0, .int .i64 0], .int .i64 11]) ∧ Kept w w' := by
  have h := back_any (sampleD 7) 0 pa la 3 lc w (by decide) (by decide) hp
  rw [s7_back0] at h
  exact h
theorem c25_70 (pa la : Option Addr) (lc : Nat) (w : World) (hp : PegsIn w (sampleD 7) pa la) : Calls Try.prog 25 #[.agg #[.int .i64 12, .slice pa 3 3, .slice la (sampleD 7).ls.length lc], .int .i64 0] w fun e w' => e = .returned (.tuple #[.int .i64 0, .int .i64 4]) ∧ Kept w w' := by
  have h := proof_any (sampleD 7) 0 pa la 3 lc w (by decide) (by decide) hp
  rw [s7_proof0] at h
  exact h
theorem c25_2 (pa la : Option Addr) (lc : Nat) (w : World) (hp : PegsIn w (sampleD 2) pa la) : Calls Try.prog 25 #[.agg #[.int .i64 12, .slice pa 3 3, .slice la (sampleD 2).ls.length lc], .int .i64 1] w fun e w' => e = .returned (.tuple #[.int .i64 0, .int .i64 4]) ∧ Kept w w' := by
  have h := proof_any (sampleD 2) 1 pa la 3 lc w (by decide) (by decide) hp
  rw [s2_proof] at h
  exact h

set_option maxRecDepth 100000 in
set_option maxHeartbeats 8000000 in
theorem names_any (w : World) : Calls Try.prog 5 #[] w fun e w' => e = .returned (.bool true) ∧ Kept w w' := by
  have hq := run_eql_span
  go_enter Try.func5, Try.ntmps5
  go_wp2_with (first
    | (go_at_call 13; refine (c13_2 _ _ _ _ hP1).mono ?_; rintro e f1 ⟨rfl, k1⟩)
    | (go_at_call 15; refine (c15_7b _ _ _ _ hP2).mono ?_; rintro e f2 ⟨rfl, k2⟩)
    | (go_at_call 17; refine (c17_0 _ _ _ _ hP4).mono ?_; rintro e f4 ⟨rfl, k4⟩)
    | (go_at_call 17; refine (c17_7 _ _ _ _ hP3).mono ?_; rintro e f3 ⟨rfl, k3⟩)
    | (go_at_call 19; refine (c19_70 _ _ _ _ hP5).mono ?_; rintro e f5 ⟨rfl, k5⟩)
    | (go_at_call 25; refine (c25_2 _ _ _ _ hP7).mono ?_; rintro e f7 ⟨rfl, k7⟩)
    | (go_at_call 25; refine (c25_70 _ _ _ _ hP6).mono ?_; rintro e f6 ⟨rfl, k6⟩)
    | (go_at_call 27; have h0 := k6; refine (samp2 _).mono ?_; rintro e s7 ⟨pa7, la7, lc7, rfl, hP7, ks7⟩)
    | (go_at_call 27; have h0 := k5; refine (samp7 _).mono ?_; rintro e s6 ⟨pa6, la6, lc6, rfl, hP6, ks6⟩)
    | (go_at_call 27; have h0 := k4; refine (samp7 _).mono ?_; rintro e s5 ⟨pa5, la5, lc5, rfl, hP5, ks5⟩)
    | (go_at_call 27; have h0 := k3; refine (samp0 _).mono ?_; rintro e s4 ⟨pa4, la4, lc4, rfl, hP4, ks4⟩)
    | (go_at_call 27; have h0 := k2; refine (samp7 _).mono ?_; rintro e s3 ⟨pa3, la3, lc3, rfl, hP3, ks3⟩)
    | (go_at_call 27; have h0 := k1; refine (samp7 _).mono ?_; rintro e s2 ⟨pa2, la2, lc2, rfl, hP2, ks2⟩)
    | (go_at_call 27; refine (samp2 _).mono ?_; rintro e s1 ⟨pa1, la1, lc1, rfl, hP1, ks1⟩))
  have kA : Kept ((f2.alloc (Obj.cells #[.int .i64 0, .int .i64 0] 32)).alloc (Obj.cells #[.int .i64 3, .int .i64 3] 32)) f7 := (((((((Kept.step0 (Kept.refl _) ks3).step0 k3).step0 ks4).step0 k4).step0 ks5).step0 k5).alloc (Obj.cells #[.int .i64 0, .int .i64 0] 32)).step0 ks6 |>.step0 k6 |>.step0 ks7 |>.step0 k7
  have kF : Kept w f7 := Kept.step0 ((((((Kept.step0 (Kept.refl _) ks1).step0 k1).step0 ks2).step0 k2).alloc _).alloc _) kA
  have HS : Hid (∀ w', Kept f7 w' → (w'.cell? ⟨f2.heap.size, 0, none⟩ = some (.int .i64 0) ∧ w'.cell? ⟨f2.heap.size, 1, none⟩ = some (.int .i64 0) ∧ w'.cell? ⟨f2.heap.size + 1, 0, none⟩ = some (.int .i64 3) ∧ w'.cell? ⟨f2.heap.size + 1, 1, none⟩ = some (.int .i64 3))) := by
    intro w' k
    refine ⟨?_, ?_, ?_, ?_⟩ <;> (rw [(Kept.step0 kA k).cells _ _ (by simp <;> omega)]; simp [go_sem])
  have HKF := Lib.hid kF
  have h0 := HS.out _ (Kept.refl f7).drew
  clear ks1 k1 ks2 k2 ks3 k3 ks4 k4 ks5 k5 ks6 k6 ks7 k7 kA kF hP1 hP2 hP3 hP4 hP5 hP6 hP7
  have q1 : plEqB 3 3 3 3 = true := rfl
  have q2 : plEqB 0 0 0 0 = true := rfl
  have HK0 : Hid (Kept f7 f7.drew) := (Kept.refl f7).drew
  go_region_held3 (fun w' => w'.cell? ⟨f2.heap.size, 0, none⟩ = some (.int .i64 0) ∧ w'.cell? ⟨f2.heap.size, 1, none⟩ = some (.int .i64 0) ∧ w'.cell? ⟨f2.heap.size + 1, 0, none⟩ = some (.int .i64 3) ∧ w'.cell? ⟨f2.heap.size + 1, 1, none⟩ = some (.int .i64 3))
    (first
      | assumption
      | exact HS.out _ (Kept.step0 HK0.out ka)
      | exact HS.out _ ((Kept.step0 HK0.out ka).alloc _)
      | exact HS.out _ (((Kept.step0 HK0.out ka).alloc _).alloc _)
      | exact HS.out _ HK0.out)
    (first
      | (go_at_call 28; refine (spanL_any _ _ _).mono ?_; rintro e w9 ⟨rfl, rfl⟩)
      | (go_at_call 12; refine (alive_any _).mono ?_; rintro e wa ⟨rfl, ka⟩))
  rename_i hh
  clear hh
  go_wp2
  go_ret
  exact ⟨rfl, ((HKF.out.step0 (Kept.step0 HK0.out ka)).alloc _).alloc _⟩
end Go.Proofs.Ytkjciobphbcknaa
