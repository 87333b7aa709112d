/- The laws of package peg: alive. -/
import Derived.Test.YtkjciobphbcknaaAO
namespace Go.Proofs.Ytkjciobphbcknaa
open Go.RowKit

theorem run_eql_span (a b c d : Int) (w : World) : (binOp .eql 32 (.agg #[.int .i64 a, .int .i64 b]) (.agg #[.int .i64 c, .int .i64 d])).run Try.prog w = .ok (.bool (plEqB a b c d)) w := by
  by_cases h1 : a = c <;> by_cases h2 : b = d <;> simp [go_sem, plEqB, h1, h2]
/-- The contracts at the examples. -/
theorem c13_7 (pa la : Option Addr) (lc : Nat) (w : World) (hp : PegsIn w (sampleD 7) pa la) : Calls Try.prog 13 #[.agg #[.int .i64 12, .slice pa 3 3, .slice la (sampleD 7).ls.length lc]] w fun e w' => e = .returned (.tuple #[.int .i64 2, .bool false, .int .i64 0]) ∧ Kept w w' := by
  have h := moved_any (sampleD 7) pa la 3 lc w (by decide) (by decide) hp
  rw [s7_moved] at h
  exact h
theorem c15_7 (pa la : Option Addr) (lc : Nat) (w : World) (hp : PegsIn w (sampleD 7) pa la) : Calls Try.prog 15 #[.agg #[.int .i64 12, .slice pa 3 3, .slice la (sampleD 7).ls.length lc], .int .i64 1] w fun e w' => e = .returned (.tuple #[.agg #[.int .i64 7, .int .i64 7], .agg #[.int .i64 0, .int .i64 0], .int .i64 0]) ∧ Kept w w' := by
  have h := where_any (sampleD 7) 1 pa la 3 lc w (by decide) (by decide) hp
  rw [s7_where1] at h
  exact h
theorem c21_7 (pa la : Option Addr) (lc : Nat) (w : World) (hp : PegsIn w (sampleD 7) pa la) : Calls Try.prog 21 #[.agg #[.int .i64 12, .slice pa 3 3, .slice la (sampleD 7).ls.length lc], .int .i64 1, .int .i64 2] w fun e w' => e = .returned (.tuple #[.agg #[.int .i64 58, .int .i64 58], .int .i64 0]) ∧ Kept w w' := by
  have h := apartF_any (sampleD 7) 1 2 pa la 3 lc w (by decide) (by decide) hp
  rw [s7_apart] at h
  exact h
theorem c23_7 (pa la : Option Addr) (lc : Nat) (w : World) (hp : PegsIn w (sampleD 7) pa la) : Calls Try.prog 23 #[.agg #[.int .i64 12, .slice pa 3 3, .slice la (sampleD 7).ls.length lc], .int .i64 0, .int .i64 1, .int .i64 2] w fun e w' => e = .returned (.tuple #[.agg #[.int .i64 21, .int .i64 21], .int .i64 0]) ∧ Kept w w' := by
  have h := areaF_any (sampleD 7) 0 1 2 pa la 3 lc w (by decide) (by decide) hp
  rw [s7_area] at h
  exact h
theorem c19_7 (pa la : Option Addr) (lc : Nat) (w : World) (hp : PegsIn w (sampleD 7) pa la) : Calls Try.prog 19 #[.agg #[.int .i64 12, .slice pa 3 3, .slice la (sampleD 7).ls.length lc], .int .i64 1] w fun e w' => e = .returned (.tuple #[.agg #[.int .i64 4, .int .i64 4], .int .i64 0]) ∧ Kept w w' := by
  have h := back_any (sampleD 7) 1 pa la 3 lc w (by decide) (by decide) hp
  rw [s7_back] at h
  exact h
theorem c25_7 (pa la : Option Addr) (lc : Nat) (w : World) (hp : PegsIn w (sampleD 7) pa la) : Calls Try.prog 25 #[.agg #[.int .i64 12, .slice pa 3 3, .slice la (sampleD 7).ls.length lc], .int .i64 1] w fun e w' => e = .returned (.tuple #[.int .i64 3, .int .i64 0]) ∧ Kept w w' := by
  have h := proof_any (sampleD 7) 1 pa la 3 lc w (by decide) (by decide) hp
  rw [s7_proof] at h
  exact h
theorem samp7 (w : World) : Calls Try.prog 27 #[.int .i64 7] w fun e w' => ∃ pa la lc, e = .returned (.agg #[.int .i64 12, .slice pa 3 3, .slice la (sampleD 7).ls.length lc]) ∧ PegsIn w' (sampleD 7) pa la ∧ Kept w w' := sample_any 7 w (by omega)

set_option maxRecDepth 100000 in
set_option maxHeartbeats 8000000 in
theorem alive_any (w : World) : Calls Try.prog 12 #[] w fun e w' => e = .returned (.bool true) ∧ Kept w w' := by
  have hq := run_eql_span
  go_enter Try.func12, Try.ntmps12
  go_wp2_with (first
    | (go_at_call 13; refine (c13_7 _ _ _ _ hP1).mono ?_; rintro e f13 ⟨rfl, k13⟩)
    | (go_at_call 15; refine (c15_7 _ _ _ _ hP2).mono ?_; rintro e f15 ⟨rfl, k15⟩)
    | (go_at_call 21; refine (c21_7 _ _ _ _ hP3).mono ?_; rintro e f21 ⟨rfl, k21⟩)
    | (go_at_call 23; refine (c23_7 _ _ _ _ hP4).mono ?_; rintro e f23 ⟨rfl, k23⟩)
    | (go_at_call 19; refine (c19_7 _ _ _ _ hP5).mono ?_; rintro e f19 ⟨rfl, k19⟩)
    | (go_at_call 25; refine (c25_7 _ _ _ _ hP6).mono ?_; rintro e f25 ⟨rfl, k25⟩)
    | (go_at_call 27; have h0 := k19; refine (samp7 _).mono ?_; rintro e s6 ⟨pa6, la6, lc6, rfl, hP6, ks6⟩)
    | (go_at_call 27; have h0 := k23; refine (samp7 _).mono ?_; rintro e s5 ⟨pa5, la5, lc5, rfl, hP5, ks5⟩)
    | (go_at_call 27; have h0 := k21; refine (samp7 _).mono ?_; rintro e s4 ⟨pa4, la4, lc4, rfl, hP4, ks4⟩)
    | (go_at_call 27; have h0 := k15; refine (samp7 _).mono ?_; rintro e s3 ⟨pa3, la3, lc3, rfl, hP3, ks3⟩)
    | (go_at_call 27; have h0 := k13; refine (samp7 _).mono ?_; rintro e s2 ⟨pa2, la2, lc2, rfl, hP2, ks2⟩)
    | (go_at_call 27; refine (samp7 _).mono ?_; rintro e s1 ⟨pa1, la1, lc1, rfl, hP1, ks1⟩))
  have kA : Kept ((f15.alloc (Obj.cells #[.int .i64 7, .int .i64 7] 32)).alloc (Obj.cells #[.int .i64 0, .int .i64 0] 32)) f25 := ((((((((Kept.step0 (Kept.refl _) ks3).step0 k21).alloc (Obj.cells #[.int .i64 58, .int .i64 58] 32)).step0 ks4).step0 k23).alloc (Obj.cells #[.int .i64 21, .int .i64 21] 32)).step0 ks5).step0 k19).alloc (Obj.cells #[.int .i64 4, .int .i64 4] 32) |>.step0 ks6 |>.step0 k25
  have kB : Kept (f21.alloc (Obj.cells #[.int .i64 58, .int .i64 58] 32)) f25 := (((((Kept.step0 (Kept.refl _) ks4).step0 k23).alloc (Obj.cells #[.int .i64 21, .int .i64 21] 32)).step0 ks5).step0 k19).alloc (Obj.cells #[.int .i64 4, .int .i64 4] 32) |>.step0 ks6 |>.step0 k25
  have kC : Kept (f23.alloc (Obj.cells #[.int .i64 21, .int .i64 21] 32)) f25 := ((Kept.step0 (Kept.refl _) ks5).step0 k19).alloc (Obj.cells #[.int .i64 4, .int .i64 4] 32) |>.step0 ks6 |>.step0 k25
  have kD : Kept (f19.alloc (Obj.cells #[.int .i64 4, .int .i64 4] 32)) f25 := (Kept.step0 (Kept.refl _) ks6).step0 k25
  have kF : Kept w f25 := Kept.step0 ((((((Kept.step0 (Kept.refl _) ks1).step0 k13).step0 ks2).step0 k15).alloc _).alloc _) kA
  have HS : Hid (∀ w', Kept f25 w' → (w'.cell? ⟨f15.heap.size, 0, none⟩ = some (.int .i64 7) ∧ w'.cell? ⟨f15.heap.size, 1, none⟩ = some (.int .i64 7) ∧ w'.cell? ⟨f15.heap.size + 1, 0, none⟩ = some (.int .i64 0) ∧ w'.cell? ⟨f15.heap.size + 1, 1, none⟩ = some (.int .i64 0) ∧ w'.cell? ⟨f21.heap.size, 0, none⟩ = some (.int .i64 58) ∧ w'.cell? ⟨f21.heap.size, 1, none⟩ = some (.int .i64 58) ∧ w'.cell? ⟨f23.heap.size, 0, none⟩ = some (.int .i64 21) ∧ w'.cell? ⟨f23.heap.size, 1, none⟩ = some (.int .i64 21) ∧ w'.cell? ⟨f19.heap.size, 0, none⟩ = some (.int .i64 4) ∧ w'.cell? ⟨f19.heap.size, 1, none⟩ = some (.int .i64 4))) := by
    intro w' k
    refine ⟨?_, ?_, ?_, ?_, ?_, ?_, ?_, ?_, ?_, ?_⟩
    · rw [(Kept.step0 kA k).cells _ _ (by simp <;> omega)]; simp [go_sem]
    · rw [(Kept.step0 kA k).cells _ _ (by simp <;> omega)]; simp [go_sem]
    · rw [(Kept.step0 kA k).cells _ _ (by simp <;> omega)]; simp [go_sem]
    · rw [(Kept.step0 kA k).cells _ _ (by simp <;> omega)]; simp [go_sem]
    · rw [(Kept.step0 kB k).cells _ _ (by simp <;> omega)]; simp [go_sem]
    · rw [(Kept.step0 kB k).cells _ _ (by simp <;> omega)]; simp [go_sem]
    · rw [(Kept.step0 kC k).cells _ _ (by simp <;> omega)]; simp [go_sem]
    · rw [(Kept.step0 kC k).cells _ _ (by simp <;> omega)]; simp [go_sem]
    · rw [(Kept.step0 kD k).cells _ _ (by simp <;> omega)]; simp [go_sem]
    · rw [(Kept.step0 kD k).cells _ _ (by simp <;> omega)]; simp [go_sem]
  have HKF := Lib.hid kF
  have h0 := HS.out _ (Kept.refl f25).drew
  clear ks1 k13 ks2 k15 ks3 k21 ks4 k23 ks5 k19 ks6 k25 kA kB kC kD kF hP1 hP2 hP3 hP4 hP5 hP6
  have q1 : plEqB 7 7 7 7 = true := rfl
  have q2 : plEqB 0 0 0 0 = true := rfl
  have q3 : plEqB 58 58 58 58 = true := rfl
  have q4 : plEqB 21 21 21 21 = true := rfl
  have q5 : plEqB 4 4 4 4 = true := rfl
  go_region_held3 (fun w' => w'.cell? ⟨f15.heap.size, 0, none⟩ = some (.int .i64 7) ∧ w'.cell? ⟨f15.heap.size, 1, none⟩ = some (.int .i64 7) ∧ w'.cell? ⟨f15.heap.size + 1, 0, none⟩ = some (.int .i64 0) ∧ w'.cell? ⟨f15.heap.size + 1, 1, none⟩ = some (.int .i64 0) ∧ w'.cell? ⟨f21.heap.size, 0, none⟩ = some (.int .i64 58) ∧ w'.cell? ⟨f21.heap.size, 1, none⟩ = some (.int .i64 58) ∧ w'.cell? ⟨f23.heap.size, 0, none⟩ = some (.int .i64 21) ∧ w'.cell? ⟨f23.heap.size, 1, none⟩ = some (.int .i64 21) ∧ w'.cell? ⟨f19.heap.size, 0, none⟩ = some (.int .i64 4) ∧ w'.cell? ⟨f19.heap.size, 1, none⟩ = some (.int .i64 4))
    (first
      | assumption
      | exact HS.out _ (by repeat (first | exact Kept.refl _ | apply Kept.drew | apply Kept.alloc)))
    (first
      | (go_at_call 28; refine (spanL_any _ _ _).mono ?_; rintro e w9 ⟨rfl, rfl⟩))
  rename_i hh
  clear hh
  go_wp2
  go_ret
  exact ⟨rfl, HKF.out.step0 (by repeat (first | exact Kept.refl _ | apply Kept.drew | apply Kept.alloc))⟩
end Go.Proofs.Ytkjciobphbcknaa
