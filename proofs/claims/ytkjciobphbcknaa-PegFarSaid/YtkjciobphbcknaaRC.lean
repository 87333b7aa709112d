/- The document's answers: valid pegs; what is far too much. -/
import Derived.Test.YtkjciobphbcknaaRB
namespace Go.Proofs.Ytkjciobphbcknaa
open Go.RowKit

set_option maxHeartbeats 1000000 in
theorem rvalid_big (side : Int) (pa la : Option Addr) (pl pc ll lc : Nat) (w : World) (hm : pl ≤ 9223372036854775807) (hm2 : ll ≤ 9223372036854775807) (h : side < 0 ∨ 15 < side ∨ 4 < pl ∨ 6 < ll) :
    Calls Try.prog 35 #[.agg #[.int .i64 side, .slice pa pl pc, .slice la ll lc]] w fun e w' => e = .returned (.bool false) ∧ Kept w w' := by
  cases h0 : inB side 0 15 with
  | false =>
    have H0 := Lib.hid h0
    clear h h0
    go_enter Try.func35, Try.ntmps35
    go_wp2_with (go_at_call 73; refine (rin_any _ _ _ _).mono ?_; rintro e w1 ⟨rfl, rfl⟩; rw [H0.out])
    go_ret
    exact ⟨rfl, (Kept.refl _).alloc _⟩
  | true =>
    have hs : 0 ≤ side ∧ side ≤ 15 := by simpa [inB] using h0
    have H0 := Lib.hid h0
    clear h0
    by_cases h2 : 4 < pl
    · have h2b : decide ((4 : Int) < (pl : Int)) = true := by simp; omega
      clear h hs
      go_enter Try.func35, Try.ntmps35
      go_wp2_with (go_at_call 73; refine (rin_any _ _ _ _).mono ?_; rintro e w1 ⟨rfl, rfl⟩; rw [H0.out])
      go_ret
      exact ⟨rfl, (Kept.refl _).alloc _⟩
    · have h2b : decide ((4 : Int) < (pl : Int)) = false := by simp; omega
      have h3b : decide ((6 : Int) < (ll : Int)) = true := by simp; omega
      clear h hs
      go_enter Try.func35, Try.ntmps35
      go_wp2_with (go_at_call 73; refine (rin_any _ _ _ _).mono ?_; rintro e w1 ⟨rfl, rfl⟩; rw [H0.out])
      go_ret
      exact ⟨rfl, (Kept.refl _).alloc _⟩
theorem rvalid_any (p : PegsD) (pa la : Option Addr) (pc lc : Nat) (w : World) (hm : p.ps.length ≤ 9223372036854775807) (hm2 : p.ls.length ≤ 9223372036854775807) (hp : PegsIn w p pa la) :
    Calls Try.prog 35 #[.agg #[.int .i64 p.side, .slice pa p.ps.length pc, .slice la p.ls.length lc]] w fun e w' => e = .returned (.bool (validB p)) ∧ Kept w w' := by
  by_cases h : sizesB p = true
  · have h' := h
    simp only [sizesB, Bool.and_eq_true, decide_eq_true_eq] at h'
    have e : validB p = (p.ps.all (postB p.side) && lensB p.ps.length p.ls) := by rw [validB, h, Bool.true_and]
    rw [e]
    exact rvalid_loops p.side pa la pc lc p.ps p.ls w (by omega) (by omega) (by omega) (by omega) hp.1 hp.2
  · have e : validB p = false := by rw [validB, Bool.eq_false_iff.2 h, Bool.false_and]
    have h' := h
    simp only [sizesB, Bool.and_eq_true, decide_eq_true_eq] at h'
    rw [e]
    exact rvalid_big p.side pa la p.ps.length pc p.ls.length lc w hm hm2 (by omega)

/-- Is it far too much? -/
def heavyB (p : PegsD) (posts side : Int) : Bool := decide (30 < p.ps.length) || decide (30 < p.ls.length) || (validB p && (decide (posts < p.ps.length) || decide (side < p.side)))
set_option maxHeartbeats 2000000 in
theorem heavy_any (p : PegsD) (posts side : Int) (pa la : Option Addr) (pc lc : Nat) (w : World) (hm : p.ps.length ≤ 9223372036854775807) (hm2 : p.ls.length ≤ 9223372036854775807) (hp : PegsIn w p pa la) :
    Calls Try.prog 11 #[.agg #[.int .i64 p.side, .slice pa p.ps.length pc, .slice la p.ls.length lc], .int .i64 posts, .int .i64 side] w fun e w' => e = .returned (.bool (heavyB p posts side)) ∧ Kept w w' := by
  have HP := Lib.hid hp
  clear hp
  by_cases hmx : 30 < p.ps.length ∨ 30 < p.ls.length
  · have HE : Hid (heavyB p posts side = true) := by
      rcases hmx with h | h <;> simp [Hid, heavyB, h]
    by_cases hpl : p.ps.length < p.ls.length
    · have hd : decide ((30 : Int) < (p.ls.length : Int)) = true := by simp; omega
      clear hmx
      go_enter Try.func11, Try.ntmps11
      go_wp2
      go_ret
      exact ⟨by rw [HE.out]; rfl, (Kept.refl _).alloc _⟩
    · have hd : decide ((30 : Int) < (p.ps.length : Int)) = true := by simp; omega
      clear hmx
      go_enter Try.func11, Try.ntmps11
      go_wp2
      go_ret
      exact ⟨by rw [HE.out]; rfl, (Kept.refl _).alloc _⟩
  · have h1 : p.ps.length ≤ 30 := by omega
    have h2 : p.ls.length ≤ 30 := by omega
    have d1 : decide ((30 : Int) < (p.ps.length : Int)) = false := by simp; omega
    have d2 : decide ((30 : Int) < (p.ls.length : Int)) = false := by simp; omega
    have HE : Hid (heavyB p posts side = (validB p && (decide (posts < p.ps.length) || decide (side < p.side)))) := by
      simp only [Hid, heavyB]
      rw [decide_eq_false (by omega), decide_eq_false (by omega)]; rfl
    clear hmx
    cases hv : validB p with
    | false =>
      have HV := Lib.hid hv
      have HE2 : Hid (heavyB p posts side = false) := by rw [Hid, HE.out, hv]; rfl
      clear hv
      by_cases hpl : p.ps.length < p.ls.length
      all_goals
        go_enter Try.func11, Try.ntmps11
        go_wp2_with (go_at_call 35; refine (rvalid_any p _ _ _ _ _ hm hm2 (HP.out.kept ((Kept.refl _).alloc _))).mono ?_; rintro e w1 ⟨rfl, hb1⟩; rw [HV.out])
        go_ret
        exact ⟨by rw [HE2.out]; rfl, hb1.off _ _⟩
    | true =>
      have HV := Lib.hid hv
      have HE2 : Hid (heavyB p posts side = (decide (posts < p.ps.length) || decide (side < p.side))) := by rw [Hid, HE.out, hv]; rfl
      clear hv
      by_cases a : posts < p.ps.length
      · have a' : decide (posts < (p.ps.length : Int)) = true := by simpa using a
        have HE3 : Hid (heavyB p posts side = true) := by rw [Hid, HE2.out, a']; rfl
        clear a
        by_cases hpl : p.ps.length < p.ls.length
        all_goals
          go_enter Try.func11, Try.ntmps11
          go_wp2_with (go_at_call 35; refine (rvalid_any p _ _ _ _ _ hm hm2 (HP.out.kept ((Kept.refl _).alloc _))).mono ?_; rintro e w1 ⟨rfl, hb1⟩; have hc1 := hb1.cells; rw [HV.out])
          go_ret
          exact ⟨by rw [HE3.out]; rfl, hb1.off _ _⟩
      · have a' : decide (posts < (p.ps.length : Int)) = false := by simpa using a
        have HE3 : Hid (heavyB p posts side = decide (side < p.side)) := by rw [Hid, HE2.out, a']; rfl
        clear a
        by_cases hpl : p.ps.length < p.ls.length
        all_goals
          go_enter Try.func11, Try.ntmps11
          go_wp2_with (go_at_call 35; refine (rvalid_any p _ _ _ _ _ hm hm2 (HP.out.kept ((Kept.refl _).alloc _))).mono ?_; rintro e w1 ⟨rfl, hb1⟩; have hc1 := hb1.cells; rw [HV.out])
          go_ret
          exact ⟨by rw [HE3.out]; rfl, hb1.off _ _⟩
end Go.Proofs.Ytkjciobphbcknaa
