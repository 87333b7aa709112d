/- Package peg: the check of pegs and of their numbers. -/
import Derived.Test.YtkjciobphbcknaaB
namespace Go.Proofs.Ytkjciobphbcknaa
open Go.RowKit

structure PegsD where
  side : Int
  ps : List Post
  ls : List Len
def PegsIn (w : World) (p : PegsD) (pa la : Option Addr) : Prop := PostsIn w pa p.ps ∧ LensIn w la p.ls
theorem PegsIn.kept {w w' : World} {p : PegsD} {pa la : Option Addr} (h : PegsIn w p pa la) (hb : Kept w w') : PegsIn w' p pa la := ⟨h.1.kept hb, h.2.kept hb⟩
def sizesB (p : PegsD) : Bool := decide (0 ≤ p.side) && decide (p.side ≤ 15) && decide (p.ps.length ≤ 4) && decide (p.ls.length ≤ 6)
def validB (p : PegsD) : Bool := sizesB p && (p.ps.all (postB p.side) && lensB p.ps.length p.ls)
theorem validB_sizes {p : PegsD} (h : validB p = true) : 0 ≤ p.side ∧ p.side ≤ 15 ∧ p.ps.length ≤ 4 ∧ p.ls.length ≤ 6 := by
  simp [validB, sizesB] at h; omega

set_option maxHeartbeats 1000000 in
theorem valid_big (side : Int) (pa la : Option Addr) (pl pc ll lc : Nat) (w : World) (hm : pl ≤ 9223372036854775807) (hm2 : ll ≤ 9223372036854775807) (h : side < 0 ∨ 15 < side ∨ 4 < pl ∨ 6 < ll) :
    Calls Try.prog 77 #[.agg #[.int .i64 side, .slice pa pl pc, .slice la ll lc]] w fun e w' => e = .returned (.bool false) ∧ Kept w w' := by
  by_cases h0 : side < 0
  · clear h
    go_enter Try.func77, Try.ntmps77
    go_wp2
    go_ret
    exact ⟨rfl, (Kept.refl _).alloc _⟩
  · by_cases h1 : 15 < side
    · clear h
      go_enter Try.func77, Try.ntmps77
      go_wp2
      go_ret
      exact ⟨rfl, (Kept.refl _).alloc _⟩
    · by_cases h2 : 4 < pl
      · have h2b : decide ((4 : Int) < (pl : Int)) = true := by simp; omega
        clear h
        go_enter Try.func77, Try.ntmps77
        go_wp2
        go_ret
        exact ⟨rfl, (Kept.refl _).alloc _⟩
      · have h2b : decide ((4 : Int) < (pl : Int)) = false := by simp; omega
        have h3b : decide ((6 : Int) < (ll : Int)) = true := by simp; omega
        clear h
        go_enter Try.func77, Try.ntmps77
        go_wp2
        go_ret
        exact ⟨rfl, (Kept.refl _).alloc _⟩

theorem valid_any (p : PegsD) (pa la : Option Addr) (pc lc : Nat) (w : World) (hm : p.ps.length ≤ 9223372036854775807) (hm2 : p.ls.length ≤ 9223372036854775807) (hp : PegsIn w p pa la) :
    Calls Try.prog 77 #[.agg #[.int .i64 p.side, .slice pa p.ps.length pc, .slice la p.ls.length lc]] w fun e w' => e = .returned (.bool (validB p)) ∧ Kept w w' := by
  by_cases h : sizesB p = true
  · have h' := h
    simp only [sizesB, Bool.and_eq_true, decide_eq_true_eq] at h'
    have e : validB p = (p.ps.all (postB p.side) && lensB p.ps.length p.ls) := by rw [validB, h, Bool.true_and]
    rw [e]
    exact valid_loops p.side pa la pc lc p.ps p.ls w (by omega) (by omega) (by omega) (by omega) hp.1 hp.2
  · have e : validB p = false := by rw [validB, Bool.eq_false_iff.2 h, Bool.false_and]
    have h' := h
    simp only [sizesB, Bool.and_eq_true, decide_eq_true_eq] at h'
    rw [e]
    exact valid_big p.side pa la p.ps.length pc p.ls.length lc w hm hm2 (by omega)

def errV (n : Int) : List PanicEntry := [{ v := .iface 28 (.int .i64 n), recovered := false }]
def IntsIn (w : World) (pa : Option Addr) (xs : List Int) : Prop :=
  ∀ i x, xs[i]? = some x → ∃ b o, pa = some ⟨b, o, none⟩ ∧ b < w.heap.size ∧ w.cell? ⟨b, o + i, none⟩ = some (.int .i64 x)
theorem IntsIn.kept {w w' : World} {pa : Option Addr} {xs : List Int} (h : IntsIn w pa xs) (hb : Kept w w') : IntsIn w' pa xs := by
  intro i x hi
  obtain ⟨b, o, rfl, hlt, c⟩ := h i x hi
  exact ⟨b, o, rfl, hb.lt hlt, by rw [hb.cells _ _ hlt]; exact c⟩

/-- What the check of pegs and numbers ends with. -/
def CheckEnds (p : PegsD) (xs : List Int) (w : World) (e : Ending) (w' : World) : Prop :=
  Kept w w' ∧ (if validB p then (if xs.all (isPegB p.ps.length) then e = .returned (.tuple #[]) else e = .panicked (errV 2)) else e = .panicked (errV 1))

set_option maxHeartbeats 1000000 in
theorem check_any (p : PegsD) (pa la xa : Option Addr) (pc lc xc : Nat) (xs : List Int) (w : World) (hm : p.ps.length ≤ 9223372036854775807) (hm2 : p.ls.length ≤ 9223372036854775807) (hm3 : xs.length ≤ 9223372036854775807)
    (hp : PegsIn w p pa la) (hx : IntsIn w xa xs) :
    Calls Try.prog 45 #[.agg #[.int .i64 p.side, .slice pa p.ps.length pc, .slice la p.ls.length lc], .slice xa xs.length xc] w (CheckEnds p xs w) := by
  have HP := Lib.hid hp
  have HX := Lib.hid hx
  clear hp hx
  cases hv : validB p with
  | false =>
    have HV := Lib.hid hv; clear hv
    go_enter Try.func45, Try.ntmps45
    go_wp2_with (go_at_call 77; refine (valid_any p _ _ _ _ _ hm hm2 (HP.out.kept ((Kept.refl _).alloc _))).mono ?_; rintro e w1 ⟨rfl, hb1⟩; have hc1 := hb1.cells; have hl1 := hb1.lts; rw [HV.out])
    exact ⟨rfl, hb1.off _ _, by simp [HV.out, errV]⟩
  | true =>
    have HV := Lib.hid hv; clear hv
    go_enter Try.func45, Try.ntmps45
    go_wp2_with (go_at_call 77; refine (valid_any p _ _ _ _ _ hm hm2 (HP.out.kept ((Kept.refl _).alloc _))).mono ?_; rintro e w1 ⟨rfl, hb1⟩; have hc1 := hb1.cells; have hl1 := hb1.lts; rw [HV.out])
    have hB := hb1.off _ _
    clear hc1 hl1
    replace hb1 : Hid (Kept (w.alloc _) w1) := hb1
    go_loopw [5, 12] (fun _ i wr => ∃ k : Nat, k ≤ xs.length ∧ i = .int .i64 k ∧ Kept (w.alloc (Obj.cells #[Value.int IntKind.i64 p.side, Value.slice pa p.ps.length pc, Value.slice la p.ls.length lc] 25)) wr ∧ Hid ((xs.take k).all (isPegB p.ps.length) = true)) (fun _ i _ => xs.length - (intOf i).toNat)
    case atStart => exact ⟨0, Nat.zero_le _, rfl, hb1, rfl⟩
    case round =>
      clear hB hb1
      obtain ⟨k, hk, rfl, hB, hall⟩ := hrel
      have hc := hB.cells
      have hl := hB.lts
      by_cases hlt : k < xs.length
      · obtain ⟨b, o, rfl, hbs, c1⟩ := HX.out k (xs[k]) (by simp)
        have HT : isPegB p.ps.length xs[k] = true → Hid ((xs.take (k + 1)).all (isPegB p.ps.length) = true) := fun a => by
          rw [Hid, all_snoc _ _ _ hlt, hall.out, a]; rfl
        have HF : isPegB p.ps.length xs[k] = false → Hid (xs.all (isPegB p.ps.length) = false) := fun a => all_false _ xs k hlt a
        clear hall
        go_wp2_with (go_at_call 78; refine (isPeg_any _ _ _ _ _ _ _ _ _).mono ?_; rintro e w2 ⟨rfl, hb1⟩; have hc1 := hb1.cells; have hl1 := hb1.lts; replace hB := Kept.step0 hB hb1)
        · exact ⟨rfl, hB.off _ _, by rw [if_pos HV.out, if_neg (by rw [(HF (by simpa using ‹(!_) = true›)).out]; simp)]; rfl⟩
        · go_roundw
          case rel => exact ⟨k + 1, by omega, by go_num, hB, HT (by simpa using ‹(!_) = false›)⟩
          case measure => simp [intOf]; omega
      · have e : k = xs.length := by omega
        subst e
        have HT : Hid (xs.all (isPegB p.ps.length) = true) := by rw [Hid, ← hall.out, List.take_length]
        clear hall
        go_wp2
        go_end0
        exact ⟨hB.off _ _, by rw [if_pos HV.out, if_pos HT.out]⟩
end Go.Proofs.Ytkjciobphbcknaa
