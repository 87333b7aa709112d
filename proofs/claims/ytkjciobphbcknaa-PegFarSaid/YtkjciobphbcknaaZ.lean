/- Package peg: Moved. -/
import Derived.Test.YtkjciobphbcknaaY
namespace Go.Proofs.Ytkjciobphbcknaa
open Go.RowKit

theorem fit_of_valid {p : PegsD} (h : validB p = true) : Fit p := by
  obtain ⟨s0, s1, s2, s3⟩ := validB_sizes h
  simp only [validB, Bool.and_eq_true] at h
  obtain ⟨_, h1, h2⟩ := h
  refine ⟨s0, s1, s2, s3, fun q hq => ?_, fun l hl => ?_⟩
  · have h3 := List.all_eq_true.1 h1 q hq
    simp only [postB, narrowB, withinB, Bool.and_eq_true, decide_eq_true_eq] at h3
    unfold postOk
    omega
  · have h3 := List.all_eq_true.1 h2 l hl
    simp only [lenB, isPegB, withinB, Bool.and_eq_true, decide_eq_true_eq] at h3
    unfold lenOk
    omega

/-- How what hears of truths ends up. -/
def runL {σ : Type} (step : σ → At × Int → σ) (cont : σ → At × Int → Bool) : σ → List (At × Int) → σ
  | s, [] => s
  | s, x :: r => if cont s x then runL step cont (step s x) r else step s x
theorem Hearer.run_eq (h : Hearer) : ∀ (l : List (At × Int)) (s : h.σ), h.run s l = runL h.step h.cont s l
  | [], _ => rfl
  | x :: r, s => by
    simp only [Hearer.run, runL]
    split
    · exact h.run_eq r _
    · rfl

def susRun (all : Int) (l : List (At × Int)) : Int × Bool := runL susStep (fun s x => !(susStep s x).2 || decide ((susStep s x).1 ≠ all)) (0, false) l
/-- What Moved tells. -/
def movedR (p : PegsD) : Except Int (Int × Int × Bool) :=
  if validB p = false then .error 1 else if truthsL p = [] then .error 10
  else .ok (2 ^ p.ps.length - 1, susRun (2 ^ p.ps.length - 1) (truthsL p))

theorem SusAt.below {b : Nat} {all g : Int} {nn : Bool} {W W' : World} {C : Nat} (h : SusAt b all g nn W) (hb : b < C) (k : Below C W W') : SusAt b all g nn W' := by
  obtain ⟨l, c0, c1, c2, f0, f1, f2⟩ := h
  exact ⟨Nat.lt_of_lt_of_le l k.size, (k.cell hb).trans c0, (k.cell hb).trans c1, (k.cell hb).trans c2, (k.frozen hb).trans f0, (k.frozen hb).trans f1, (k.frozen hb).trans f2⟩
theorem PegsIn.farP {w : World} {p : PegsD} {pa la : Option Addr} (h : PegsIn w p pa la) {n : Nat} (hn : w.heap.size ≤ n) : ∀ a, pa = some a → p.ps ≠ [] → ¬ a.block = n := by
  intro a e hne
  cases hq : p.ps with
  | nil => exact absurd hq hne
  | cons x r =>
    obtain ⟨b, o, e2, hl, _⟩ := h.1 0 x (by rw [hq]; rfl)
    rw [e] at e2; cases e2; simp only; omega
theorem PegsIn.farL {w : World} {p : PegsD} {pa la : Option Addr} (h : PegsIn w p pa la) {n : Nat} (hn : w.heap.size ≤ n) : ∀ a, la = some a → p.ls ≠ [] → ¬ a.block = n := by
  intro a e hne
  cases hq : p.ls with
  | nil => exact absurd hq hne
  | cons x r =>
    obtain ⟨b, o, e2, hl, _⟩ := h.2 0 x (by rw [hq]; rfl)
    rw [e] at e2; cases e2; simp only; omega
theorem KeptT.toKept {T : Nat → Prop} {w A B : World} (h : KeptT T A B) (k : Kept w A) (hT : ∀ i, T i → w.heap.size ≤ i) : Kept w B :=
  ⟨h.os.trans (Below.os k), h.tape.trans (Below.tape k), h.output.trans (Below.output k), Nat.le_trans (Kept.size k) h.size, fun i hi => (h.block i (Nat.lt_of_lt_of_le hi (Kept.size k)) (fun e => by have := hT i e; omega)).trans (Below.block k i hi)⟩
theorem susH_run (b : Nat) (all : Int) (l : List (At × Int)) : (susH b all).run (0, false) l = susRun all l := (susH b all).run_eq l (0, false)
theorem meth78 (v : Value) (w : World) : (method 282 78 v "furrowworks/peg.hear").run Try.prog w = .ok (121, v) w := by kernel_rfl
theorem enter121 : ∀ args w, (callFunc 121 args).run Try.prog w = .ok (.enter 121 args) w := enters_of Try.func121 (by kernel_rfl) rfl
theorem enter44 : ∀ args w, (callFunc 44 args).run Try.prog w = .ok (.enter 44 args) w := enters_of Try.func44 (by kernel_rfl) rfl

set_option maxHeartbeats 4000000 in
theorem moved1_any (p : PegsD) (b : Nat) (pa la : Option Addr) (pc lc : Nat) (w : World) (hm : p.ps.length ≤ 9223372036854775807) (hm2 : p.ls.length ≤ 9223372036854775807) (hp : PegsIn w p pa la)
    (c0 : w.cell? ⟨b, 0, none⟩ = some (.int .i64 p.side)) (c1 : w.cell? ⟨b, 1, none⟩ = some (.slice pa p.ps.length pc)) (c2 : w.cell? ⟨b, 2, none⟩ = some (.slice la p.ls.length lc)) :
    Calls Try.prog 44 #[.pointer (some ⟨b, 0, none⟩)] w fun e w' => e = endOf encSus (movedR p) ∧ Kept w w' := by
  have HP := Lib.hid hp
  have hb := World.block_lt_of_cell? w _ c0
  have hx : IntsIn (w.alloc (.cells #[.int .i64 0, .int .i64 0, .bool false] 73)) none [] := fun i x h => by simp at h
  have hck := Lib.hid (check_any p pa la none pc lc 0 [] (w.alloc (.cells #[.int .i64 0, .int .i64 0, .bool false] 73)) hm hm2 (by simp) (HP.out.kept ((Kept.refl _).alloc _)) hx)
  clear hp
  cases hv : validB p with
  | false =>
    have HR : movedR p = .error 1 := by simp [movedR, hv]
    rw [HR]
    have HV := Lib.hid hv
    clear hv HR hx
    go_enter Try.func44, Try.ntmps44
    go_wp2_with (go_at_call 45; refine hck.out.mono ?_; rintro e w1 ⟨hb1, he⟩; rw [HV.out] at he; simp only [Bool.false_eq_true, if_false] at he; subst he)
    exact ⟨rfl, rfl, Kept.step1 (Kept.refl _) hb1⟩
  | true =>
    have hfit := fit_of_valid hv
    have hn4 := hfit.n4
    obtain ⟨all, hall⟩ : ∃ all : Int, all = (2 : Int) ^ p.ps.length - 1 := ⟨_, rfl⟩
    have HR : Hid (movedR p = if truthsL p = [] then .error 10 else .ok (all, susRun all (truthsL p))) := by
      rw [Hid, movedR, hv, hall]; rfl
    have hw : IntKind.i64.wrap (2 ^ p.ps.length) = 2 ^ p.ps.length := (by decide +kernel : ∀ j : Fin 5, IntKind.i64.wrap (2 ^ j.1) = 2 ^ j.1) ⟨p.ps.length, by omega⟩
    have hw2 : IntKind.i64.wrap ((2 : Int) ^ p.ps.length - 1) = all := by
      rw [hall]; exact (by decide +kernel : ∀ j : Fin 5, IntKind.i64.wrap ((2 : Int) ^ j.1 - 1) = (2 : Int) ^ j.1 - 1) ⟨p.ps.length, by omega⟩
    have HV := Lib.hid hv
    have HF := Lib.hid hfit
    have hmt := meth78
    have hen := enter121
    clear hv hx hfit hall
    go_enter Try.func44, Try.ntmps44
    go_wp2_with (go_at_call 45; refine hck.out.mono ?_; rintro e w1 ⟨hb1, he⟩; have hc1 := hb1.cells; have hz1 := hb1.frozens; have hl1 := hb1.lts; have hbl := hl1 b (by simp; omega); rw [HV.out] at he; simp only [if_true, List.all_nil] at he; subst he)
    have hkA : Kept w (w1.alloc (Obj.cells #[.int .i64 all, .int .i64 0, .bool false] 73)) := (Kept.step1 (Kept.refl _) hb1).alloc _
    have hsz1 : w.heap.size ≤ w1.heap.size := Kept.size (Kept.step1 (Kept.refl _) hb1)
    refine (ask_any (susH w1.heap.size all) (0, false) 78 _ 121 p pa la pc lc _ HF.out (HP.out.kept hkA) (sus_law _ _) (fun k hk => by cases hk; simp) (fun s W W' h hb => SusAt.below h (by simp) hb)
      (HP.out.farP hsz1) (HP.out.farL hsz1) ⟨by simp, by simp [go_sem], by simp [go_sem], by simp [go_sem], by simp [go_sem], by simp [go_sem], by simp [go_sem]⟩ (fun w => meth78 _ w) enter121).mono ?_
    rintro e w2 ⟨hk2, hH2, he2⟩
    rw [susH_run] at hH2
    have kk : Kept w w2 := hk2.toKept hkA (fun i e => by cases e; exact hsz1)
    by_cases hE : truthsL p = []
    · rw [if_pos hE] at he2
      subst he2
      go_wp2
      exact ⟨rfl, by rw [HR.out, if_pos hE]; rfl, kk⟩
    · rw [if_neg hE] at he2
      subst he2
      have hlw : w.heap.size < w1.heap.size := hl1 _ (by simp)
      have hne : ¬ (susH w1.heap.size all).T w.heap.size := fun e => by have e : w.heap.size = w1.heap.size := e; omega
      obtain ⟨l2, e0, e1, e2, _⟩ := hH2
      have HR2 : Hid (movedR p = .ok (all, (susRun all (truthsL p)).1, (susRun all (truthsL p)).2)) := by rw [Hid, HR.out, if_neg hE]
      generalize (susRun all (truthsL p)).1 = g at *
      generalize (susRun all (truthsL p)).2 = nn at *
      have d0 : w2.cell? ⟨w.heap.size, 0, none⟩ = some (.int .i64 0) := by rw [hk2.cells _ _ (by simp; omega) hne]; simp [go_sem, hc1, hlw]
      have d1 : w2.cell? ⟨w.heap.size, 1, none⟩ = some (.int .i64 0) := by rw [hk2.cells _ _ (by simp; omega) hne]; simp [go_sem, hc1, hlw]
      have d2 : w2.cell? ⟨w.heap.size, 2, none⟩ = some (.bool false) := by rw [hk2.cells _ _ (by simp; omega) hne]; simp [go_sem, hc1, hlw]
      have z0 : w2.frozen? ⟨w.heap.size, 0, none⟩ = false := by rw [hk2.frozens _ _ (by simp; omega) hne]; simp [go_sem, hz1, hlw]
      have z1 : w2.frozen? ⟨w.heap.size, 1, none⟩ = false := by rw [hk2.frozens _ _ (by simp; omega) hne]; simp [go_sem, hz1, hlw]
      have z2 : w2.frozen? ⟨w.heap.size, 2, none⟩ = false := by rw [hk2.frozens _ _ (by simp; omega) hne]; simp [go_sem, hz1, hlw]
      have HKK := Lib.hid kk
      clear hc1 hz1 hl1 kk hk2 hb1 hw hw2 hck
      go_wp2
      refine bodyPost_ret (v := .agg #[.int .i64 all, .int .i64 g, .bool nn]) (by simp [results, Try.results44, go_sem, *]) rfl ?_
      exact ⟨by rw [HR2.out]; rfl, ((HKK.out.setCell (p := ⟨_, _, _⟩) (by simp) _).setCell (p := ⟨_, _, _⟩) (by simp) _).setCell (p := ⟨_, _, _⟩) (by simp) _⟩

set_option maxHeartbeats 4000000 in
theorem moved_any (p : PegsD) (pa la : Option Addr) (pc lc : Nat) (w : World) (hm : p.ps.length ≤ 9223372036854775807) (hm2 : p.ls.length ≤ 9223372036854775807) (hp : PegsIn w p pa la) :
    Calls Try.prog 13 #[.agg #[.int .i64 p.side, .slice pa p.ps.length pc, .slice la p.ls.length lc]] w
      fun e w' => e = .returned (.tuple #[.int .i64 (valOf (0, 0, false) (movedR p)).2.1, .bool (valOf (0, 0, false) (movedR p)).2.2, .int .i64 (errOf (movedR p))]) ∧ Kept w w' := by
  have hmf : ∀ (fn : Fn) (first cap : Array Value) (w : World), (Instr.makeFunc fn first cap).run Try.prog w = .ok (.func fn first cap) w := fun _ _ _ _ => rfl
  have HP := Lib.hid hp
  have kW : Kept w (((w.alloc (Obj.cells #[.int .i64 p.side, .slice pa p.ps.length pc, .slice la p.ls.length lc] 25)).alloc (.cells #[.int .i64 0, .int .i64 0, .bool false] 73)).alloc (.cells #[.int .i64 0] 28)) := (((Kept.refl _).alloc _).alloc _).alloc _
  have h1 := Lib.hid (moved1_any p w.heap.size pa la pc lc _ hm hm2 (HP.out.kept kW) (by simp [go_sem]) (by simp [go_sem]) (by simp [go_sem]))
  have hC := Lib.hid (told43_any 44 #[.pointer (some ⟨w.heap.size, 0, none⟩)] (w.alloc (Obj.cells #[.int .i64 p.side, .slice pa p.ps.length pc, .slice la p.ls.length lc] 25)) (movedR p) enter44 h1.out)
  clear hp kW h1
  simp only [encSus] at hC
  generalize (valOf (0, 0, false) (movedR p)).2.1 = g at *
  generalize (valOf (0, 0, false) (movedR p)).2.2 = nn at *
  generalize (valOf (0, 0, false) (movedR p)).1 = aa at *
  generalize errOf (movedR p) = n at *
  go_enter Try.func13, Try.ntmps13
  go_wp2_with (go_at_call 43; refine hC.out.mono ?_; rintro e w1 ⟨rfl, hb1⟩)
  go_region
  go_wp2
  refine bodyPost_ret (v := .tuple #[.int .i64 g, .bool nn, .int .i64 n]) (by simp [results, Try.results13, go_sem]) rfl ?_
  exact ⟨rfl, ((Kept.step1 (Kept.refl _) hb1).alloc _).drew⟩
end Go.Proofs.Ytkjciobphbcknaa
