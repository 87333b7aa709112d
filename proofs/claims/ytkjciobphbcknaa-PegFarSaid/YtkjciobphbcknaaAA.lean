/- Package peg: Places. -/
import Derived.Test.YtkjciobphbcknaaZ
import Derived.Carry
namespace Go.Proofs.Ytkjciobphbcknaa
open Go.RowKit Go.Maps

theorem meth104 (v : Value) (w : World) : (method 282 104 v "furrowworks/peg.hear").run Try.prog w = .ok (122, v) w := by kernel_rfl
theorem enter122 : ∀ args w, (callFunc 122 args).run Try.prog w = .ok (.enter 122 args) w := enters_of Try.func122 (by kernel_rfl) rfl

/-- The places at which a peg stands in some truth. -/
def standL (i : Nat) (l : List (At × Int)) : List Pl := runL (fun L x => addPl L (x.1.get i)) (fun _ _ => true) [] l
theorem standH_run (B i : Nat) (l : List (At × Int)) : (standH B i).run [] l = standL i l := (standH B i).run_eq l []

set_option maxHeartbeats 4000000 in
theorem stands_any (p : PegsD) (i : Nat) (pa la : Option Addr) (pc lc : Nat) (w : World) (hv : validB p = true) (hi : i < p.ps.length) (hp : PegsIn w p pa la) :
    Calls Try.prog 52 #[.agg #[.int .i64 p.side, .slice pa p.ps.length pc, .slice la p.ls.length lc], .int .i64 i] w
      fun e w' => Kept w w' ∧ (if truthsL p = [] then e = .panicked (errV 10) else ∃ B, e = .returned (.map (some B)) ∧ SetAt B (standL i (truthsL p)) w' ∧ w.heap.size ≤ B) := by
  have hmm := @run_makeMap Try.prog
  have HP := Lib.hid hp
  have hf := fit_of_valid hv
  have HF := Lib.hid hf
  have hn4 := hf.n4
  have hmt := meth104
  have hen := enter122
  have hs : SetAt (w.heap.size + 1) [] (((w.alloc (Obj.cells #[.int .i64 p.side, .slice pa p.ps.length pc, .slice la p.ls.length lc] 25)).alloc (.map #[] 0)).alloc (Obj.cells #[.int .i64 i, .map (some (w.heap.size + 1))] 104)) := by
    have h1 := set_made (w.alloc (Obj.cells #[.int .i64 p.side, .slice pa p.ps.length pc, .slice la p.ls.length lc] 25))
    rw [World.size_alloc] at h1
    exact h1.below (C := w.heap.size + 2) (by omega) ((Below.refl _ _).alloc (by simp) _)
  have kA : Kept w (((w.alloc (Obj.cells #[.int .i64 p.side, .slice pa p.ps.length pc, .slice la p.ls.length lc] 25)).alloc (.map #[] 0)).alloc (Obj.cells #[.int .i64 i, .map (some (w.heap.size + 1))] 104)) := (((Kept.refl _).alloc _).alloc _).alloc _
  have hask := Lib.hid (ask_any (standH (w.heap.size + 1) i) [] 104 _ 122 p pa la pc lc _ hf (HP.out.kept kA) (stand_law (w.heap.size + 1) i (by omega)) (fun k hk => by cases hk; simp) (fun s W W' h hb => SetAt.below h (by simp) hb)
    (HP.out.farP (by omega)) (HP.out.farL (by omega)) hs (fun w => meth104 _ w) enter122)
  have HKA := Lib.hid kA
  clear hp hv hf hs kA
  by_cases hE : truthsL p = []
  · simp only [if_pos hE]
    go_enter Try.func52, Try.ntmps52
    go_wp2_with (go_at_call 46; refine hask.out.mono ?_; rintro e w2 ⟨hk2, hH2, he2⟩; rw [if_pos hE] at he2; subst he2)
    have kk : Kept w w2 := hk2.toKept HKA.out (fun i e => by cases e; omega)
    exact ⟨rfl, kk, rfl⟩
  · simp only [if_neg hE]
    have HE := Lib.hid hE
    clear hE
    go_enter Try.func52, Try.ntmps52
    go_wp2_with (go_at_call 46; refine hask.out.mono ?_; rintro e w2 ⟨hk2, hH2, he2⟩; rw [if_neg HE.out] at he2; subst he2; have hc2 := hk2.cells (w.heap.size + 1 + 1) 1 (by simp) (fun e => by have e : w.heap.size + 1 + 1 = w.heap.size + 1 := e; omega))
    have kk : Kept w w2 := hk2.toKept HKA.out (fun i e => by cases e; omega)
    go_ret
    rw [standH_run] at hH2
    exact ⟨kk, _, rfl, hH2, by omega⟩

/-- Why the check of pegs and numbers panics, if it does. -/
def checkR (p : PegsD) (xs : List Int) : Option Int := if validB p = false then some 1 else if xs.all (isPegB p.ps.length) = false then some 2 else none
theorem CheckEnds.some {p : PegsD} {xs : List Int} {w w' : World} {e : Ending} {n : Int} (h : CheckEnds p xs w e w') (hc : checkR p xs = some n) : Kept w w' ∧ e = .panicked (errV n) := by
  obtain ⟨hk, h⟩ := h
  refine ⟨hk, ?_⟩
  unfold checkR at hc
  cases hv : validB p <;> cases ha : xs.all (isPegB p.ps.length) <;> simp_all
theorem CheckEnds.none {p : PegsD} {xs : List Int} {w w' : World} {e : Ending} (h : CheckEnds p xs w e w') (hc : checkR p xs = none) : Kept w w' ∧ e = .returned (.tuple #[]) := by
  obtain ⟨hk, h⟩ := h
  refine ⟨hk, ?_⟩
  unfold checkR at hc
  cases hv : validB p <;> cases ha : xs.all (isPegB p.ps.length) <;> simp_all
theorem checkR_none {p : PegsD} {xs : List Int} (hc : checkR p xs = none) : validB p = true ∧ ∀ x ∈ xs, 0 ≤ x ∧ x < p.ps.length := by
  unfold checkR at hc
  cases hv : validB p <;> cases ha : xs.all (isPegB p.ps.length)
  · simp_all
  · simp_all
  · simp_all
  · refine ⟨rfl, fun x hx => ?_⟩
    have := List.all_eq_true.1 ha x hx
    simpa [isPegB] using this

/-- What Places tells. -/
def placesR (p : PegsD) (i : Int) : Except Int Int :=
  match checkR p [i] with
  | some n => .error n
  | none => if truthsL p = [] then .error 10 else .ok (standL i.toNat (truthsL p)).length

theorem enter57 : ∀ args w, (callFunc 57 args).run Try.prog w = .ok (.enter 57 args) w := enters_of Try.func57 (by kernel_rfl) rfl
theorem intsOne (w : World) (i : Int) : IntsIn (w.alloc (.cells #[.int .i64 i] 3)) (some ⟨w.heap.size, 0, none⟩) [i] := by
  intro k x hk
  match k, hk with
  | 0, hk => simp at hk; subst hk; exact ⟨_, _, rfl, by simp, by simp [go_sem]⟩

set_option maxHeartbeats 4000000 in
theorem places1_any (p : PegsD) (i : Int) (b b2 : Nat) (pa la : Option Addr) (pc lc : Nat) (w : World) (hm : p.ps.length ≤ 9223372036854775807) (hm2 : p.ls.length ≤ 9223372036854775807) (hp : PegsIn w p pa la)
    (c0 : w.cell? ⟨b, 0, none⟩ = some (.int .i64 p.side)) (c1 : w.cell? ⟨b, 1, none⟩ = some (.slice pa p.ps.length pc)) (c2 : w.cell? ⟨b, 2, none⟩ = some (.slice la p.ls.length lc)) (ci : w.cell? ⟨b2, 0, none⟩ = some (.int .i64 i)) :
    Calls Try.prog 57 #[.pointer (some ⟨b, 0, none⟩), .pointer (some ⟨b2, 0, none⟩)] w fun e w' => e = endOf encInt (placesR p i) ∧ Kept w w' := by
  have HP := Lib.hid hp
  have hb := World.block_lt_of_cell? w _ c0
  have hb2 := World.block_lt_of_cell? w _ ci
  have hck := Lib.hid (check_any p pa la (some ⟨w.heap.size, 0, none⟩) pc lc 1 [i] (w.alloc (.cells #[.int .i64 i] 3)) hm hm2 (by simp) (HP.out.kept ((Kept.refl _).alloc _)) (intsOne w i))
  clear hp
  cases hc : checkR p [i] with
  | some n =>
    have HR : placesR p i = .error n := by simp [placesR, hc]
    rw [HR]
    have HC := Lib.hid hc
    clear hc HR
    go_enter Try.func57, Try.ntmps57
    go_wp2_with (go_at_call 45; refine hck.out.mono ?_; rintro e w1 he; obtain ⟨hb1, rfl⟩ := he.some HC.out)
    exact ⟨rfl, rfl, Kept.step1 (Kept.refl _) hb1⟩
  | none =>
    obtain ⟨hv, hr⟩ := checkR_none hc
    have hr := hr i (by simp)
    obtain ⟨k, rfl⟩ := Int.eq_ofNat_of_zero_le hr.1
    have hk : k < p.ps.length := by omega
    have HC := Lib.hid hc
    have HV := Lib.hid hv
    clear hr hc hv
    have hlen := fun w1 (hb1 : Kept (w.alloc (.cells #[.int .i64 (k : Int)] 3)) w1) => Lib.hid (stands_any p k pa la pc lc w1 HV.out hk (HP.out.kept (Kept.step1 (Kept.refl _) hb1)))
    by_cases hE : truthsL p = []
    · have HR : placesR p k = .error 10 := by simp only [placesR, HC.out, hE]; rfl
      rw [HR]
      have HE := Lib.hid hE
      clear hE HR
      go_enter Try.func57, Try.ntmps57
      go_wp2_with (first
        | (go_at_call 45; refine hck.out.mono ?_; rintro e w1 he; obtain ⟨hb1, rfl⟩ := he.none HC.out; have hc1 := hb1.cells; have hl1 := hb1.lts)
        | (go_at_call 52; refine (hlen _ hb1).out.mono ?_; rintro e w2 ⟨hk2, he2⟩; rw [if_pos HE.out] at he2; subst he2))
      exact ⟨rfl, rfl, Kept.step0 (Kept.step1 (Kept.refl _) hb1) hk2⟩
    · have HR : placesR p k = .ok (standL k (truthsL p)).length := by simp only [placesR, HC.out, if_neg hE]; rfl
      rw [HR]
      have HE := Lib.hid hE
      clear hE HR
      go_enter Try.func57, Try.ntmps57
      go_wp2_with (first
        | (go_at_call 45; refine hck.out.mono ?_; rintro e w1 he; obtain ⟨hb1, rfl⟩ := he.none HC.out; have hc1 := hb1.cells; have hl1 := hb1.lts)
        | (go_at_call 52; refine (hlen _ hb1).out.mono ?_; rintro e w2 ⟨hk2, he2⟩; rw [if_neg HE.out] at he2; obtain ⟨B, rfl, hS, hB⟩ := he2; obtain ⟨n1, n2, D, own, q1, q2, q3⟩ := hS; have hlen2 := own.len und90 3; rw [q1] at hlen2; clear own q2 q3))
      go_ret
      exact ⟨rfl, Kept.step0 (Kept.step1 (Kept.refl _) hb1) hk2⟩

set_option maxHeartbeats 4000000 in
theorem places_any (p : PegsD) (i : Int) (pa la : Option Addr) (pc lc : Nat) (w : World) (hm : p.ps.length ≤ 9223372036854775807) (hm2 : p.ls.length ≤ 9223372036854775807) (hp : PegsIn w p pa la) :
    Calls Try.prog 17 #[.agg #[.int .i64 p.side, .slice pa p.ps.length pc, .slice la p.ls.length lc], .int .i64 i] w
      fun e w' => e = .returned (.tuple #[.int .i64 (valOf 0 (placesR p i)), .int .i64 (errOf (placesR p i))]) ∧ Kept w w' := by
  have hmf : ∀ (fn : Fn) (first cap : Array Value) (w : World), (Instr.makeFunc fn first cap).run Try.prog w = .ok (.func fn first cap) w := fun _ _ _ _ => rfl
  have HP := Lib.hid hp
  have kW : Kept w (((w.alloc (Obj.cells #[.int .i64 p.side, .slice pa p.ps.length pc, .slice la p.ls.length lc] 25)).alloc (.cells #[.int .i64 i] 3)).alloc (.cells #[.int .i64 0] 28)) := (((Kept.refl _).alloc _).alloc _).alloc _
  have h1 := Lib.hid (places1_any p i w.heap.size (w.heap.size + 1) pa la pc lc _ hm hm2 (HP.out.kept kW) (by simp [go_sem]) (by simp [go_sem]) (by simp [go_sem]) (by simp [go_sem]))
  have hC := Lib.hid (told56_any 57 #[.pointer (some ⟨w.heap.size, 0, none⟩), .pointer (some ⟨w.heap.size + 1, 0, none⟩)] ((w.alloc (Obj.cells #[.int .i64 p.side, .slice pa p.ps.length pc, .slice la p.ls.length lc] 25)).alloc (.cells #[.int .i64 i] 3)) (placesR p i) enter57 h1.out)
  clear hp kW h1
  simp only [encInt] at hC
  generalize valOf 0 (placesR p i) = g at *
  generalize errOf (placesR p i) = n at *
  go_enter Try.func17, Try.ntmps17
  go_wp2_with (go_at_call 56; refine hC.out.mono ?_; rintro e w1 ⟨rfl, hb1⟩)
  refine bodyPost_ret (v := .tuple #[.int .i64 g, .int .i64 n]) (by simp [results, Try.results17, go_sem]) rfl ?_
  exact ⟨rfl, Kept.step2 (Kept.refl _) hb1⟩
end Go.Proofs.Ytkjciobphbcknaa
