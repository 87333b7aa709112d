/- Package peg: Apart. -/
import Derived.Test.YtkjciobphbcknaaAA
namespace Go.Proofs.Ytkjciobphbcknaa
open Go.RowKit

theorem meth110 (v : Value) (w : World) : (method 282 110 v "furrowworks/peg.hear").run Try.prog w = .ok (124, v) w := by kernel_rfl
theorem enter124 : ∀ args w, (callFunc 124 args).run Try.prog w = .ok (.enter 124 args) w := enters_of Try.func124 (by kernel_rfl) rfl
theorem enter61 : ∀ args w, (callFunc 61 args).run Try.prog w = .ok (.enter 61 args) w := enters_of Try.func61 (by kernel_rfl) rfl

theorem EndsAt.belowC {b : Nat} {s : EndsD} {W W' : World} {C : Nat} (h : EndsAt b s W) (hb : b < C) (k : Below C W W') : EndsAt b s W' := by
  obtain ⟨l, c0, c1, c2, f0, f1, f2⟩ := h
  exact ⟨Nat.lt_of_lt_of_le l k.size, (k.cell hb).trans c0, (k.cell hb).trans c1, (k.cell hb).trans c2, (k.frozen hb).trans f0, (k.frozen hb).trans f1, (k.frozen hb).trans f2⟩
theorem span_any (s : EndsD) (w : World) : Calls Try.prog 54 #[.agg #[.int .i64 s.lo, .int .i64 s.hi, .bool s.some]] w fun e w' => e = .returned (.agg #[.int .i64 s.lo, .int .i64 s.hi]) ∧ Kept w w' := by
  go_enter Try.func54, Try.ntmps54
  go_wp2
  refine bodyPost_ret (v := .agg #[.int .i64 s.lo, .int .i64 s.hi]) (by simp [results, Try.results54, go_sem]) rfl ?_
  exact ⟨rfl, by
    exact ((Kept.refl w).alloc _).alloc _⟩

/-- The ends of numbers of truths. -/
def endsL (f : At × Int → Int) (l : List (At × Int)) : EndsD := runL (fun s x => s.add (f x)) (fun _ _ => true) ⟨0, 0, false⟩ l
def endsR (f : At × Int → Int) (p : PegsD) : Except Int (Int × Int) := if truthsL p = [] then .error 10 else .ok ((endsL f (truthsL p)).lo, (endsL f (truthsL p)).hi)
def apartR (p : PegsD) (a b : Int) : Except Int (Int × Int) :=
  match checkR p [a, b] with
  | some n => .error n
  | none => endsR (fun x => apartI (x.1.get a) (x.1.get b)) p
theorem distH_run (B : Nat) (i j : Int) (l : List (At × Int)) : (distH B i j).run ⟨0, 0, false⟩ l = endsL (fun x => apartI (x.1.get i) (x.1.get j)) l := (distH B i j).run_eq l _
theorem intsTwo (w : World) (i j : Int) : IntsIn (w.alloc (.cells #[.int .i64 i, .int .i64 j] 3)) (some ⟨w.heap.size, 0, none⟩) [i, j] := by
  intro k x hk
  match k, hk with
  | 0, hk => simp at hk; subst hk; exact ⟨_, _, rfl, by simp, by simp [go_sem]⟩
  | 1, hk => simp at hk; subst hk; exact ⟨_, _, rfl, by simp, by simp [go_sem]⟩

set_option maxHeartbeats 4000000 in
theorem apart1_any (p : PegsD) (i j : Int) (b b2 b3 : Nat) (pa la : Option Addr) (pc lc : Nat) (w : World) (hm : p.ps.length ≤ 9223372036854775807) (hm2 : p.ls.length ≤ 9223372036854775807) (hp : PegsIn w p pa la)
    (c0 : w.cell? ⟨b, 0, none⟩ = some (.int .i64 p.side)) (c1 : w.cell? ⟨b, 1, none⟩ = some (.slice pa p.ps.length pc)) (c2 : w.cell? ⟨b, 2, none⟩ = some (.slice la p.ls.length lc)) (ci : w.cell? ⟨b2, 0, none⟩ = some (.int .i64 i)) (cj : w.cell? ⟨b3, 0, none⟩ = some (.int .i64 j)) :
    Calls Try.prog 61 #[.pointer (some ⟨b, 0, none⟩), .pointer (some ⟨b2, 0, none⟩), .pointer (some ⟨b3, 0, none⟩)] w fun e w' => e = endOf encSpan (apartR p i j) ∧ Kept w w' := by
  have HP := Lib.hid hp
  have hb := World.block_lt_of_cell? w _ c0
  have hb2 := World.block_lt_of_cell? w _ ci
  have hb3 := World.block_lt_of_cell? w _ cj
  have hck := Lib.hid (check_any p pa la (some ⟨w.heap.size + 1, 0, none⟩) pc lc 2 [i, j] ((w.alloc (.cells #[.int .i64 0, .int .i64 0] 32)).alloc (.cells #[.int .i64 i, .int .i64 j] 3)) hm hm2 (by simp) (HP.out.kept (((Kept.refl _).alloc _).alloc _)) (by
    have := intsTwo (w.alloc (.cells #[.int .i64 0, .int .i64 0] 32)) i j; rwa [World.size_alloc] at this))
  have hmf : ∀ (fn : Fn) (first cap : Array Value) (w : World), (Instr.makeFunc fn first cap).run Try.prog w = .ok (.func fn first cap) w := fun _ _ _ _ => rfl
  clear hp
  cases hc : checkR p [i, j] with
  | some n =>
    have HR : apartR p i j = .error n := by simp [apartR, hc]
    rw [HR]
    have HC := Lib.hid hc
    clear hc HR
    go_enter Try.func61, Try.ntmps61
    go_wp2_with (go_at_call 45; refine hck.out.mono ?_; rintro e w1 he; obtain ⟨hb1, rfl⟩ := he.some HC.out)
    exact ⟨rfl, rfl, Kept.step2 (Kept.refl _) hb1⟩
  | none =>
    obtain ⟨hv, hr⟩ := checkR_none hc
    have hr1 := hr i (by simp)
    have hr2 := hr j (by simp)
    obtain ⟨k, rfl⟩ := Int.eq_ofNat_of_zero_le hr1.1
    obtain ⟨k2, rfl⟩ := Int.eq_ofNat_of_zero_le hr2.1
    have hf := fit_of_valid hv
    have hn4 := hf.n4
    have hk : k < 4 := by omega
    have hk2 : k2 < 4 := by omega
    have HR : Hid (apartR p k k2 = endsR (fun x => apartI (x.1.get k) (x.1.get k2)) p) := by rw [Hid, apartR, hc]
    have HC := Lib.hid hc
    have HV := Lib.hid hv
    have HF := Lib.hid hf
    have hmt := meth110
    have hen := enter124
    clear hr hr1 hr2 hc hv hf
    go_enter Try.func61, Try.ntmps61
    go_wp2_with (go_at_call 45; refine hck.out.mono ?_; rintro e w1 he; obtain ⟨hb1, rfl⟩ := he.none HC.out
                 have hkw := Kept.step2 (Kept.refl _) hb1
                 have d0 := (hkw.cells b 0 hb).trans c0
                 have d1 := (hkw.cells b 1 hb).trans c1
                 have d2 := (hkw.cells b 2 hb).trans c2
                 have d3 := (hkw.cells b2 0 hb2).trans ci
                 have d4 := (hkw.cells b3 0 hb3).trans cj
                 have hbl := hkw.lt hb
                 have hbl2 := hkw.lt hb2
                 have hbl3 := hkw.lt hb3)
    have hkA : Kept w (w1.alloc (Obj.cells #[.int .i64 0, .int .i64 0, .bool false] 89)) := hkw.alloc _
    have hsz1 : w.heap.size ≤ w1.heap.size := Kept.size hkw
    refine (ask_any (distH w1.heap.size k k2) ⟨0, 0, false⟩ 110 _ 124 p pa la pc lc _ HF.out (HP.out.kept hkA) (dist_law _ k k2 hk hk2) (fun k hk => by cases hk; simp) (fun s W W' h hb => EndsAt.belowC h (by simp) hb)
      (HP.out.farP hsz1) (HP.out.farL hsz1) ⟨by simp, by simp [go_sem], by simp [go_sem], by simp [go_sem], by simp [go_sem], by simp [go_sem], by simp [go_sem]⟩ (fun w => meth110 _ w) enter124).mono ?_
    rintro e w2 ⟨hk2, hH2, he2⟩
    rw [distH_run] at hH2
    have kk : Kept w w2 := hk2.toKept hkA (fun i e => by cases e; exact hsz1)
    by_cases hE : truthsL p = []
    · rw [if_pos hE] at he2
      subst he2
      go_wp2
      exact ⟨rfl, by rw [HR.out, endsR, if_pos hE]; rfl, kk⟩
    · rw [if_neg hE] at he2
      subst he2
      have hlw : w.heap.size < w1.heap.size := hb1.lts _ (by simp; omega)
      have hne : ¬ (distH w1.heap.size k k2).T w.heap.size := fun e => by have e : w.heap.size = w1.heap.size := e; omega
      have HR2 : Hid (apartR p k k2 = .ok ((endsL (fun x => apartI (x.1.get k) (x.1.get k2)) (truthsL p)).lo, (endsL (fun x => apartI (x.1.get k) (x.1.get k2)) (truthsL p)).hi)) := by rw [Hid, HR.out, endsR, if_neg hE]
      generalize endsL (fun x => apartI (x.1.get k) (x.1.get k2)) (truthsL p) = s at *
      obtain ⟨l2, e0, e1, e2, _⟩ := hH2
      have d0 : w2.cell? ⟨w.heap.size, 0, none⟩ = some (.int .i64 0) := by rw [hk2.cells _ _ (by simp; omega) hne]; simp [go_sem, hb1.cells, hlw]
      have d1 : w2.cell? ⟨w.heap.size, 1, none⟩ = some (.int .i64 0) := by rw [hk2.cells _ _ (by simp; omega) hne]; simp [go_sem, hb1.cells, hlw]
      have z0 : w2.frozen? ⟨w.heap.size, 0, none⟩ = false := by rw [hk2.frozens _ _ (by simp; omega) hne]; simp [go_sem, hb1.frozens, hlw]
      have z1 : w2.frozen? ⟨w.heap.size, 1, none⟩ = false := by rw [hk2.frozens _ _ (by simp; omega) hne]; simp [go_sem, hb1.frozens, hlw]
      have HKK := Lib.hid kk
      have hlw2 := World.block_lt_of_cell? w2 _ d0
      simp only at hlw2
      clear kk hk2 hb1 hck hkA hkw
      go_wp2_with (go_at_call 54; refine (span_any s _).mono ?_; rintro e w3 ⟨rfl, hb4⟩
                   have x0 := (hb4.cells w.heap.size 0 hlw2).trans d0
                   have x1 := (hb4.cells w.heap.size 1 hlw2).trans d1
                   have y0 := (hb4.frozens w.heap.size 0 hlw2).trans z0
                   have y1 := (hb4.frozens w.heap.size 1 hlw2).trans z1)
      refine bodyPost_ret (v := .agg #[.int .i64 s.lo, .int .i64 s.hi]) (by simp [results, Try.results61, go_sem, *]) rfl ?_
      exact ⟨by rw [HR2.out]; rfl, ((HKK.out.step0 hb4).setCell (p := ⟨w.heap.size, 0, none⟩) (by simp) _).setCell (p := ⟨w.heap.size, 1, none⟩) (by simp) _⟩

set_option maxHeartbeats 4000000 in
theorem apartF_any (p : PegsD) (i j : Int) (pa la : Option Addr) (pc lc : Nat) (w : World) (hm : p.ps.length ≤ 9223372036854775807) (hm2 : p.ls.length ≤ 9223372036854775807) (hp : PegsIn w p pa la) :
    Calls Try.prog 21 #[.agg #[.int .i64 p.side, .slice pa p.ps.length pc, .slice la p.ls.length lc], .int .i64 i, .int .i64 j] w
      fun e w' => e = .returned (.tuple #[encSpan (valOf (0, 0) (apartR p i j)), .int .i64 (errOf (apartR p i j))]) ∧ Kept w w' := by
  have hmf : ∀ (fn : Fn) (first cap : Array Value) (w : World), (Instr.makeFunc fn first cap).run Try.prog w = .ok (.func fn first cap) w := fun _ _ _ _ => rfl
  have HP := Lib.hid hp
  have kW : Kept w ((((((w.alloc (Obj.cells #[.int .i64 p.side, .slice pa p.ps.length pc, .slice la p.ls.length lc] 25)).alloc (.cells #[.int .i64 i] 3)).alloc (.cells #[.int .i64 j] 3)).alloc (.cells #[.int .i64 0, .int .i64 0] 32)).alloc (.cells #[.int .i64 0, .int .i64 0] 32)).alloc (.cells #[.int .i64 0] 28)) := ((((((Kept.refl _).alloc _).alloc _).alloc _).alloc _).alloc _).alloc _
  have h1 := Lib.hid (apart1_any p i j w.heap.size (w.heap.size + 1) (w.heap.size + 1 + 1) pa la pc lc _ hm hm2 (HP.out.kept kW) (by simp [go_sem]) (by simp [go_sem]) (by simp [go_sem]) (by simp [go_sem]) (by simp [go_sem]))
  have hC := Lib.hid (told58_any 61 #[.pointer (some ⟨w.heap.size, 0, none⟩), .pointer (some ⟨w.heap.size + 1, 0, none⟩), .pointer (some ⟨w.heap.size + 1 + 1, 0, none⟩)] ((((w.alloc (Obj.cells #[.int .i64 p.side, .slice pa p.ps.length pc, .slice la p.ls.length lc] 25)).alloc (.cells #[.int .i64 i] 3)).alloc (.cells #[.int .i64 j] 3)).alloc (.cells #[.int .i64 0, .int .i64 0] 32)) (apartR p i j) enter61 h1.out)
  clear hp kW h1
  simp only [encSpan] at hC ⊢
  generalize valOf (0, 0) (apartR p i j) = g at *
  obtain ⟨lo, hi⟩ := g
  generalize errOf (apartR p i j) = n at *
  simp only at hC ⊢
  go_enter Try.func21, Try.ntmps21
  go_wp2_with (go_at_call 58; refine hC.out.mono ?_; rintro e w1 ⟨rfl, hb1⟩; have hc1 := hb1.cells; have hz1 := hb1.frozens; have hl1 := hb1.lts)
  have x0 : w1.cell? ⟨w.heap.size + 1 + 1 + 1, 0, none⟩ = some (.int .i64 0) := by rw [hc1 _ _ (by simp)]; simp [go_sem]
  have x1 : w1.cell? ⟨w.heap.size + 1 + 1 + 1, 1, none⟩ = some (.int .i64 0) := by rw [hc1 _ _ (by simp)]; simp [go_sem]
  refine bodyPost_ret (v := .tuple #[.agg #[.int .i64 lo, .int .i64 hi], .int .i64 n]) (by simp [results, Try.results21, go_sem, x0, x1]) rfl ?_
  have kk : Kept w w1 := Kept.step0 ((((Kept.refl _).alloc _).alloc _).alloc _) (Kept.off _ _ hb1)
  exact ⟨rfl, (kk.setCell (p := ⟨w.heap.size + 1 + 1 + 1, 0, none⟩) (by simp; omega) _).setCell (p := ⟨w.heap.size + 1 + 1 + 1, 1, none⟩) (by simp; omega) _⟩
end Go.Proofs.Ytkjciobphbcknaa
