/- Package peg: Area. -/
import Derived.Test.YtkjciobphbcknaaAB
namespace Go.Proofs.Ytkjciobphbcknaa
open Go.RowKit

theorem meth112 (v : Value) (w : World) : (method 282 112 v "furrowworks/peg.hear").run Try.prog w = .ok (125, v) w := by kernel_rfl
theorem enter125 : ∀ args w, (callFunc 125 args).run Try.prog w = .ok (.enter 125 args) w := enters_of Try.func125 (by kernel_rfl) rfl
theorem enter62 : ∀ args w, (callFunc 62 args).run Try.prog w = .ok (.enter 62 args) w := enters_of Try.func62 (by kernel_rfl) rfl
def areaA (i j k : Int) (x : At × Int) : Int := max (areaI (x.1.get i) (x.1.get j) (x.1.get k)) (-areaI (x.1.get i) (x.1.get j) (x.1.get k))
def areaR (p : PegsD) (a b c : Int) : Except Int (Int × Int) :=
  match checkR p [a, b, c] with
  | some n => .error n
  | none => if a = b ∨ b = c ∨ c = a then .error 2 else endsR (areaA a b c) p
theorem triH_run (B : Nat) (i j k : Int) (l : List (At × Int)) : (triH B i j k).run ⟨0, 0, false⟩ l = endsL (areaA i j k) l := (triH B i j k).run_eq l _
theorem intsThree (w : World) (i j k : Int) : IntsIn (w.alloc (.cells #[.int .i64 i, .int .i64 j, .int .i64 k] 3)) (some ⟨w.heap.size, 0, none⟩) [i, j, k] := by
  intro n x hk
  match n, hk with
  | 0, hk => simp at hk; subst hk; exact ⟨_, _, rfl, by simp, by simp [go_sem]⟩
  | 1, hk => simp at hk; subst hk; exact ⟨_, _, rfl, by simp, by simp [go_sem]⟩
  | 2, hk => simp at hk; subst hk; exact ⟨_, _, rfl, by simp, by simp [go_sem]⟩

set_option maxHeartbeats 4000000 in
theorem area1_any (p : PegsD) (i j l : Int) (b b2 b3 b4 : Nat) (pa la : Option Addr) (pc lc : Nat) (w : World) (hm : p.ps.length ≤ 9223372036854775807) (hm2 : p.ls.length ≤ 9223372036854775807) (hp : PegsIn w p pa la)
    (c0 : w.cell? ⟨b, 0, none⟩ = some (.int .i64 p.side)) (c1 : w.cell? ⟨b, 1, none⟩ = some (.slice pa p.ps.length pc)) (c2 : w.cell? ⟨b, 2, none⟩ = some (.slice la p.ls.length lc)) (ci : w.cell? ⟨b2, 0, none⟩ = some (.int .i64 i)) (cj : w.cell? ⟨b3, 0, none⟩ = some (.int .i64 j)) (cl : w.cell? ⟨b4, 0, none⟩ = some (.int .i64 l)) :
    Calls Try.prog 62 #[.pointer (some ⟨b, 0, none⟩), .pointer (some ⟨b2, 0, none⟩), .pointer (some ⟨b3, 0, none⟩), .pointer (some ⟨b4, 0, none⟩)] w fun e w' => e = endOf encSpan (areaR p i j l) ∧ Kept w w' := by
  have HP := Lib.hid hp
  have hb := World.block_lt_of_cell? w _ c0
  have hb2 := World.block_lt_of_cell? w _ ci
  have hb3 := World.block_lt_of_cell? w _ cj
  have hb4 := World.block_lt_of_cell? w _ cl
  have hck := Lib.hid (check_any p pa la (some ⟨w.heap.size + 1, 0, none⟩) pc lc 3 [i, j, l] ((w.alloc (.cells #[.int .i64 0, .int .i64 0] 32)).alloc (.cells #[.int .i64 i, .int .i64 j, .int .i64 l] 3)) hm hm2 (by simp) (HP.out.kept (((Kept.refl _).alloc _).alloc _)) (by
    have := intsThree (w.alloc (.cells #[.int .i64 0, .int .i64 0] 32)) i j l; rwa [World.size_alloc] at this))
  have hmf : ∀ (fn : Fn) (first cap : Array Value) (w : World), (Instr.makeFunc fn first cap).run Try.prog w = .ok (.func fn first cap) w := fun _ _ _ _ => rfl
  clear hp
  cases hc : checkR p [i, j, l] with
  | some n =>
    have HR : areaR p i j l = .error n := by simp [areaR, hc]
    rw [HR]
    have HC := Lib.hid hc
    clear hc HR
    go_enter Try.func62, Try.ntmps62
    go_wp2_with (go_at_call 45; refine hck.out.mono ?_; rintro e w1 he; obtain ⟨hb1, rfl⟩ := he.some HC.out)
    exact ⟨rfl, rfl, Kept.step2 (Kept.refl _) hb1⟩
  | none =>
    obtain ⟨hv, hr⟩ := checkR_none hc
    have hr1 := hr i (by simp)
    have hr2 := hr j (by simp)
    have hr3 := hr l (by simp)
    obtain ⟨k, rfl⟩ := Int.eq_ofNat_of_zero_le hr1.1
    obtain ⟨k2, rfl⟩ := Int.eq_ofNat_of_zero_le hr2.1
    obtain ⟨k3, rfl⟩ := Int.eq_ofNat_of_zero_le hr3.1
    have hf := fit_of_valid hv
    have hn4 := hf.n4
    have hk : k < 4 := by omega
    have hk2 : k2 < 4 := by omega
    have hk3 : k3 < 4 := by omega
    have HC := Lib.hid hc
    have HV := Lib.hid hv
    have HF := Lib.hid hf
    have hmt := meth112
    have hen := enter125
    clear hr hr1 hr2 hr3 hc hv hf
    by_cases hsame : (k : Int) = k2 ∨ (k2 : Int) = k3 ∨ (k3 : Int) = k
    · have HR : areaR p k k2 k3 = .error 2 := by rw [areaR, HC.out]; exact if_pos hsame
      rw [HR]
      clear HR
      by_cases h1 : (k : Int) = k2
      · have e : k = k2 := by omega
        subst e
        clear hsame h1
        go_enter Try.func62, Try.ntmps62
        go_wp2_with (go_at_call 45; refine hck.out.mono ?_; rintro e w1 he; obtain ⟨hb1, rfl⟩ := he.none HC.out
                     have hkw := Kept.step2 (Kept.refl _) hb1
                     have d3 := (hkw.cells b2 0 hb2).trans ci
                     have d4 := (hkw.cells b3 0 hb3).trans cj)
        exact ⟨rfl, rfl, Kept.step2 (Kept.refl _) hb1⟩
      · by_cases h2 : (k2 : Int) = k3
        · have e : k2 = k3 := by omega
          subst e
          clear hsame
          go_enter Try.func62, Try.ntmps62
          go_wp2_with (go_at_call 45; refine hck.out.mono ?_; rintro e w1 he; obtain ⟨hb1, rfl⟩ := he.none HC.out
                       have hkw := Kept.step2 (Kept.refl _) hb1
                       have d3 := (hkw.cells b2 0 hb2).trans ci
                       have d4 := (hkw.cells b3 0 hb3).trans cj
                       have d5 := (hkw.cells b4 0 hb4).trans cl)
          exact ⟨rfl, rfl, Kept.step2 (Kept.refl _) hb1⟩
        · have e : k3 = k := by omega
          subst e
          clear hsame
          go_enter Try.func62, Try.ntmps62
          go_wp2_with (go_at_call 45; refine hck.out.mono ?_; rintro e w1 he; obtain ⟨hb1, rfl⟩ := he.none HC.out
                       have hkw := Kept.step2 (Kept.refl _) hb1
                       have d3 := (hkw.cells b2 0 hb2).trans ci
                       have d4 := (hkw.cells b3 0 hb3).trans cj
                       have d5 := (hkw.cells b4 0 hb4).trans cl)
          exact ⟨rfl, rfl, Kept.step2 (Kept.refl _) hb1⟩
    have HR : Hid (areaR p k k2 k3 = endsR (areaA k k2 k3) p) := by rw [Hid, areaR, HC.out]; exact if_neg hsame
    have n1 : ¬ (k : Int) = k2 := fun e => hsame (.inl e)
    have n2 : ¬ (k2 : Int) = k3 := fun e => hsame (.inr (.inl e))
    have n3 : ¬ (k3 : Int) = k := fun e => hsame (.inr (.inr e))
    have m1 : ((k : Int) == (k2 : Int)) = false := beq_eq_false_iff_ne.2 n1
    have m2 : ((k2 : Int) == (k3 : Int)) = false := beq_eq_false_iff_ne.2 n2
    have m3 : ((k3 : Int) == (k : Int)) = false := beq_eq_false_iff_ne.2 n3
    clear hsame
    go_enter Try.func62, Try.ntmps62
    go_wp2_with (go_at_call 45; refine hck.out.mono ?_; rintro e w1 he; obtain ⟨hb1, rfl⟩ := he.none HC.out
                 have hkw := Kept.step2 (Kept.refl _) hb1
                 have d0 := (hkw.cells b 0 hb).trans c0
                 have d1 := (hkw.cells b 1 hb).trans c1
                 have d2 := (hkw.cells b 2 hb).trans c2
                 have d3 := (hkw.cells b2 0 hb2).trans ci
                 have d4 := (hkw.cells b3 0 hb3).trans cj
                 have d5 := (hkw.cells b4 0 hb4).trans cl
                 have hbl := hkw.lt hb
                 have hbl2 := hkw.lt hb2
                 have hbl3 := hkw.lt hb3
                 have hbl4 := hkw.lt hb4)
    have hkA : Kept w (w1.alloc (Obj.cells #[.int .i64 0, .int .i64 0, .bool false] 89)) := hkw.alloc _
    have hsz1 : w.heap.size ≤ w1.heap.size := Kept.size hkw
    refine (ask_any (triH w1.heap.size k k2 k3) ⟨0, 0, false⟩ 112 _ 125 p pa la pc lc _ HF.out (HP.out.kept hkA) (tri_law _ k k2 k3 hk hk2 hk3) (fun k hk => by cases hk; simp) (fun s W W' h hb => EndsAt.belowC h (by simp) hb)
      (HP.out.farP hsz1) (HP.out.farL hsz1) ⟨by simp, by simp [go_sem], by simp [go_sem], by simp [go_sem], by simp [go_sem], by simp [go_sem], by simp [go_sem]⟩ (fun w => meth112 _ w) enter125).mono ?_
    rintro e w2 ⟨hk2, hH2, he2⟩
    rw [triH_run] at hH2
    have kk : Kept w w2 := hk2.toKept hkA (fun i e => by cases e; exact hsz1)
    by_cases hE : truthsL p = []
    · rw [if_pos hE] at he2
      subst he2
      go_wp2
      exact ⟨rfl, by rw [HR.out, endsR, if_pos hE]; rfl, kk⟩
    · rw [if_neg hE] at he2
      subst he2
      have hlw : w.heap.size < w1.heap.size := hb1.lts _ (by simp; omega)
      have hne : ¬ (triH w1.heap.size k k2 k3).T w.heap.size := fun e => by have e : w.heap.size = w1.heap.size := e; omega
      have HR2 : Hid (areaR p k k2 k3 = .ok ((endsL (areaA k k2 k3) (truthsL p)).lo, (endsL (areaA k k2 k3) (truthsL p)).hi)) := by rw [Hid, HR.out, endsR, if_neg hE]
      generalize endsL (areaA k k2 k3) (truthsL p) = s at *
      obtain ⟨l2, e0, e1, e2, _⟩ := hH2
      have d0 : w2.cell? ⟨w.heap.size, 0, none⟩ = some (.int .i64 0) := by rw [hk2.cells _ _ (by simp; omega) hne]; simp [go_sem, hb1.cells, hlw]
      have d1 : w2.cell? ⟨w.heap.size, 1, none⟩ = some (.int .i64 0) := by rw [hk2.cells _ _ (by simp; omega) hne]; simp [go_sem, hb1.cells, hlw]
      have z0 : w2.frozen? ⟨w.heap.size, 0, none⟩ = false := by rw [hk2.frozens _ _ (by simp; omega) hne]; simp [go_sem, hb1.frozens, hlw]
      have z1 : w2.frozen? ⟨w.heap.size, 1, none⟩ = false := by rw [hk2.frozens _ _ (by simp; omega) hne]; simp [go_sem, hb1.frozens, hlw]
      have HKK := Lib.hid kk
      have hlw2 := World.block_lt_of_cell? w2 _ d0
      simp only at hlw2
      clear kk hk2 hb1 hck hkA hkw
      go_wp2_with (go_at_call 54; refine (span_any s _).mono ?_; rintro e w3 ⟨rfl, hb5⟩
                   have x0 := (hb5.cells w.heap.size 0 hlw2).trans d0
                   have x1 := (hb5.cells w.heap.size 1 hlw2).trans d1
                   have y0 := (hb5.frozens w.heap.size 0 hlw2).trans z0
                   have y1 := (hb5.frozens w.heap.size 1 hlw2).trans z1)
      refine bodyPost_ret (v := .agg #[.int .i64 s.lo, .int .i64 s.hi]) (by simp [results, Try.results62, go_sem, *]) rfl ?_
      exact ⟨by rw [HR2.out]; rfl, ((HKK.out.step0 hb5).setCell (p := ⟨w.heap.size, 0, none⟩) (by simp) _).setCell (p := ⟨w.heap.size, 1, none⟩) (by simp) _⟩

set_option maxHeartbeats 4000000 in
theorem areaF_any (p : PegsD) (i j k : Int) (pa la : Option Addr) (pc lc : Nat) (w : World) (hm : p.ps.length ≤ 9223372036854775807) (hm2 : p.ls.length ≤ 9223372036854775807) (hp : PegsIn w p pa la) :
    Calls Try.prog 23 #[.agg #[.int .i64 p.side, .slice pa p.ps.length pc, .slice la p.ls.length lc], .int .i64 i, .int .i64 j, .int .i64 k] w
      fun e w' => e = .returned (.tuple #[encSpan (valOf (0, 0) (areaR p i j k)), .int .i64 (errOf (areaR p i j k))]) ∧ Kept w w' := by
  have hmf : ∀ (fn : Fn) (first cap : Array Value) (w : World), (Instr.makeFunc fn first cap).run Try.prog w = .ok (.func fn first cap) w := fun _ _ _ _ => rfl
  have HP := Lib.hid hp
  have kW : Kept w (((((((w.alloc (Obj.cells #[.int .i64 p.side, .slice pa p.ps.length pc, .slice la p.ls.length lc] 25)).alloc (.cells #[.int .i64 i] 3)).alloc (.cells #[.int .i64 j] 3)).alloc (.cells #[.int .i64 k] 3)).alloc (.cells #[.int .i64 0, .int .i64 0] 32)).alloc (.cells #[.int .i64 0, .int .i64 0] 32)).alloc (.cells #[.int .i64 0] 28)) := (((((((Kept.refl _).alloc _).alloc _).alloc _).alloc _).alloc _).alloc _).alloc _
  have h1 := Lib.hid (area1_any p i j k w.heap.size (w.heap.size + 1) (w.heap.size + 1 + 1) (w.heap.size + 1 + 1 + 1) pa la pc lc _ hm hm2 (HP.out.kept kW) (by simp [go_sem]) (by simp [go_sem]) (by simp [go_sem]) (by simp [go_sem]) (by simp [go_sem]) (by simp [go_sem]))
  have hC := Lib.hid (told58_any 62 #[.pointer (some ⟨w.heap.size, 0, none⟩), .pointer (some ⟨w.heap.size + 1, 0, none⟩), .pointer (some ⟨w.heap.size + 1 + 1, 0, none⟩), .pointer (some ⟨w.heap.size + 1 + 1 + 1, 0, none⟩)] (((((w.alloc (Obj.cells #[.int .i64 p.side, .slice pa p.ps.length pc, .slice la p.ls.length lc] 25)).alloc (.cells #[.int .i64 i] 3)).alloc (.cells #[.int .i64 j] 3)).alloc (.cells #[.int .i64 k] 3)).alloc (.cells #[.int .i64 0, .int .i64 0] 32)) (areaR p i j k) enter62 h1.out)
  clear hp kW h1
  simp only [encSpan] at hC ⊢
  generalize valOf (0, 0) (areaR p i j k) = g at *
  obtain ⟨lo, hi⟩ := g
  generalize errOf (areaR p i j k) = n at *
  simp only at hC ⊢
  go_enter Try.func23, Try.ntmps23
  go_wp2_with (go_at_call 58; refine hC.out.mono ?_; rintro e w1 ⟨rfl, hb1⟩; have hc1 := hb1.cells; have hz1 := hb1.frozens; have hl1 := hb1.lts)
  have x0 : w1.cell? ⟨w.heap.size + 1 + 1 + 1 + 1, 0, none⟩ = some (.int .i64 0) := by rw [hc1 _ _ (by simp)]; simp [go_sem]
  have x1 : w1.cell? ⟨w.heap.size + 1 + 1 + 1 + 1, 1, none⟩ = some (.int .i64 0) := by rw [hc1 _ _ (by simp)]; simp [go_sem]
  refine bodyPost_ret (v := .tuple #[.agg #[.int .i64 lo, .int .i64 hi], .int .i64 n]) (by simp [results, Try.results23, go_sem, x0, x1]) rfl ?_
  have kk : Kept w w1 := Kept.step0 (((((Kept.refl _).alloc _).alloc _).alloc _).alloc _) (Kept.off _ _ hb1)
  exact ⟨rfl, (kk.setCell (p := ⟨w.heap.size + 1 + 1 + 1 + 1, 0, none⟩) (by simp; omega) _).setCell (p := ⟨w.heap.size + 1 + 1 + 1 + 1, 1, none⟩) (by simp; omega) _⟩
end Go.Proofs.Ytkjciobphbcknaa
