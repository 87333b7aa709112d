/- Package peg: Where, as it is called. -/
import Derived.Test.YtkjciobphbcknaaAD
namespace Go.Proofs.Ytkjciobphbcknaa
open Go.RowKit Go.Maps

theorem enter51 : ∀ args w, (callFunc 51 args).run Try.prog w = .ok (.enter 51 args) w := enters_of Try.func51 (by kernel_rfl) rfl
def spanOf (s : EndsD) : Int × Int := (s.lo, s.hi)
/-- What Where tells. -/
def whereR (p : PegsD) (i : Int) : Except Int ((Int × Int) × (Int × Int)) :=
  match checkR p [i] with
  | some n => .error n
  | none => if truthsL p = [] then .error 10 else .ok (spanOf (endsOn Pl.x (standL i.toNat (truthsL p))), spanOf (endsOn Pl.y (standL i.toNat (truthsL p))))

theorem EndsAt.keptT {T : Nat → Prop} {b : Nat} {s : EndsD} {W W' : World} (h : EndsAt b s W) (k : KeptT T W W') (hn : ¬ T b) : EndsAt b s W' := by
  obtain ⟨l, c0, c1, c2, f0, f1, f2⟩ := h
  exact ⟨Nat.lt_of_lt_of_le l k.size, (k.cells _ _ l hn).trans c0, (k.cells _ _ l hn).trans c1, (k.cells _ _ l hn).trans c2, (k.frozens _ _ l hn).trans f0, (k.frozens _ _ l hn).trans f1, (k.frozens _ _ l hn).trans f2⟩

set_option maxRecDepth 100000 in
set_option maxHeartbeats 8000000 in
theorem where1_any (p : PegsD) (i : Int) (b b2 : Nat) (pa la : Option Addr) (pc lc : Nat) (w : World) (hm : p.ps.length ≤ 9223372036854775807) (hm2 : p.ls.length ≤ 9223372036854775807) (hp : PegsIn w p pa la)
    (c0 : w.cell? ⟨b, 0, none⟩ = some (.int .i64 p.side)) (c1 : w.cell? ⟨b, 1, none⟩ = some (.slice pa p.ps.length pc)) (c2 : w.cell? ⟨b, 2, none⟩ = some (.slice la p.ls.length lc)) (ci : w.cell? ⟨b2, 0, none⟩ = some (.int .i64 i)) :
    Calls Try.prog 51 #[.pointer (some ⟨b, 0, none⟩), .pointer (some ⟨b2, 0, none⟩)] w fun e w' => e = endOf encTwo (whereR p i) ∧ Kept w w' := by
  have HP := Lib.hid hp
  have hb := World.block_lt_of_cell? w _ c0
  have hb2 := World.block_lt_of_cell? w _ ci
  have hck := Lib.hid (check_any p pa la (some ⟨w.heap.size + 1, 0, none⟩) pc lc 1 [i] ((w.alloc (.cells #[.int .i64 0, .int .i64 0, .int .i64 0, .int .i64 0] 85)).alloc (.cells #[.int .i64 i] 3)) hm hm2 (by simp) (HP.out.kept (((Kept.refl _).alloc _).alloc _)) (by
    have := intsOne (w.alloc (.cells #[.int .i64 0, .int .i64 0, .int .i64 0, .int .i64 0] 85)) i; rwa [World.size_alloc] at this))
  clear hp
  cases hc : checkR p [i] with
  | some n =>
    have HR : whereR p i = .error n := by simp [whereR, hc]
    rw [HR]
    have HC := Lib.hid hc
    clear hc HR
    go_enter Try.func51, Try.ntmps51
    go_wp2_with (go_at_call 45; refine hck.out.mono ?_; rintro e w1 he; obtain ⟨hb1, rfl⟩ := he.some HC.out)
    exact ⟨rfl, rfl, Kept.step2 (Kept.refl _) hb1⟩
  | none =>
    obtain ⟨hv, hr⟩ := checkR_none hc
    have hr := hr i (by simp)
    obtain ⟨k, rfl⟩ := Int.eq_ofNat_of_zero_le hr.1
    have hk : k < p.ps.length := by omega
    have HC := Lib.hid hc
    have HV := Lib.hid hv
    clear hr hc hv
    have hlen := fun w1 (hb1 : Kept w w1) => Lib.hid (stands_any p k pa la pc lc w1 HV.out hk (HP.out.kept hb1))
    by_cases hE : truthsL p = []
    · have HR : whereR p k = .error 10 := by simp only [whereR, HC.out, hE]; rfl
      rw [HR]
      have HE := Lib.hid hE
      clear hE HR
      go_enter Try.func51, Try.ntmps51
      go_wp2_with (first
        | (go_at_call 45; refine hck.out.mono ?_; rintro e w1 he; obtain ⟨hb1, rfl⟩ := he.none HC.out
           have hkw := Kept.step2 (Kept.refl _) hb1
           have d0 := (hkw.cells b 0 hb).trans c0
           have d1 := (hkw.cells b 1 hb).trans c1
           have d2 := (hkw.cells b 2 hb).trans c2
           have d3 := (hkw.cells b2 0 hb2).trans ci
           have hbl := hkw.lt hb
           have hbl2 := hkw.lt hb2)
        | (go_at_call 52; refine (hlen _ ((hkw.alloc _).alloc _)).out.mono ?_; rintro e w2 ⟨hk2, he2⟩; rw [if_pos HE.out] at he2; subst he2))
      exact ⟨rfl, rfl, Kept.step0 ((hkw.alloc _).alloc _) hk2⟩
    · have HR : Hid (whereR p k = .ok (spanOf (endsOn Pl.x (standL k (truthsL p))), spanOf (endsOn Pl.y (standL k (truthsL p))))) := by rw [Hid]; simp only [whereR, HC.out, if_neg hE]; rfl
      have HE := Lib.hid hE
      clear hE
      generalize hL : standL k (truthsL p) = L at *
      clear hL
      go_enter Try.func51, Try.ntmps51
      go_wp2_with (first
        | (go_at_call 45; refine hck.out.mono ?_; rintro e w1 he; obtain ⟨hb1, rfl⟩ := he.none HC.out
           have hkw := Kept.step2 (Kept.refl _) hb1
           have d0 := (hkw.cells b 0 hb).trans c0
           have d1 := (hkw.cells b 1 hb).trans c1
           have d2 := (hkw.cells b 2 hb).trans c2
           have d3 := (hkw.cells b2 0 hb2).trans ci
           have hbl := hkw.lt hb
           have hbl2 := hkw.lt hb2)
        | (go_at_call 52; refine (hlen _ ((hkw.alloc _).alloc _)).out.mono ?_; rintro e w2 ⟨hk2, he2⟩; rw [if_neg HE.out] at he2; obtain ⟨B, rfl, hS, hB⟩ := he2; obtain ⟨w3, hrun3, hR3, hk3, hsz3⟩ := range_start hS))
      have hkA := (hkw.alloc (Obj.cells #[.int .i64 0, .int .i64 0, .bool false] 89)).alloc (Obj.cells #[.int .i64 0, .int .i64 0, .bool false] 89)
      have hx3 : EndsAt w1.heap.size ⟨0, 0, false⟩ w3 := by
        have h : EndsAt w1.heap.size ⟨0, 0, false⟩ ((w1.alloc (Obj.cells #[.int .i64 0, .int .i64 0, .bool false] 89)).alloc (Obj.cells #[.int .i64 0, .int .i64 0, .bool false] 89)) := ⟨by simp; omega, by simp [go_sem], by simp [go_sem], by simp [go_sem], by simp [go_sem], by simp [go_sem], by simp [go_sem]⟩
        exact (h.belowC (by simp; omega) hk2).belowC (C := w2.heap.size) (by have := Kept.size hk2; simp at this; omega) hk3
      have hy3 : EndsAt (w1.heap.size + 1) ⟨0, 0, false⟩ w3 := by
        have h : EndsAt (w1.heap.size + 1) ⟨0, 0, false⟩ ((w1.alloc (Obj.cells #[.int .i64 0, .int .i64 0, .bool false] 89)).alloc (Obj.cells #[.int .i64 0, .int .i64 0, .bool false] 89)) := ⟨by simp, by simp [go_sem], by simp [go_sem], by simp [go_sem], by simp [go_sem], by simp [go_sem], by simp [go_sem]⟩
        exact (h.belowC (by simp) hk2).belowC (C := w2.heap.size) (by have := Kept.size hk2; simp at this; omega) hk3
      have hsz2 := Kept.size hk2
      simp only [World.size_alloc] at hsz2 hB
      have hkw3 := Kept.step0 (Kept.step0 hkA hk2) hk3
      have hrB : w2.heap.size ≠ B := by
        have := hS.lt; omega
      have HX := Lib.hid hx3
      have HY := Lib.hid hy3
      have HR3 := Lib.hid hR3
      have HK := Lib.hid hkw3
      have hw1 : w.heap.size < w1.heap.size := hb1.lts _ (by simp; omega)
      have r0 : w3.cell? ⟨w.heap.size, 0, none⟩ = some (.int .i64 0) ∧ w3.cell? ⟨w.heap.size, 1, none⟩ = some (.int .i64 0) ∧ w3.cell? ⟨w.heap.size, 2, none⟩ = some (.int .i64 0) ∧ w3.cell? ⟨w.heap.size, 3, none⟩ = some (.int .i64 0) := by
        refine ⟨?_, ?_, ?_, ?_⟩ <;> (rw [hk3.cells _ _ (by omega), hk2.cells _ _ (by simp; omega)]; simp [go_sem, hb1.cells, hw1])
      have z0 : w3.frozen? ⟨w.heap.size, 0, none⟩ = false ∧ w3.frozen? ⟨w.heap.size, 1, none⟩ = false ∧ w3.frozen? ⟨w.heap.size, 2, none⟩ = false ∧ w3.frozen? ⟨w.heap.size, 3, none⟩ = false := by
        refine ⟨?_, ?_, ?_, ?_⟩ <;> (rw [hk3.frozens _ _ (by omega), hk2.frozens _ _ (by simp; omega)]; simp [go_sem, hb1.frozens, hw1])
      have HR0 := Lib.hid r0
      have HZ0 := Lib.hid z0
      clear hx3 hy3 hR3 hkw3 hS hrun3 hk3 hk2 hb1 hkw hkA d0 d1 d2 d3 hbl hbl2 hck hlen r0 z0
      generalize hbx : w1.heap.size = bx at *
      generalize hrr : w2.heap.size = r at *
      clear hbx hrr
      go_loopw [] (fun wr => ∃ seen, RangeAt B r L seen wr ∧ EndsAt bx (endsOn Pl.x seen) wr ∧ EndsAt (bx + 1) (endsOn Pl.y seen) wr ∧ KeptT (fun q => q = bx ∨ q = bx + 1 ∨ q = r) w3 wr) (fun wr => wr.rangeLeft B r)
      case atStart => exact ⟨[], HR3.out, HX.out, HY.out, KeptT.refl _⟩
      case round =>
        obtain ⟨seen, hR, hx, hy, hkT⟩ := hrel
        have HKT := Lib.hid hkT
        rcases range_next hR 0 with ⟨hall, hrun⟩ | ⟨s, v, w4, hs, hrun, hR4, hlt4, hk4, hsz4, hen⟩
        · have hsub : ∀ s ∈ seen, s ∈ L := by obtain ⟨D, left, cnt, n, _, h1, _⟩ := hR; exact h1
          have ex : endsOn Pl.x seen = endsOn Pl.x L := endsOn_same _ hsub hall
          have ey : endsOn Pl.y seen = endsOn Pl.y L := endsOn_same _ hsub hall
          rw [ex] at hx
          rw [ey] at hy
          clear hall hsub ex ey hR hkT
          have hlr : w.heap.size < wr.heap.size := by have := hx.1; omega
          have nr : ¬ (w.heap.size = bx ∨ w.heap.size = bx + 1 ∨ w.heap.size = r) := by omega
          have hl3 : w.heap.size < w3.heap.size := World.block_lt_of_cell? w3 _ HR0.out.1
          have e0 := (HKT.out.cells w.heap.size 0 hl3 nr).trans HR0.out.1
          have e1 := (HKT.out.cells w.heap.size 1 hl3 nr).trans HR0.out.2.1
          have e2 := (HKT.out.cells w.heap.size 2 hl3 nr).trans HR0.out.2.2.1
          have e3 := (HKT.out.cells w.heap.size 3 hl3 nr).trans HR0.out.2.2.2
          have y0 := (HKT.out.frozens w.heap.size 0 hl3 nr).trans HZ0.out.1
          have y1 := (HKT.out.frozens w.heap.size 1 hl3 nr).trans HZ0.out.2.1
          have y2 := (HKT.out.frozens w.heap.size 2 hl3 nr).trans HZ0.out.2.2.1
          have y3 := (HKT.out.frozens w.heap.size 3 hl3 nr).trans HZ0.out.2.2.2
          have kkr : Kept w wr := HKT.out.toKept HK.out (fun i e => by omega)
          obtain ⟨lx, a0, a1, a2, _⟩ := hx
          obtain ⟨ly, b0, b1, b2, _⟩ := hy
          have HKR := Lib.hid kkr
          generalize endsOn Pl.x L = sx at *
          generalize endsOn Pl.y L = sy at *
          clear hl3 nr kkr
          go_wp2
          have HS : ∀ w', Kept wr w' → (w'.cell? ⟨bx, 0, none⟩ = some (.int .i64 sx.lo) ∧ w'.cell? ⟨bx, 1, none⟩ = some (.int .i64 sx.hi) ∧ w'.cell? ⟨bx, 2, none⟩ = some (.bool sx.some) ∧
              w'.cell? ⟨bx + 1, 0, none⟩ = some (.int .i64 sy.lo) ∧ w'.cell? ⟨bx + 1, 1, none⟩ = some (.int .i64 sy.hi) ∧ w'.cell? ⟨bx + 1, 2, none⟩ = some (.bool sy.some) ∧
              w'.cell? ⟨w.heap.size, 0, none⟩ = some (cellOf w' w.heap.size 0) ∧ w'.cell? ⟨w.heap.size, 1, none⟩ = some (cellOf w' w.heap.size 1) ∧ w'.cell? ⟨w.heap.size, 2, none⟩ = some (cellOf w' w.heap.size 2) ∧ w'.cell? ⟨w.heap.size, 3, none⟩ = some (cellOf w' w.heap.size 3) ∧
              w'.frozen? ⟨w.heap.size, 0, none⟩ = false ∧ w'.frozen? ⟨w.heap.size, 1, none⟩ = false ∧ w'.frozen? ⟨w.heap.size, 2, none⟩ = false ∧ w'.frozen? ⟨w.heap.size, 3, none⟩ = false) := fun w' k =>
            ⟨(k.cells bx 0 lx).trans a0, (k.cells bx 1 lx).trans a1, (k.cells bx 2 lx).trans a2, (k.cells (bx + 1) 0 ly).trans b0, (k.cells (bx + 1) 1 ly).trans b1, (k.cells (bx + 1) 2 ly).trans b2,
             cellOf_some ((k.cells w.heap.size 0 hlr).trans e0), cellOf_some ((k.cells w.heap.size 1 hlr).trans e1), cellOf_some ((k.cells w.heap.size 2 hlr).trans e2), cellOf_some ((k.cells w.heap.size 3 hlr).trans e3),
             (k.frozens w.heap.size 0 hlr).trans y0, (k.frozens w.heap.size 1 hlr).trans y1, (k.frozens w.heap.size 2 hlr).trans y2, (k.frozens w.heap.size 3 hlr).trans y3⟩
          have HS2 := Lib.hid HS
          have HS3 : Hid (∀ w5, Kept wr w5 → ∀ w', w' = (((w5.setCell ⟨w.heap.size, 0, none⟩ (.int .i64 sx.lo)).setCell ⟨w.heap.size, 1, none⟩ (.int .i64 sx.hi)).setCell ⟨w.heap.size, 2, none⟩ (.int .i64 sy.lo)).setCell ⟨w.heap.size, 3, none⟩ (.int .i64 sy.hi) → (w'.cell? ⟨bx, 0, none⟩ = some (.int .i64 sx.lo) ∧ w'.cell? ⟨bx, 1, none⟩ = some (.int .i64 sx.hi) ∧ w'.cell? ⟨bx, 2, none⟩ = some (.bool sx.some) ∧
              w'.cell? ⟨bx + 1, 0, none⟩ = some (.int .i64 sy.lo) ∧ w'.cell? ⟨bx + 1, 1, none⟩ = some (.int .i64 sy.hi) ∧ w'.cell? ⟨bx + 1, 2, none⟩ = some (.bool sy.some) ∧
              w'.cell? ⟨w.heap.size, 0, none⟩ = some (cellOf w' w.heap.size 0) ∧ w'.cell? ⟨w.heap.size, 1, none⟩ = some (cellOf w' w.heap.size 1) ∧ w'.cell? ⟨w.heap.size, 2, none⟩ = some (cellOf w' w.heap.size 2) ∧ w'.cell? ⟨w.heap.size, 3, none⟩ = some (cellOf w' w.heap.size 3) ∧
              w'.frozen? ⟨w.heap.size, 0, none⟩ = false ∧ w'.frozen? ⟨w.heap.size, 1, none⟩ = false ∧ w'.frozen? ⟨w.heap.size, 2, none⟩ = false ∧ w'.frozen? ⟨w.heap.size, 3, none⟩ = false)) := by
            intro w5 k w' hw'
            have f0 := (k.cells w.heap.size 0 hlr).trans e0
            have f1 := (k.cells w.heap.size 1 hlr).trans e1
            have f2 := (k.cells w.heap.size 2 hlr).trans e2
            have f3 := (k.cells w.heap.size 3 hlr).trans e3
            obtain ⟨q1, q2, q3, q4, q5, q6, _, _, _, _, q7, q8, q9, q10⟩ := HS2.out w5 k
            have n1 : w.heap.size ≠ bx := by omega
            have n2 : w.heap.size ≠ bx + 1 := by omega
            have kT : KeptT (fun q => q = w.heap.size) w5 w' := by
              rw [hw']; exact (((keptT_setCell _ _ _ _).trans (keptT_setCell _ _ _ _)).trans (keptT_setCell _ _ _ _)).trans (keptT_setCell _ _ _ _)
            have l5 : bx + 1 < w5.heap.size := World.block_lt_of_cell? w5 _ q4
            refine ⟨(kT.cells _ _ (by omega) (fun e => n1 e.symm)).trans q1, (kT.cells _ _ (by omega) (fun e => n1 e.symm)).trans q2, (kT.cells _ _ (by omega) (fun e => n1 e.symm)).trans q3, (kT.cells _ _ (by omega) (fun e => n2 e.symm)).trans q4, (kT.cells _ _ (by omega) (fun e => n2 e.symm)).trans q5, (kT.cells _ _ (by omega) (fun e => n2 e.symm)).trans q6, ?_⟩
            refine ⟨cellOf_some (v := .int .i64 sx.lo) ?_, cellOf_some (v := .int .i64 sx.hi) ?_, cellOf_some (v := .int .i64 sy.lo) ?_, cellOf_some (v := .int .i64 sy.hi) ?_, ?_, ?_, ?_, ?_⟩ <;> rw [hw'] <;> simp [go_sem, f0, f1, f2, f3, q7, q8, q9, q10]
          clear HS
          go_region_held3 (fun w' => w'.cell? ⟨bx, 0, none⟩ = some (.int .i64 sx.lo) ∧ w'.cell? ⟨bx, 1, none⟩ = some (.int .i64 sx.hi) ∧ w'.cell? ⟨bx, 2, none⟩ = some (.bool sx.some) ∧
              w'.cell? ⟨bx + 1, 0, none⟩ = some (.int .i64 sy.lo) ∧ w'.cell? ⟨bx + 1, 1, none⟩ = some (.int .i64 sy.hi) ∧ w'.cell? ⟨bx + 1, 2, none⟩ = some (.bool sy.some) ∧
              w'.cell? ⟨w.heap.size, 0, none⟩ = some (cellOf w' w.heap.size 0) ∧ w'.cell? ⟨w.heap.size, 1, none⟩ = some (cellOf w' w.heap.size 1) ∧ w'.cell? ⟨w.heap.size, 2, none⟩ = some (cellOf w' w.heap.size 2) ∧ w'.cell? ⟨w.heap.size, 3, none⟩ = some (cellOf w' w.heap.size 3) ∧
              w'.frozen? ⟨w.heap.size, 0, none⟩ = false ∧ w'.frozen? ⟨w.heap.size, 1, none⟩ = false ∧ w'.frozen? ⟨w.heap.size, 2, none⟩ = false ∧ w'.frozen? ⟨w.heap.size, 3, none⟩ = false)
            (first
              | assumption
              | exact HS2.out _ (Kept.step0 (Kept.step0 (Kept.refl _).drew hb5) hb6)
              | exact HS2.out _ (Kept.step0 (Kept.refl _).drew hb5)
              | exact HS2.out _ (Kept.refl _).drew
              | exact HS3.out _ (Kept.step0 (Kept.step0 (Kept.refl _).drew hb5) hb6) _ rfl)
            (first
              | (go_at_call 54; refine (span_any sx _).mono ?_; rintro e w5 ⟨rfl, hb5⟩)
              | (go_at_call 54; refine (span_any sy _).mono ?_; rintro e w6 ⟨rfl, hb6⟩))
          have f0 := (Kept.cells (Kept.step0 (Kept.step0 (Kept.refl _).drew hb5) hb6) w.heap.size 0 hlr).trans e0
          have f1 := (Kept.cells (Kept.step0 (Kept.step0 (Kept.refl _).drew hb5) hb6) w.heap.size 1 hlr).trans e1
          have f2 := (Kept.cells (Kept.step0 (Kept.step0 (Kept.refl _).drew hb5) hb6) w.heap.size 2 hlr).trans e2
          have f3 := (Kept.cells (Kept.step0 (Kept.step0 (Kept.refl _).drew hb5) hb6) w.heap.size 3 hlr).trans e3
          have kF := Lib.hid (Kept.step0 (Kept.step0 HKR.out.drew hb5) hb6)
          rename_i hh
          clear hh
          go_wp2
          refine bodyPost_ret (v := .agg #[.int .i64 sx.lo, .int .i64 sx.hi, .int .i64 sy.lo, .int .i64 sy.hi]) (by simp [results, Try.results51, go_sem, f0, f1, f2, f3]) rfl ?_
          exact ⟨by rw [HR.out]; rfl, (((kF.out.setCell (p := ⟨w.heap.size, 0, none⟩) (by simp) _).setCell (p := ⟨w.heap.size, 1, none⟩) (by simp) _).setCell (p := ⟨w.heap.size, 2, none⟩) (by simp) _).setCell (p := ⟨w.heap.size, 3, none⟩) (by simp) _⟩
        · have hx4 := Lib.hid ((hx.keptT hk4 (by omega)).belowC (C := w4.heap.size) (by have := hx.1; omega) ((Below.refl _ _).alloc (Nat.le_refl _) (Obj.cells #[.int .i64 s.x, .int .i64 s.y] 93)))
          have hy4 := Lib.hid ((hy.keptT hk4 (by omega)).belowC (C := w4.heap.size) (by have := hy.1; omega) ((Below.refl _ _).alloc (Nat.le_refl _) (Obj.cells #[.int .i64 s.x, .int .i64 s.y] 93)))
          have hbw : bx + 1 < w4.heap.size := by have := hy.1; omega
          have HR4 := Lib.hid hR4
          clear hx hy hR hR4 hkT hs
          go_wp2_with (first
            | (go_at_call 53; refine (add_any (bx + 1) _ s.y _ (hy4.out.keptT hk6 (by omega))).mono ?_; rintro e w7 ⟨rfl, hy7, hk7⟩)
            | (go_at_call 53; refine (add_any bx _ s.x _ hx4.out).mono ?_; rintro e w6 ⟨rfl, hx6, hk6⟩; have hc6 := hk6.cells wr.heap.size 1 (by simp [hsz4]) (by omega)))
          have k67 : KeptT (fun q => q = bx ∨ q = bx + 1) w4 w7 := ((Kept.toT ((Kept.refl w4).alloc (Obj.cells #[.int .i64 s.x, .int .i64 s.y] 93)) _).trans (hk6.imp (fun q e => .inl e))).trans (hk7.imp (fun q e => .inr e))
          obtain ⟨hR7, hl7⟩ := HR4.out.keptT k67 (by omega) (by omega)
          have hx7 := hx6.keptT hk7 (by omega)
          clear hx6
          go_roundw
          case rel =>
            refine ⟨seen ++ [s], hR7, by rw [endsOn_snoc]; exact hx7, by rw [endsOn_snoc]; exact hy7, HKT.out.trans ((hk4.imp (fun q e => .inr (.inr e))).trans (k67.imp (fun q e => by omega)))⟩
          case measure => omega
end Go.Proofs.Ytkjciobphbcknaa
namespace Go.Proofs.Ytkjciobphbcknaa
open Go.RowKit

set_option maxHeartbeats 4000000 in
theorem where_any (p : PegsD) (i : Int) (pa la : Option Addr) (pc lc : Nat) (w : World) (hm : p.ps.length ≤ 9223372036854775807) (hm2 : p.ls.length ≤ 9223372036854775807) (hp : PegsIn w p pa la) :
    Calls Try.prog 15 #[.agg #[.int .i64 p.side, .slice pa p.ps.length pc, .slice la p.ls.length lc], .int .i64 i] w
      fun e w' => e = .returned (.tuple #[encSpan (valOf ((0, 0), (0, 0)) (whereR p i)).1, encSpan (valOf ((0, 0), (0, 0)) (whereR p i)).2, .int .i64 (errOf (whereR p i))]) ∧ Kept w w' := by
  have hmf : ∀ (fn : Fn) (first cap : Array Value) (w : World), (Instr.makeFunc fn first cap).run Try.prog w = .ok (.func fn first cap) w := fun _ _ _ _ => rfl
  have HP := Lib.hid hp
  have kW : Kept w ((((((w.alloc (Obj.cells #[.int .i64 p.side, .slice pa p.ps.length pc, .slice la p.ls.length lc] 25)).alloc (.cells #[.int .i64 i] 3)).alloc (.cells #[.int .i64 0, .int .i64 0] 32)).alloc (.cells #[.int .i64 0, .int .i64 0] 32)).alloc (.cells #[.int .i64 0, .int .i64 0, .int .i64 0, .int .i64 0] 85)).alloc (.cells #[.int .i64 0] 28)) := ((((((Kept.refl _).alloc _).alloc _).alloc _).alloc _).alloc _).alloc _
  have h1 := Lib.hid (where1_any p i w.heap.size (w.heap.size + 1) pa la pc lc _ hm hm2 (HP.out.kept kW) (by simp [go_sem]) (by simp [go_sem]) (by simp [go_sem]) (by simp [go_sem]))
  have hC := Lib.hid (told50_any 51 #[.pointer (some ⟨w.heap.size, 0, none⟩), .pointer (some ⟨w.heap.size + 1, 0, none⟩)] ((((w.alloc (Obj.cells #[.int .i64 p.side, .slice pa p.ps.length pc, .slice la p.ls.length lc] 25)).alloc (.cells #[.int .i64 i] 3)).alloc (.cells #[.int .i64 0, .int .i64 0] 32)).alloc (.cells #[.int .i64 0, .int .i64 0] 32)) (whereR p i) enter51 h1.out)
  clear hp kW h1
  simp only [encTwo, encSpan] at hC ⊢
  generalize valOf ((0, 0), (0, 0)) (whereR p i) = g at *
  obtain ⟨⟨lo, hi⟩, lo2, hi2⟩ := g
  generalize errOf (whereR p i) = n at *
  simp only at hC ⊢
  go_enter Try.func15, Try.ntmps15
  go_wp2_with (go_at_call 50; refine hC.out.mono ?_; rintro e w1 ⟨rfl, hb1⟩
               have hl1 := hb1.lts (w.heap.size + 1 + 1 + 1) (by simp)
               have hl2 := hb1.lts (w.heap.size + 1 + 1) (by simp)
               have x0 : w1.cell? ⟨w.heap.size + 1 + 1, 0, none⟩ = some (.int .i64 0) := by rw [hb1.cells _ _ (by simp)]; simp [go_sem]
               have x1 : w1.cell? ⟨w.heap.size + 1 + 1, 1, none⟩ = some (.int .i64 0) := by rw [hb1.cells _ _ (by simp)]; simp [go_sem]
               have x2 : w1.cell? ⟨w.heap.size + 1 + 1 + 1, 0, none⟩ = some (.int .i64 0) := by rw [hb1.cells _ _ (by simp)]; simp [go_sem]
               have x3 : w1.cell? ⟨w.heap.size + 1 + 1 + 1, 1, none⟩ = some (.int .i64 0) := by rw [hb1.cells _ _ (by simp)]; simp [go_sem]
               have y0 : w1.frozen? ⟨w.heap.size + 1 + 1, 0, none⟩ = false := by rw [hb1.frozens _ _ (by simp)]; simp [go_sem]
               have y1 : w1.frozen? ⟨w.heap.size + 1 + 1, 1, none⟩ = false := by rw [hb1.frozens _ _ (by simp)]; simp [go_sem]
               have y2 : w1.frozen? ⟨w.heap.size + 1 + 1 + 1, 0, none⟩ = false := by rw [hb1.frozens _ _ (by simp)]; simp [go_sem]
               have y3 : w1.frozen? ⟨w.heap.size + 1 + 1 + 1, 1, none⟩ = false := by rw [hb1.frozens _ _ (by simp)]; simp [go_sem])
  have hcc : ∀ (o : Obj), True := fun _ => trivial
  generalize hW5 : (w1.alloc (Obj.cells #[.int .i64 lo, .int .i64 hi, .int .i64 lo2, .int .i64 hi2] 85)) = W5 at *
  have hkw : Kept w W5 := by rw [← hW5]; exact (Kept.step0 ((((Kept.refl _).alloc _).alloc _).alloc _) (Kept.off _ _ hb1)).alloc _
  have f0 : W5.cell? ⟨w.heap.size + 1 + 1, 0, none⟩ = some (.int .i64 0) := by rw [← hW5]; simp [go_sem, x0, hl2]
  have f1 : W5.cell? ⟨w.heap.size + 1 + 1, 1, none⟩ = some (.int .i64 0) := by rw [← hW5]; simp [go_sem, x1, hl2]
  have f2 : W5.cell? ⟨w.heap.size + 1 + 1 + 1, 0, none⟩ = some (.int .i64 0) := by rw [← hW5]; simp [go_sem, x2, hl1]
  have f3 : W5.cell? ⟨w.heap.size + 1 + 1 + 1, 1, none⟩ = some (.int .i64 0) := by rw [← hW5]; simp [go_sem, x3, hl1]
  have g0 : W5.frozen? ⟨w.heap.size + 1 + 1, 0, none⟩ = false := by rw [← hW5]; simp [go_sem, y0, hl2]
  have g1 : W5.frozen? ⟨w.heap.size + 1 + 1, 1, none⟩ = false := by rw [← hW5]; simp [go_sem, y1, hl2]
  have g2 : W5.frozen? ⟨w.heap.size + 1 + 1 + 1, 0, none⟩ = false := by rw [← hW5]; simp [go_sem, y2, hl1]
  have g3 : W5.frozen? ⟨w.heap.size + 1 + 1 + 1, 1, none⟩ = false := by rw [← hW5]; simp [go_sem, y3, hl1]
  have e0 : W5.cell? ⟨w1.heap.size, 0, none⟩ = some (.int .i64 lo) := by rw [← hW5]; simp [go_sem]
  have e1 : W5.cell? ⟨w1.heap.size, 1, none⟩ = some (.int .i64 hi) := by rw [← hW5]; simp [go_sem]
  have e2 : W5.cell? ⟨w1.heap.size, 2, none⟩ = some (.int .i64 lo2) := by rw [← hW5]; simp [go_sem]
  have e3 : W5.cell? ⟨w1.heap.size, 3, none⟩ = some (.int .i64 hi2) := by rw [← hW5]; simp [go_sem]
  have HK := Lib.hid hkw
  generalize hb : w1.heap.size = b at *
  clear hW5 hcc x0 x1 x2 x3 y0 y1 y2 y3 hb1 hC hkw
  go_region
  go_wp2
  refine bodyPost_ret (v := .tuple #[.agg #[.int .i64 lo, .int .i64 hi], .agg #[.int .i64 lo2, .int .i64 hi2], .int .i64 n]) (by simp [results, Try.results15, go_sem, f0, f1, f2, f3]) rfl ?_
  refine ⟨rfl, Kept.drew ?_⟩
  exact (((HK.out.setCell (p := ⟨w.heap.size + 1 + 1, 0, none⟩) (by simp; omega) _).setCell (p := ⟨w.heap.size + 1 + 1, 1, none⟩) (by simp; omega) _).setCell (p := ⟨w.heap.size + 1 + 1 + 1, 0, none⟩) (by simp; omega) _).setCell (p := ⟨w.heap.size + 1 + 1 + 1, 1, none⟩) (by simp; omega) _
end Go.Proofs.Ytkjciobphbcknaa
