/- Package peg: Back, as it is called. -/
import Derived.Test.YtkjciobphbcknaaAF
namespace Go.Proofs.Ytkjciobphbcknaa
open Go.RowKit Go.Maps

theorem meth106 (v : Value) (w : World) : (method 282 106 v "furrowworks/peg.hear").run Try.prog w = .ok (123, v) w := by kernel_rfl
theorem enter123 : ∀ args w, (callFunc 123 args).run Try.prog w = .ok (.enter 123 args) w := enters_of Try.func123 (by kernel_rfl) rfl
theorem enter59 : ∀ args w, (callFunc 59 args).run Try.prog w = .ok (.enter 59 args) w := enters_of Try.func59 (by kernel_rfl) rfl

/-- The places at which a peg stands in some truth in which it was moved. -/
def strayL (i : Int) (l : List (At × Int)) : List Pl := runL (fun L x => if x.2 = i then addPl L (x.1.get i) else L) (fun _ _ => true) [] l
theorem strayH_run (B : Nat) (i : Int) (l : List (At × Int)) : (strayH B i).run [] l = strayL i l := (strayH B i).run_eq l []
def postAt (p : PegsD) (i : Int) : Post := p.ps.getD i.toNat ⟨0, 0, 0, 0⟩
/-- What Back tells. -/
def backR (p : PegsD) (i : Int) : Except Int (Int × Int) :=
  match checkR p [i] with
  | some n => .error n
  | none => if truthsL p = [] then .error 10 else if strayL i (truthsL p) = [] then .error 11 else .ok (spanOf (endsOn (fun s => backI s (postAt p i)) (strayL i (truthsL p))))
theorem postOk15 {p : Post} {side : Int} (h : postOk p side) (hs : side ≤ 15) : postOk p 15 := by unfold postOk at *; omega

set_option maxRecDepth 100000 in
set_option maxHeartbeats 8000000 in
theorem back1_any (p : PegsD) (i : Int) (b b2 : Nat) (pa la : Option Addr) (pc lc : Nat) (w : World) (hm : p.ps.length ≤ 9223372036854775807) (hm2 : p.ls.length ≤ 9223372036854775807) (hp : PegsIn w p pa la)
    (c0 : w.cell? ⟨b, 0, none⟩ = some (.int .i64 p.side)) (c1 : w.cell? ⟨b, 1, none⟩ = some (.slice pa p.ps.length pc)) (c2 : w.cell? ⟨b, 2, none⟩ = some (.slice la p.ls.length lc)) (ci : w.cell? ⟨b2, 0, none⟩ = some (.int .i64 i)) :
    Calls Try.prog 59 #[.pointer (some ⟨b, 0, none⟩), .pointer (some ⟨b2, 0, none⟩)] w fun e w' => e = endOf encSpan (backR p i) ∧ Kept w w' := by
  have hmm := @run_makeMap Try.prog
  have HP := Lib.hid hp
  have hb := World.block_lt_of_cell? w _ c0
  have hb2 := World.block_lt_of_cell? w _ ci
  have hck := Lib.hid (check_any p pa la (some ⟨w.heap.size + 1, 0, none⟩) pc lc 1 [i] ((w.alloc (.cells #[.int .i64 0, .int .i64 0] 32)).alloc (.cells #[.int .i64 i] 3)) hm hm2 (by simp) (HP.out.kept (((Kept.refl _).alloc _).alloc _)) (by
    have := intsOne (w.alloc (.cells #[.int .i64 0, .int .i64 0] 32)) i; rwa [World.size_alloc] at this))
  clear hp
  cases hc : checkR p [i] with
  | some n =>
    have HR : backR p i = .error n := by simp [backR, hc]
    rw [HR]
    have HC := Lib.hid hc
    clear hc HR
    go_enter Try.func59, Try.ntmps59
    go_wp2_with (go_at_call 45; refine hck.out.mono ?_; rintro e w1 he; obtain ⟨hb1, rfl⟩ := he.some HC.out)
    exact ⟨rfl, rfl, Kept.step2 (Kept.refl _) hb1⟩
  | none =>
    obtain ⟨hv, hr⟩ := checkR_none hc
    have hr := hr i (by simp)
    obtain ⟨k, rfl⟩ := Int.eq_ofNat_of_zero_le hr.1
    have hk : k < p.ps.length := by omega
    have HC := Lib.hid hc
    have hf := fit_of_valid hv
    have HF := Lib.hid hf
    have hn4 := hf.n4
    have hk4 : k < 4 := by omega
    clear hr hc hv hf
    have hmt := meth106
    have hen := enter123
    have hask := fun (w1 : World) (hb1 : Kept w w1) => Lib.hid (ask_any (strayH w1.heap.size k) [] 106 (.agg #[.int .i64 k, .map (some w1.heap.size)]) 123 p pa la pc lc ((w1.alloc (.map #[] 0)).alloc (.cells #[.int .i64 k, .map (some w1.heap.size)] 106)) HF.out (HP.out.kept ((hb1.alloc _).alloc _)) (stray_law _ k hk4)
      (fun q hq => by cases hq; simp <;> omega) (fun s W W' h hb => SetAt.below h (by simp <;> omega) hb) (HP.out.farP (Kept.size hb1)) (HP.out.farL (Kept.size hb1)) ((set_made w1).below (by simp) ((Below.refl _ _).alloc (Nat.le_refl _) _)) (fun w => meth106 _ w) enter123)
    by_cases hE : truthsL p = []
    · have HR : backR p k = .error 10 := by simp only [backR, HC.out, hE]; rfl
      rw [HR]
      have HE := Lib.hid hE
      clear hE HR
      go_enter Try.func59, Try.ntmps59
      go_wp2_with (first
        | (go_at_call 45; refine hck.out.mono ?_; rintro e w1 he; obtain ⟨hb1, rfl⟩ := he.none HC.out
           have hkw := Kept.step2 (Kept.refl _) hb1
           have d0 := (hkw.cells b 0 hb).trans c0
           have d1 := (hkw.cells b 1 hb).trans c1
           have d2 := (hkw.cells b 2 hb).trans c2
           have d3 := (hkw.cells b2 0 hb2).trans ci
           have hbl := hkw.lt hb
           have hbl2 := hkw.lt hb2)
        | (go_at_call 46; refine (hask _ hkw).out.mono ?_; rintro e w2 ⟨hk2, hH2, he2⟩; rw [if_pos HE.out] at he2; subst he2))
      exact ⟨rfl, rfl, hk2.toKept ((hkw.alloc _).alloc _) (fun i e => by cases e; exact Kept.size hkw)⟩
    · have HR : Hid (backR p k = if strayL k (truthsL p) = [] then .error 11 else .ok (spanOf (endsOn (fun s => backI s (postAt p k)) (strayL k (truthsL p))))) := by rw [Hid]; simp only [backR, HC.out, if_neg hE]
      have HE := Lib.hid hE
      clear hE
      go_enter Try.func59, Try.ntmps59
      go_wp2_with (first
        | (go_at_call 45; refine hck.out.mono ?_; rintro e w1 he; obtain ⟨hb1, rfl⟩ := he.none HC.out
           have hkw := Kept.step2 (Kept.refl _) hb1
           have d0 := (hkw.cells b 0 hb).trans c0
           have d1 := (hkw.cells b 1 hb).trans c1
           have d2 := (hkw.cells b 2 hb).trans c2
           have d3 := (hkw.cells b2 0 hb2).trans ci
           have hbl := hkw.lt hb
           have hbl2 := hkw.lt hb2)
        | (go_at_call 46; refine (hask _ hkw).out.mono ?_; rintro e w2 ⟨hk2, hH2, he2⟩; rw [if_neg HE.out] at he2; subst he2; rw [strayH_run] at hH2
           have hH2 : SetAt w1.heap.size (strayL k (truthsL p)) w2 := hH2
           have hm2 : w2.cell? ⟨w1.heap.size + 1, 1, none⟩ = some (.map (some w1.heap.size)) := by rw [hk2.cells _ _ (by simp) (fun e => by have e : w1.heap.size + 1 = w1.heap.size := e; omega)]; simp [go_sem]
           have hl2 := World.block_lt_of_cell? w2 _ hm2
           simp only at hl2
           obtain ⟨w3, hrun3, hR3, hk3, hsz3⟩ := range_start (hH2.below (C := w2.heap.size) (by omega) ((Below.refl _ _).alloc (Nat.le_refl _) (.cells #[.int .i64 0, .int .i64 0, .bool false] 89)))))
      obtain ⟨pb, po, rfl, hpl, p1, p2, p3, p4⟩ := HP.out.1 k (p.ps[k]) (by simp)
      have hpok := postOk15 (HF.out.posts p.ps[k] (List.getElem_mem hk)) HF.out.s1
      have hpat : postAt p k = p.ps[k] := by simp [postAt, hk]
      obtain ⟨f, hf⟩ : ∃ f : Pl → Int, f = fun s => backI s p.ps[k] := ⟨_, rfl⟩
      have HR' : Hid (backR p k = if strayL k (truthsL p) = [] then .error 11 else .ok (spanOf (endsOn f (strayL k (truthsL p))))) := by rw [Hid, HR.out, hpat, hf]
      have hpat2 := Lib.hid hpat
      generalize hL : strayL (k : Int) (truthsL p) = L at *
      have hokL := hH2.2.1
      have hkA := (hkw.alloc (.map #[] 0)).alloc (Obj.cells #[.int .i64 k, .map (some w1.heap.size)] 106)
      have hkw2 : Kept w w2 := hk2.toKept hkA (fun i e => by cases e; exact Kept.size hkw)
      have hkw3 : Kept w w3 := Kept.step0 (hkw2.alloc _) hk3
      have hx3 : EndsAt w2.heap.size ⟨0, 0, false⟩ w3 := by
        have h : EndsAt w2.heap.size ⟨0, 0, false⟩ (w2.alloc (Obj.cells #[.int .i64 0, .int .i64 0, .bool false] 89)) := ⟨by simp, by simp [go_sem], by simp [go_sem], by simp [go_sem], by simp [go_sem], by simp [go_sem], by simp [go_sem]⟩
        exact h.belowC (by simp) hk3
      have hw1 : w.heap.size < w1.heap.size := hb1.lts _ (by simp; omega)
      have hmB := hH2.lt
      have r0 : w3.cell? ⟨w.heap.size, 0, none⟩ = some (.int .i64 0) ∧ w3.cell? ⟨w.heap.size, 1, none⟩ = some (.int .i64 0) := by
        refine ⟨?_, ?_⟩ <;> (rw [hk3.cells _ _ (by simp; omega), World.cell?_alloc_lt _ _ _ (by simp only; omega), hk2.cells _ _ (by simp; omega) (fun e => by have e : w.heap.size = w1.heap.size := e; omega)]; simp [go_sem, hb1.cells, hw1])
      have z0 : w3.frozen? ⟨w.heap.size, 0, none⟩ = false ∧ w3.frozen? ⟨w.heap.size, 1, none⟩ = false := by
        refine ⟨?_, ?_⟩ <;> (rw [hk3.frozens _ _ (by simp; omega), World.frozen?_alloc_past _ _ _ (by omega), hk2.frozens _ _ (by simp; omega) (fun e => by have e : w.heap.size = w1.heap.size := e; omega)]; simp [go_sem, hb1.frozens, hw1])
      have HX := Lib.hid hx3
      have HR3 := Lib.hid hR3
      have HK := Lib.hid hkw3
      have HR0 := Lib.hid r0
      have HZ0 := Lib.hid z0
      simp only [World.size_alloc] at HR3 hsz3
      clear hx3 hR3 hkw3 hH2 hrun3 hk3 hk2 hb1 hkw hkA d0 d1 d2 d3 hbl hbl2 hck hask r0 z0 hkw2 hm2 HR hpat hL
      generalize hbx : w2.heap.size = bx at *
      generalize hmm2 : w1.heap.size = m at *
      clear hbx hmm2
      go_loopw [] (fun wr => ∃ seen, RangeAt m (bx + 1) L seen wr ∧ EndsAt bx (endsOn f seen) wr ∧ KeptT (fun q => q = bx ∨ q = bx + 1) w3 wr) (fun wr => wr.rangeLeft m (bx + 1))
      case atStart => exact ⟨[], HR3.out, HX.out, KeptT.refl _⟩
      case round =>
        obtain ⟨seen, hR, hx, hkT⟩ := hrel
        have HKT := Lib.hid hkT
        rcases range_next hR 0 with ⟨hall, hrun⟩ | ⟨s, v, w4, hs, hrun, hR4, hlt4, hk4, hsz4, hen⟩
        · have hsub : ∀ s ∈ seen, s ∈ L := by obtain ⟨D, left, cnt, n, _, h1, _⟩ := hR; exact h1
          have ex : endsOn f seen = endsOn f L := endsOn_same _ hsub hall
          rw [ex] at hx
          have nr : ¬ (w.heap.size = bx ∨ w.heap.size = bx + 1) := by omega
          have hl3 : w.heap.size < w3.heap.size := World.block_lt_of_cell? w3 _ HR0.out.1
          have e0 := (HKT.out.cells w.heap.size 0 hl3 nr).trans HR0.out.1
          have e1 := (HKT.out.cells w.heap.size 1 hl3 nr).trans HR0.out.2
          have y0 := (HKT.out.frozens w.heap.size 0 hl3 nr).trans HZ0.out.1
          have y1 := (HKT.out.frozens w.heap.size 1 hl3 nr).trans HZ0.out.2
          have hlr := World.block_lt_of_cell? wr _ e0
          simp only at hlr
          have kkr : Kept w wr := HKT.out.toKept HK.out (fun i e => by omega)
          have HKR := Lib.hid kkr
          clear hall hsub ex hR hkT hl3 nr kkr
          by_cases hL0 : L = []
          · have hz : endsOn f L = ⟨0, 0, false⟩ := by rw [hL0]; rfl
            rw [hz] at hx
            obtain ⟨lx, a0, a1, a2, _⟩ := hx
            have HL0 := Lib.hid hL0
            clear hL0 hz
            go_wp2
            exact ⟨rfl, by rw [HR'.out, if_pos HL0.out]; rfl, HKR.out⟩
          · have hz := (endsOn_spec f L hL0).1
            have HR2 : Hid (backR p k = .ok (spanOf (endsOn f L))) := by rw [Hid, HR'.out, if_neg hL0]
            generalize endsOn f L = sx at *
            obtain ⟨lx, a0, a1, a2, _⟩ := hx
            rw [hz] at a2
            have hsp := Lib.hid (fun w => span_any sx w)
            rw [hz] at hsp
            clear hL0
            go_wp2_with (go_at_call 54; refine (hsp.out _).mono ?_; rintro e w5 ⟨rfl, hb5⟩
                         have x0 := (hb5.cells w.heap.size 0 hlr).trans e0
                         have x1 := (hb5.cells w.heap.size 1 hlr).trans e1
                         have q0 := (hb5.frozens w.heap.size 0 hlr).trans y0
                         have q1 := (hb5.frozens w.heap.size 1 hlr).trans y1)
            refine bodyPost_ret (v := .agg #[.int .i64 sx.lo, .int .i64 sx.hi]) (by simp [results, Try.results59, go_sem, *]) rfl ?_
            exact ⟨by rw [HR2.out]; rfl, ((HKR.out.step0 hb5).setCell (p := ⟨w.heap.size, 0, none⟩) (by simp) _).setCell (p := ⟨w.heap.size, 1, none⟩) (by simp) _⟩
        · have hso := hokL s hs
          have hx4 := Lib.hid ((hx.keptT hk4 (by omega)).belowC (C := w4.heap.size) (by have := hx.1; omega) ((Below.refl _ _).alloc (Nat.le_refl _) (Obj.cells #[.int .i64 s.x, .int .i64 s.y] 93)))
          have hbw : bx < w4.heap.size := by have := hx.1; omega
          have HR4 := Lib.hid hR4
          have kw4 : Kept w (w4.alloc (Obj.cells #[.int .i64 s.x, .int .i64 s.y] 93)) := ((hk4.toKept (hkT.toKept HK.out (fun i e => by omega)) (fun i e => by omega)).alloc _)
          clear hx hR hR4 hkT hs
          go_wp2
          have hfs : f s = backI s p.ps[k] := by rw [hf]
          generalize hnb : wr.heap.size = nb at *
          generalize hW5 : w4.alloc (Obj.cells #[.int .i64 s.x, .int .i64 s.y] 93) = W5 at *
          have g0 : W5.cell? ⟨nb, 0, none⟩ = some (.int .i64 s.x) := by rw [← hW5, ← hsz4]; simp [go_sem]
          have g1 : W5.cell? ⟨nb, 1, none⟩ = some (.int .i64 s.y) := by rw [← hW5, ← hsz4]; simp [go_sem]
          have hne : nb ≠ bx := by omega
          have g2 := (kw4.cells b 1 hb).trans c1
          have g3 := (kw4.cells b2 0 hb2).trans ci
          have g4 := (kw4.cells pb _ hpl).trans p1
          have g5 := (kw4.cells pb _ hpl).trans p2
          have g6 := (kw4.cells pb _ hpl).trans p3
          have g7 := (kw4.cells pb _ hpl).trans p4
          have hln2 : bx < W5.heap.size := by have := hx4.out.1; exact this
          have hlb := kw4.lt hb
          have hlb2 := kw4.lt hb2
          have hlp := kw4.lt hpl
          have hln := World.block_lt_of_cell? W5 _ g0
          simp only at hln
          have hrl : W5.rangeLeft m (bx + 1) = w4.rangeLeft m (bx + 1) ∧ RangeAt m (bx + 1) L (seen ++ [s]) W5 := by
            rw [← hW5]
            obtain ⟨q1, q2⟩ := HR4.out.keptT (T := fun _ => False) (Kept.toT ((Kept.refl w4).alloc (Obj.cells #[.int .i64 s.x, .int .i64 s.y] 93)) _) (fun e => e) (fun e => e)
            exact ⟨q2, q1⟩
          have hk45 : KeptT (fun q => q = bx + 1) wr W5 := by rw [← hW5]; exact hk4.alloc _
          have HK45 := Lib.hid hk45
          have HRL := Lib.hid hrl
          have HPO := Lib.hid hpok
          have HFS := Lib.hid hfs
          have n1 : b ≠ bx := by omega
          have n2 : b2 ≠ bx := by omega
          have n3 : pb ≠ bx := by omega
          have HS : ∀ w', KeptT (fun q => q = bx) W5 w' → (w'.cell? ⟨nb, 0, none⟩ = some (.int .i64 s.x) ∧ w'.cell? ⟨nb, 1, none⟩ = some (.int .i64 s.y) ∧ w'.cell? ⟨b, 1, none⟩ = some (.slice (some ⟨pb, po, none⟩) p.ps.length pc) ∧ w'.cell? ⟨b2, 0, none⟩ = some (.int .i64 k) ∧
              w'.cell? ⟨pb, po + k * 4, none⟩ = some (.int .i64 p.ps[k].xlo) ∧ w'.cell? ⟨pb, po + k * 4 + 1, none⟩ = some (.int .i64 p.ps[k].xhi) ∧ w'.cell? ⟨pb, po + k * 4 + 2, none⟩ = some (.int .i64 p.ps[k].ylo) ∧ w'.cell? ⟨pb, po + k * 4 + 3, none⟩ = some (.int .i64 p.ps[k].yhi)) := fun w' q =>
            ⟨(q.cells _ _ hln hne).trans g0, (q.cells _ _ hln hne).trans g1, (q.cells _ _ hlb n1).trans g2, (q.cells _ _ hlb2 n2).trans g3, (q.cells _ _ hlp n3).trans g4, (q.cells _ _ hlp n3).trans g5, (q.cells _ _ hlp n3).trans g6, (q.cells _ _ hlp n3).trans g7⟩
          have HS2 := Lib.hid HS
          have hkk1 : (k : Int) < (p.ps.length : Int) := by omega
          have hkk0 : (0 : Int) ≤ (k : Int) := by omega
          have HLT := Lib.hid hlt4
          clear HS hW5 hk45 hrl hpok hfs kw4 hk4 hsz4 hen hlt4 hrun hmm hmt
          generalize hq : p.ps[k] = pk at *
          go_region_held3 (fun w' => w'.cell? ⟨nb, 0, none⟩ = some (.int .i64 s.x) ∧ w'.cell? ⟨nb, 1, none⟩ = some (.int .i64 s.y) ∧ w'.cell? ⟨b, 1, none⟩ = some (.slice (some ⟨pb, po, none⟩) p.ps.length pc) ∧ w'.cell? ⟨b2, 0, none⟩ = some (.int .i64 k) ∧
              w'.cell? ⟨pb, po + k * 4, none⟩ = some (.int .i64 pk.xlo) ∧ w'.cell? ⟨pb, po + k * 4 + 1, none⟩ = some (.int .i64 pk.xhi) ∧ w'.cell? ⟨pb, po + k * 4 + 2, none⟩ = some (.int .i64 pk.ylo) ∧ w'.cell? ⟨pb, po + k * 4 + 3, none⟩ = some (.int .i64 pk.yhi))
            (first
              | assumption
              | exact HS2.out _ ((Kept.toT (Kept.step0 (Kept.refl W5).drew hb6) _).trans hk7)
              | exact HS2.out _ (Kept.toT (Kept.step0 (Kept.refl W5).drew hb6) _)
              | exact HS2.out _ (Kept.toT (Kept.refl W5).drew _))
            (first
              | (go_at_call 60; refine (wayBack_any s pk _ hso HPO.out).mono ?_; rintro e w6 ⟨rfl, hb6⟩)
              | (go_at_call 53; refine (add_any bx _ _ _ (hx4.out.belowC hln2 (Kept.step0 (Kept.refl W5).drew hb6))).mono ?_; rintro e w7 ⟨rfl, hx7, hk7⟩))
          have k57 : KeptT (fun q => q = bx) W5 w7 := (Kept.toT (Kept.step0 (Kept.refl W5).drew hb6) _).trans hk7
          obtain ⟨hR7, hl7⟩ := HRL.out.2.keptT k57 (by omega) (by omega)
          have hl5 := HRL.out.1
          have hl4 := HLT.out
          rename_i hh
          clear hh
          go_wp2
          go_roundw
          case rel =>
            exact ⟨seen ++ [s], hR7, by rw [endsOn_snoc, HFS.out]; exact hx7, HKT.out.trans ((HK45.out.imp (fun q e => .inr e)).trans (k57.imp (fun q e => .inl e)))⟩
          case measure => omega
end Go.Proofs.Ytkjciobphbcknaa
namespace Go.Proofs.Ytkjciobphbcknaa
open Go.RowKit

set_option maxHeartbeats 4000000 in
theorem back_any (p : PegsD) (i : Int) (pa la : Option Addr) (pc lc : Nat) (w : World) (hm : p.ps.length ≤ 9223372036854775807) (hm2 : p.ls.length ≤ 9223372036854775807) (hp : PegsIn w p pa la) :
    Calls Try.prog 19 #[.agg #[.int .i64 p.side, .slice pa p.ps.length pc, .slice la p.ls.length lc], .int .i64 i] w
      fun e w' => e = .returned (.tuple #[encSpan (valOf (0, 0) (backR p i)), .int .i64 (errOf (backR p i))]) ∧ Kept w w' := by
  have hmf : ∀ (fn : Fn) (first cap : Array Value) (w : World), (Instr.makeFunc fn first cap).run Try.prog w = .ok (.func fn first cap) w := fun _ _ _ _ => rfl
  have HP := Lib.hid hp
  have kW : Kept w (((((w.alloc (Obj.cells #[.int .i64 p.side, .slice pa p.ps.length pc, .slice la p.ls.length lc] 25)).alloc (.cells #[.int .i64 i] 3)).alloc (.cells #[.int .i64 0, .int .i64 0] 32)).alloc (.cells #[.int .i64 0, .int .i64 0] 32)).alloc (.cells #[.int .i64 0] 28)) := (((((Kept.refl _).alloc _).alloc _).alloc _).alloc _).alloc _
  have h1 := Lib.hid (back1_any p i w.heap.size (w.heap.size + 1) pa la pc lc _ hm hm2 (HP.out.kept kW) (by simp [go_sem]) (by simp [go_sem]) (by simp [go_sem]) (by simp [go_sem]))
  have hC := Lib.hid (told58_any 59 #[.pointer (some ⟨w.heap.size, 0, none⟩), .pointer (some ⟨w.heap.size + 1, 0, none⟩)] (((w.alloc (Obj.cells #[.int .i64 p.side, .slice pa p.ps.length pc, .slice la p.ls.length lc] 25)).alloc (.cells #[.int .i64 i] 3)).alloc (.cells #[.int .i64 0, .int .i64 0] 32)) (backR p i) enter59 h1.out)
  clear hp kW h1
  simp only [encSpan] at hC ⊢
  generalize valOf (0, 0) (backR p i) = g at *
  obtain ⟨lo, hi⟩ := g
  generalize errOf (backR p i) = n at *
  simp only at hC ⊢
  go_enter Try.func19, Try.ntmps19
  go_wp2_with (go_at_call 58; refine hC.out.mono ?_; rintro e w1 ⟨rfl, hb1⟩; have hc1 := hb1.cells; have hz1 := hb1.frozens; have hl1 := hb1.lts)
  have x0 : w1.cell? ⟨w.heap.size + 1 + 1, 0, none⟩ = some (.int .i64 0) := by rw [hc1 _ _ (by simp)]; simp [go_sem]
  have x1 : w1.cell? ⟨w.heap.size + 1 + 1, 1, none⟩ = some (.int .i64 0) := by rw [hc1 _ _ (by simp)]; simp [go_sem]
  refine bodyPost_ret (v := .tuple #[.agg #[.int .i64 lo, .int .i64 hi], .int .i64 n]) (by simp [results, Try.results19, go_sem, x0, x1]) rfl ?_
  have kk : Kept w w1 := Kept.step0 (((Kept.refl _).alloc _).alloc _) (Kept.off _ _ hb1)
  exact ⟨rfl, (kk.setCell (p := ⟨w.heap.size + 1 + 1, 0, none⟩) (by simp; omega) _).setCell (p := ⟨w.heap.size + 1 + 1, 1, none⟩) (by simp; omega) _⟩
end Go.Proofs.Ytkjciobphbcknaa
