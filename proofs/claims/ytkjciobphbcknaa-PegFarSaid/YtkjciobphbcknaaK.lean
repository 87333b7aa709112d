/- Package peg: spots. -/
import Derived.Test.YtkjciobphbcknaaJ
namespace Go.Proofs.Ytkjciobphbcknaa
open Go.RowKit

/-- What a cell holds, whatever it is. (A plain definition.) -/
def cellOf (w : World) (b o : Nat) : Value := (w.cell? ⟨b, o, none⟩).getD undef
theorem cellOf_some {w : World} {b o : Nat} {v : Value} (h : w.cell? ⟨b, o, none⟩ = some v) : w.cell? ⟨b, o, none⟩ = some (cellOf w b o) := by rw [cellOf, h]; rfl

theorem rectangle_sl (xlo xhi ylo yhi : Int) (w : World) (h1 : 0 ≤ xlo) (h2 : xlo ≤ xhi) (h3 : xhi ≤ 15) (h4 : 0 ≤ ylo) (h5 : ylo ≤ yhi) (h6 : yhi ≤ 15) :
    Calls Try.prog 97 #[.agg #[.int .i64 xlo, .int .i64 xhi], .agg #[.int .i64 ylo, .int .i64 yhi]] w
      fun e w' => ∃ pa c, e = .returned (.slice pa (rectL xlo xhi ylo yhi).length c) ∧ OwnsPls w' w.heap.size (.slice pa (rectL xlo xhi ylo yhi).length c) (rectL xlo xhi ylo yhi) ∧ Kept w w' :=
  (rectangle_any xlo xhi ylo yhi w h1 h2 h3 h4 h5 h6).mono fun e w' ⟨v, he, ho, hk⟩ => by
    obtain ⟨pa, c, rfl, _⟩ := ho.reads
    exact ⟨pa, c, he, ho, hk⟩

theorem deleteFunc_sl (L : List Pl) (pa : Option Addr) (c : Nat) (c1 c2 : Value) (f : Pl → Bool) (base : Nat) (W0 w : World) (hL : OwnsPls w base (.slice pa L.length c) L) (hk : Kept W0 w) (hbase : W0.heap.size ≤ base) (hlen : L.length ≤ 1000)
    (hf : ∀ w1, Kept W0 w1 → ∀ s ∈ L, Calls Try.prog 99 #[.agg #[.int .i64 s.x, .int .i64 s.y], c1, c2] w1 fun e w' => e = .returned (.bool (f s)) ∧ Kept w1 w') :
    Calls Try.prog 98 #[.slice pa L.length c, .func (.func 99) #[] #[c1, c2]] w fun e w' => ∃ pa' c', e = .returned (.slice pa' (L.filter fun s => !f s).length c') ∧ OwnsPls w' base (.slice pa' (L.filter fun s => !f s).length c') (L.filter fun s => !f s) ∧ Kept W0 w' := by
  have hlo : ∀ k, (Value.slice pa L.length c).ownBlock = some k → W0.heap.size ≤ k := fun k e => Nat.le_trans hbase (World.ownsRow.lt hL k e).1
  refine (deleteFunc_any L _ c1 c2 f base w hL hlen (fun w1 hg => hf w1 (hk.grown hg hlo))).mono fun e w' ⟨v', he, ho, hg, _⟩ => ?_
  obtain ⟨pa', c', rfl, _⟩ := ho.reads
  exact ⟨pa', c', he, ho, hk.grown hg hlo⟩
theorem SlPl.mono {w : World} {lo lo' : Nat} {v : Value} {L : List Pl} (h : SlPl w lo v L) (hl : lo' ≤ lo) : SlPl w lo' v L := by
  obtain ⟨pa, c, e, h1, h2⟩ := h
  exact ⟨pa, c, e, h1, fun a ha => ⟨Nat.le_trans hl (h2 a ha).1, (h2 a ha).2⟩⟩

set_option maxRecDepth 100000 in
set_option maxHeartbeats 2000000 in
theorem spots_any (p : PegsD) (pa la : Option Addr) (pc lc : Nat) (w : World) (hs : 0 ≤ p.side) (hs2 : p.side ≤ 15) (hn : p.ps.length ≤ 4) (hok : ∀ q ∈ p.ps, postOk q p.side) (hp : PegsIn w p pa la) :
    Calls Try.prog 91 #[.agg #[.int .i64 p.side, .slice pa p.ps.length pc, .slice la p.ls.length lc]] w
      fun e w' => ∃ s : Nat → Option Addr × Nat × Nat, e = .returned (.tuple #[.agg #[.slice (s 0).1 (s 0).2.1 (s 0).2.2, .slice (s 1).1 (s 1).2.1 (s 1).2.2, .slice (s 2).1 (s 2).2.1 (s 2).2.2, .slice (s 3).1 (s 3).2.1 (s 3).2.2],
          .agg #[.slice (s 4).1 (s 4).2.1 (s 4).2.2, .slice (s 5).1 (s 5).2.1 (s 5).2.2, .slice (s 6).1 (s 6).2.1 (s 6).2.2, .slice (s 7).1 (s 7).2.1 (s 7).2.2]]) ∧ Kept w w' ∧
        (∀ i, i < p.ps.length → SlPl w' w.heap.size (.slice (s i).1 (s i).2.1 (s i).2.2) (homeL p i) ∧ SlPl w' w.heap.size (.slice (s (4 + i)).1 (s (4 + i)).2.1 (s (4 + i)).2.2) (awayL p i)) := by
  have HP := Lib.hid hp
  have HO := Lib.hid hok
  clear hp hok
  have hmf : ∀ (fn : Fn) (first cap : Array Value) (w : World), (Instr.makeFunc fn first cap).run Try.prog w = .ok (.func fn first cap) w := fun _ _ _ _ => rfl
  go_enter Try.func91, Try.ntmps91
  go_wp2
  go_loopw [5, 6, 13] (fun _ _ i wr => ∃ k : Nat, k ≤ p.ps.length ∧ i = .int .i64 k ∧ SpotsInv w wr p (.slice pa p.ps.length pc) (.slice la p.ls.length lc) k k) (fun _ _ i _ => p.ps.length - (intOf i).toNat)
  case atStart =>
    refine ⟨0, Nat.zero_le _, rfl, ((((Kept.refl _).alloc _).alloc _).alloc _).alloc _, by simp, by simp [go_sem], by simp [go_sem], by simp [go_sem], ?_, ?_, ?_, ?_⟩
    · simp [go_sem]
    · simp [go_sem]
    · intro i hi
      match i, hi with
      | 0, _ | 1, _ | 2, _ | 3, _ => exact ⟨.slice none 0 0, by simp [go_sem], by simp [go_sem], fun h => by omega, fun _ => rfl⟩
    · intro i hi
      match i, hi with
      | 0, _ | 1, _ | 2, _ | 3, _ => exact ⟨.slice none 0 0, by simp [go_sem], by simp [go_sem], fun h => by omega, fun _ => rfl⟩
  case round =>
    obtain ⟨k, hk, rfl, inv⟩ := hrel
    have hsz := inv.sz
    by_cases hlt : k < p.ps.length
    · obtain ⟨b, o, rfl, hbs, c1, c2, c3, c4⟩ := (HP.out.1.kept inv.kept) k (p.ps[k]) (by simp)
      obtain ⟨q1, q2, q3, q4, q5, q6⟩ := HO.out p.ps[k] (List.getElem_mem hlt)
      have HH : Hid (homeL p k = rectL p.ps[k].xlo p.ps[k].xhi p.ps[k].ylo p.ps[k].yhi) := by simp [Hid, homeL, hlt]
      have hk0 : (0 : Int) ≤ (k : Int) := by omega
      have hk1 : (k : Int) < (p.ps.length : Int) := by omega
      have hk4 : (k : Int) < 4 := by omega
      obtain ⟨vh, d1, z1, _, _⟩ := inv.hm k (by omega)
      have INV := Lib.hid inv
      have hz1 : w.heap.size + 1 < wr.heap.size := by omega
      clear inv
      go_wp2_with fail
      have k5 : Kept wr ((wr.alloc (Obj.cells #[Value.int IntKind.i64 k] 3)).alloc (Obj.cells #[Value.int IntKind.i64 p.ps[k].xlo, Value.int IntKind.i64 p.ps[k].xhi, Value.int IntKind.i64 p.ps[k].ylo, Value.int IntKind.i64 p.ps[k].yhi] 56)) := ((Kept.refl _).alloc _).alloc _
      generalize hq1 : p.ps[k].xlo = x1 at *
      generalize hq2 : p.ps[k].xhi = x2 at *
      generalize hq3 : p.ps[k].ylo = x3 at *
      generalize hq4 : p.ps[k].yhi = x4 at *
      clear hq1 hq2 hq3 hq4
      generalize hW5 : ((wr.alloc (Obj.cells #[Value.int IntKind.i64 k] 3)).alloc (Obj.cells #[Value.int IntKind.i64 x1, Value.int IntKind.i64 x2, Value.int IntKind.i64 x3, Value.int IntKind.i64 x4] 56)) = W5 at *
      have e0 : W5.cell? ⟨wr.heap.size, 0, none⟩ = some (.int .i64 k) := by rw [← hW5]; simp [go_sem]
      have e1 : W5.cell? ⟨wr.heap.size + 1, 0, none⟩ = some (.int .i64 x1) := by rw [← hW5]; simp [go_sem]
      have e2 : W5.cell? ⟨wr.heap.size + 1, 1, none⟩ = some (.int .i64 x2) := by rw [← hW5]; simp [go_sem]
      have e3 : W5.cell? ⟨wr.heap.size + 1, 2, none⟩ = some (.int .i64 x3) := by rw [← hW5]; simp [go_sem]
      have e4 : W5.cell? ⟨wr.heap.size + 1, 3, none⟩ = some (.int .i64 x4) := by rw [← hW5]; simp [go_sem]
      have d5 : W5.cell? ⟨w.heap.size + 1, k, none⟩ = some vh := by rw [k5.cells _ _ hz1]; exact d1
      have z5 : W5.frozen? ⟨w.heap.size + 1, k, none⟩ = false := by rw [k5.frozens _ _ hz1]; exact z1
      have sz5 : wr.heap.size + 1 < W5.heap.size := by rw [← hW5]; simp
      have k55 : Kept W5 W5 := Kept.refl _
      clear hW5 d1 z1 c1 c2 c3 c4
      go_region_held3 (fun w' => w'.cell? ⟨wr.heap.size, 0, none⟩ = some (.int .i64 k) ∧ w'.cell? ⟨wr.heap.size + 1, 0, none⟩ = some (.int .i64 x1) ∧ w'.cell? ⟨wr.heap.size + 1, 1, none⟩ = some (.int .i64 x2) ∧ w'.cell? ⟨wr.heap.size + 1, 2, none⟩ = some (.int .i64 x3) ∧ w'.cell? ⟨wr.heap.size + 1, 3, none⟩ = some (.int .i64 x4) ∧
          w'.cell? ⟨w.heap.size + 1, k, none⟩ = some (cellOf w' (w.heap.size + 1) k) ∧ w'.frozen? ⟨w.heap.size + 1, k, none⟩ = false)
        (first
          | assumption
          | (refine ⟨?_, ?_, ?_, ?_, ?_, ?_, ?_⟩ <;> first
               | exact cellOf_some (World.cell?_setCell_same' _ _ _ (by simp [*]))
               | (rw [cellOf]; simp [d5]; done)
               | (rw [cellOf, hb1.cells _ _ (by simp <;> omega)]; simp [d5]; done)
               | (rw [World.cell?_setCell_other _ _ _ _ (by simp <;> omega)]; simp only [*])
               | (rw [World.frozen?_setCell]; simp only [*])
               | (rw [hb1.cells _ _ (by simp <;> omega)]; simp [*]; done)
               | (rw [hb1.frozens _ _ (by simp <;> omega)]; simp [*]; done)
               | (simp [*]; done)))
        (first
          | (go_at_call 97; refine (rectangle_sl x1 x2 x3 x4 _ (by omega) (by omega) (by omega) (by omega) (by omega) (by omega)).mono ?_; rintro e w1 ⟨pa1, cp1, rfl, ho1, hb1⟩))
      clear e0 e1 e2 e3 e4 d5 z5 k55
      have i5 := (INV.out.keep k5).keep ((Kept.refl W5).drew)
      have i6 := (i5.keep hb1).setHome (k := k) (by omega) (u := .slice pa1 (rectL x1 x2 x3 x4).length cp1) (by rw [HH.out]; exact ho1.sl.mono (show w.heap.size + 4 ≤ W5.heap.size by omega))
      generalize hW6 : w1.setCell ⟨w.heap.size + 1, k, none⟩ (Value.slice pa1 (rectL x1 x2 x3 x4).length cp1) = W6 at *
      rename_i hh
      have e0 : W6.cell? ⟨wr.heap.size, 0, none⟩ = some (.int .i64 k) := hh.1
      have hc1 : W6.cell? ⟨w.heap.size + 1, k, none⟩ = some (.slice pa1 (rectL x1 x2 x3 x4).length cp1) := by
        have hcell := hh.2.2.2.2.2.1
        rw [← hW6] at hcell ⊢
        refine World.cell?_setCell_same' _ _ _ ?_
        have hl := (i5.keep hb1).hm k (by omega)
        obtain ⟨vv, hv, _⟩ := hl
        rw [hv]; rfl
      have hsl : SlPl W6 (w.heap.size + 4) (.slice pa1 (rectL x1 x2 x3 x4).length cp1) (rectL x1 x2 x3 x4) := by
        rw [← hW6]
        exact (ho1.sl.mono (show w.heap.size + 4 ≤ W5.heap.size by omega)).set _ _ _ (by omega)
      obtain ⟨hpls, hlo⟩ : PlsIn W6 pa1 (rectL x1 x2 x3 x4) ∧ True := by
        obtain ⟨pa', c', e, h1, _⟩ := hsl
        simp only [Value.slice.injEq] at e
        rw [e.1]; exact ⟨h1, trivial⟩
      have hlen1 := rectL_length x1 x2 x3 x4 (by omega) (by omega) (by omega) (by omega)
      have hlen2 : (fieldL p.side).length ≤ 256 := rectL_length 0 p.side 0 p.side (by omega) (by omega) (by omega) (by omega)
      have sz6 : wr.heap.size < W6.heap.size := World.block_lt_of_cell? W6 _ e0
      have s0 := i6.s0
      have s1 := i6.s1
      obtain ⟨va, d2, z2, _, _⟩ := i6.aw k (by omega)
      have I6 := Lib.hid i6
      have HPL := Lib.hid hpls
      have HC1 := Lib.hid hc1
      have sz62 := i6.sz
      clear hh hW6 ho1 hb1 i5 i6 hpls hc1 hsl hlo INV k5 sz5
      go_wp2_with fail
      go_region_held3 (fun w' => w'.cell? ⟨wr.heap.size, 0, none⟩ = some (.int .i64 k) ∧ w'.cell? ⟨w.heap.size + 3, 0, none⟩ = some (.int .i64 0) ∧ w'.cell? ⟨w.heap.size + 3, 1, none⟩ = some (.int .i64 p.side) ∧
          w'.cell? ⟨w.heap.size + 2, k, none⟩ = some (cellOf w' (w.heap.size + 2) k) ∧ w'.frozen? ⟨w.heap.size + 2, k, none⟩ = false)
        (first
          | assumption
          | (refine ⟨?_, ?_, ?_, ?_, ?_⟩ <;> first
               | exact cellOf_some (World.cell?_setCell_same' _ _ _ (by simp [*]))
               | (rw [cellOf]; simp [d2]; done)
               | (rw [cellOf, hb2.cells _ _ (by simp <;> omega)]; simp [d2]; done)
               | (rw [cellOf, hb3.cells _ _ (by omega)]; simp [d2]; done)
               | (rw [World.cell?_setCell_other _ _ _ _ (by simp <;> omega)]; simp only [*])
               | (rw [World.frozen?_setCell]; simp only [*])
               | exact (hb3.cells _ _ (by omega)).trans (by assumption)
               | exact (hb3.frozens _ _ (by omega)).trans (by assumption)
               | (rw [hb2.cells _ _ (by simp <;> omega)]; simp [*]; done)
               | (rw [hb2.frozens _ _ (by simp <;> omega)]; simp [*]; done)
               | (simp [*]; done)))
        (first
          | (go_at_call 97; refine (rectangle_sl 0 p.side 0 p.side _ (by omega) (by omega) (by omega) (by omega) (by omega) (by omega)).mono ?_; rintro e w2 ⟨pa2, cp2, rfl, ho2, hb2⟩)
          | (go_at_call 98; refine (deleteFunc_sl (fieldL p.side) pa2 cp2 _ _ (fun s => decide (s ∈ homeL p k)) W6.heap.size W6 w2 ho2 ((Kept.refl W6).drew.step0 hb2) (Nat.le_refl _) (by omega) (fun wx hx s _ => by
              rw [HH.out]
              exact spots1_any s _ _ k pa1 cp1 (rectL x1 x2 x3 x4) wx (by omega) ((hx.cells _ _ (by omega)).trans HC1.out) ((hx.cells _ _ (by omega)).trans e0) (HPL.out.kept hx) (by omega))).mono ?_; rintro e w3 ⟨pa3, cp3, rfl, ho3, hb3⟩))
      all_goals
        clear s0 s1 d2 z2 e0 hb2 ho2
        have hi6 := (I6.out.keep hb3).setAway (k := k) (by omega) (u := .slice pa3 ((fieldL p.side).filter fun s => !decide (s ∈ homeL p k)).length cp3) (ho3.sl.mono sz62)
        have HI6 := Lib.hid hi6
        clear hi6
        rename_i hh
        clear hh
        go_wp2
        go_roundw
        case rel => exact ⟨k + 1, by omega, by go_num, HI6.out⟩
        case measure => simp [intOf]; omega
    · have e : k = p.ps.length := by omega
      subst e
      obtain ⟨x0, n0, y0, h0, z0, g0⟩ := inv.hm.slices 0 (by omega)
      obtain ⟨x1, n1, y1, h1, z1, g1⟩ := inv.hm.slices 1 (by omega)
      obtain ⟨x2, n2, y2, h2, z2, g2⟩ := inv.hm.slices 2 (by omega)
      obtain ⟨x3, n3, y3, h3, z3, g3⟩ := inv.hm.slices 3 (by omega)
      obtain ⟨x4, n4, y4, h4, z4, g4⟩ := inv.aw.slices 0 (by omega)
      obtain ⟨x5, n5, y5, h5, z5, g5⟩ := inv.aw.slices 1 (by omega)
      obtain ⟨x6, n6, y6, h6, z6, g6⟩ := inv.aw.slices 2 (by omega)
      obtain ⟨x7, n7, y7, h7, z7, g7⟩ := inv.aw.slices 3 (by omega)
      have INV := Lib.hid inv
      clear inv
      have t0 := setCell_self (w := wr.drew) (a := ⟨w.heap.size + 1, 0, none⟩) (v := .slice x0 n0 y0) (by simpa using h0)
      have t1 := setCell_self (w := wr.drew) (a := ⟨w.heap.size + 1, 1, none⟩) (v := .slice x1 n1 y1) (by simpa using h1)
      have t2 := setCell_self (w := wr.drew) (a := ⟨w.heap.size + 1, 2, none⟩) (v := .slice x2 n2 y2) (by simpa using h2)
      have t3 := setCell_self (w := wr.drew) (a := ⟨w.heap.size + 1, 3, none⟩) (v := .slice x3 n3 y3) (by simpa using h3)
      have t4 := setCell_self (w := wr.drew) (a := ⟨w.heap.size + 1 + 1, 0, none⟩) (v := .slice x4 n4 y4) (by simpa using h4)
      have t5 := setCell_self (w := wr.drew) (a := ⟨w.heap.size + 1 + 1, 1, none⟩) (v := .slice x5 n5 y5) (by simpa using h5)
      have t6 := setCell_self (w := wr.drew) (a := ⟨w.heap.size + 1 + 1, 2, none⟩) (v := .slice x6 n6 y6) (by simpa using h6)
      have t7 := setCell_self (w := wr.drew) (a := ⟨w.heap.size + 1 + 1, 3, none⟩) (v := .slice x7 n7 y7) (by simpa using h7)
      go_wp2
      go_region
      go_wp2
      replace h0 : wr.drew.cell? ⟨w.heap.size + 1, 0, none⟩ = some (.slice x0 n0 y0) := by simpa using h0
      replace h1 : wr.drew.cell? ⟨w.heap.size + 1, 1, none⟩ = some (.slice x1 n1 y1) := by simpa using h1
      replace h2 : wr.drew.cell? ⟨w.heap.size + 1, 2, none⟩ = some (.slice x2 n2 y2) := by simpa using h2
      replace h3 : wr.drew.cell? ⟨w.heap.size + 1, 3, none⟩ = some (.slice x3 n3 y3) := by simpa using h3
      replace h4 : wr.drew.cell? ⟨w.heap.size + 1 + 1, 0, none⟩ = some (.slice x4 n4 y4) := by simpa using h4
      replace h5 : wr.drew.cell? ⟨w.heap.size + 1 + 1, 1, none⟩ = some (.slice x5 n5 y5) := by simpa using h5
      replace h6 : wr.drew.cell? ⟨w.heap.size + 1 + 1, 2, none⟩ = some (.slice x6 n6 y6) := by simpa using h6
      replace h7 : wr.drew.cell? ⟨w.heap.size + 1 + 1, 3, none⟩ = some (.slice x7 n7 y7) := by simpa using h7
      have HG := Lib.hid (And.intro g0 (And.intro g1 (And.intro g2 (And.intro g3 (And.intro g4 (And.intro g5 (And.intro g6 g7)))))))
      clear g0 g1 g2 g3 g4 g5 g6 g7 t0 t1 t2 t3 t4 t5 t6 t7 z0 z1 z2 z3 z4 z5 z6 z7
      refine bodyPost_ret (v := .tuple #[.agg #[.slice x0 n0 y0, .slice x1 n1 y1, .slice x2 n2 y2, .slice x3 n3 y3], .agg #[.slice x4 n4 y4, .slice x5 n5 y5, .slice x6 n6 y6, .slice x7 n7 y7]]) (by simp [results, Try.results91, go_sem, h0, h1, h2, h3, h4, h5, h6, h7]) rfl ?_
      obtain ⟨g0, g1, g2, g3, g4, g5, g6, g7⟩ := HG.out
      refine ⟨fun i => [(x0, n0, y0), (x1, n1, y1), (x2, n2, y2), (x3, n3, y3), (x4, n4, y4), (x5, n5, y5), (x6, n6, y6), (x7, n7, y7)].getD i (none, 0, 0), rfl, INV.out.kept.drew, fun i hi => ?_⟩
      match i, hi with
      | 0, hi => exact ⟨((g0 hi).mono (by omega)).kept (Kept.refl _).drew, ((g4 hi).mono (by omega)).kept (Kept.refl _).drew⟩
      | 1, hi => exact ⟨((g1 hi).mono (by omega)).kept (Kept.refl _).drew, ((g5 hi).mono (by omega)).kept (Kept.refl _).drew⟩
      | 2, hi => exact ⟨((g2 hi).mono (by omega)).kept (Kept.refl _).drew, ((g6 hi).mono (by omega)).kept (Kept.refl _).drew⟩
      | 3, hi => exact ⟨((g3 hi).mono (by omega)).kept (Kept.refl _).drew, ((g7 hi).mono (by omega)).kept (Kept.refl _).drew⟩
      | n + 4, hi => omega
end Go.Proofs.Ytkjciobphbcknaa
