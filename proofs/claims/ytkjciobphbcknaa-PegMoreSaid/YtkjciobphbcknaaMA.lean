/- PegMore: what is built. -/
import Derived.Test.YtkjciobphbcknaaFA
import Derived.Test.YtkjciobphbcknaaAX
import Derived.Outline
import Derived.Deep.DeepCutAuto
import Derived.Deep.RegionHeldLaw
import Derived.Deep.AppendLies
import Derived.RegionTactic
import Derived.ChangeAlike
namespace Go.Proofs.Ytkjciobphbcknaa
open Go.RowKit Go.Sort

/-- A length at block b. (A plain definition.) -/
def LBox (W : World) (b : Nat) (l : Len) : Prop :=
  b < W.heap.size ∧ W.cell? ⟨b, 0, none⟩ = some (.int .i64 l.a) ∧ W.cell? ⟨b, 1, none⟩ = some (.int .i64 l.b) ∧ W.cell? ⟨b, 2, none⟩ = some (.int .i64 l.lo) ∧ W.cell? ⟨b, 3, none⟩ = some (.int .i64 l.hi)
theorem LBox.kept {W W' : World} {b : Nat} {l : Len} (h : LBox W b l) (k : Kept W W') : LBox W' b l := by
  obtain ⟨hl, h0, h1, h2, h3⟩ := h
  exact ⟨k.lt hl, (k.cells _ _ hl).trans h0, (k.cells _ _ hl).trans h1, (k.cells _ _ hl).trans h2, (k.cells _ _ hl).trans h3⟩

/-- What the operations of 'x.Lengths = append(append([]api.Length{}, p.Lengths...), l)' leave. -/
def R4 (base b0 b1 : Nat) (la : Option Addr) (lc : Nat) (ls : List Len) (l : Len) (i : Nat) (v : Nat → Value) (W : World) : Prop :=
  match i with
  | 0 => ∃ g, v 0 = .slice (some ⟨g, 0, none⟩) 0 0 ∧ OwnsLens W base (v 0) []
  | 1 => v 1 = .pointer (some ⟨b0, 2, none⟩)
  | 2 => v 2 = .slice la ls.length lc
  | 3 => OwnsLens W base (v 3) ls
  | 4 => v 4 = .agg #[.int .i64 l.a, .int .i64 l.b, .int .i64 l.lo, .int .i64 l.hi]
  | 5 => ∃ g, v 5 = .slice (some ⟨g, 0, none⟩) 1 1 ∧ LensIn W (some ⟨g, 0, none⟩) [l]
  | 6 => OwnsLens W base (v 6) (ls ++ [l])
  | 7 => v 7 = .pointer (some ⟨b1, 2, none⟩)
  | 8 => W.cell? ⟨b1, 2, none⟩ = some (v 6)
  | _ => True
def keep4 (i j : Nat) : Bool := !(decide ((i = 6 ∨ i = 8) ∧ (j = 0 ∨ j = 3 ∨ j = 5)))
theorem OwnsLens.kept {w w' : World} {base : Nat} {v : Value} {L : List Len} (h : OwnsLens w base v L) (hb : Kept w w') : OwnsLens w' base v L := by
  obtain ⟨h1, h2 | ⟨g, cap, cur, a, b, c, d⟩⟩ := h
  · exact ⟨h1, .inl h2⟩
  · exact ⟨h1, .inr ⟨g, cap, cur, a, b, (Below.block hb g (Array.getElem?_eq_some_iff.1 c).1).trans c, d⟩⟩
theorem R4_kept {base b0 b1 : Nat} {la : Option Addr} {lc : Nat} {ls : List Len} {l : Len} {i : Nat} {v : Nat → Value} {W W' : World} (h : R4 base b0 b1 la lc ls l i v W) (k : Kept W W') : R4 base b0 b1 la lc ls l i v W' := by
  match i, h with
  | 0, ⟨g, h1, h2⟩ => exact ⟨g, h1, OwnsLens.kept h2 k⟩
  | 1, h => exact h
  | 2, h => exact h
  | 3, h => exact OwnsLens.kept h k
  | 4, h => exact h
  | 5, ⟨g, h1, h2⟩ => exact ⟨g, h1, LensIn.kept h2 k⟩
  | 6, h => exact OwnsLens.kept h k
  | 7, h => exact h
  | 8, h => exact (k.cells _ _ (World.block_lt_of_cell? W _ h)).trans h
  | n + 9, _ => trivial
theorem lenBox_reads (W : World) (l : Len) : LensIn (W.alloc (Obj.cells #[.int .i64 l.a, .int .i64 l.b, .int .i64 l.lo, .int .i64 l.hi] 65)) (some ⟨W.heap.size, 0, none⟩) [l] := by
  intro i q hi
  match i, hi with
  | 0, hi => simp at hi; subst hi; exact ⟨_, _, rfl, by simp, by simp [go_sem], by simp [go_sem], by simp [go_sem], by simp [go_sem]⟩
theorem ownsLens_new (W : World) (base : Nat) (hb : base ≤ W.heap.size) : OwnsLens (W.alloc (Obj.cells #[] 65)) base (.slice (some ⟨W.heap.size, 0, none⟩) 0 0) [] := by
  refine ⟨rfl, .inr ⟨W.heap.size, 0, #[], rfl, hb, World.alloc_heap_new W _, Nat.le_refl _, by simp, by simp, rfl⟩⟩
theorem grown_keptT2 {w w' : World} {r : Option Nat} {T : Nat → Prop} (h : w.grownBy w' r) (hr : ∀ k, r = some k → T k) : KeptT T w w' := ⟨h.os, h.tape, h.output, h.size, fun k hk hn => h.block k hk (fun e => hn (hr k e.symm))⟩

/-- What the operations of 'y.Lengths, z.Posts = append([]api.Length{}, p.Lengths...), append([]api.Post{}, p.Posts...)' leave. -/
def R5 (base b0 b2 b3 : Nat) (pa la : Option Addr) (pc lc : Nat) (ps : List Post) (ls : List Len) (i : Nat) (v : Nat → Value) (W : World) : Prop :=
  match i with
  | 0 => ∃ g, v 0 = .slice (some ⟨g, 0, none⟩) 0 0 ∧ OwnsLens W base (v 0) []
  | 1 => v 1 = .pointer (some ⟨b0, 2, none⟩)
  | 2 => v 2 = .slice la ls.length lc
  | 3 => OwnsLens W base (v 3) ls
  | 4 => ∃ g, v 4 = .slice (some ⟨g, 0, none⟩) 0 0 ∧ OwnsPosts W base (v 4) []
  | 5 => v 5 = .pointer (some ⟨b0, 1, none⟩)
  | 6 => v 6 = .slice pa ps.length pc
  | 7 => OwnsPosts W base (v 7) ps
  | 8 => v 8 = .pointer (some ⟨b2, 2, none⟩)
  | 9 => W.cell? ⟨b2, 2, none⟩ = some (v 3)
  | 10 => v 10 = .pointer (some ⟨b3, 1, none⟩)
  | 11 => W.cell? ⟨b3, 1, none⟩ = some (v 7)
  | _ => True
theorem OwnsPosts.kept {w w' : World} {base : Nat} {v : Value} {L : List Post} (h : OwnsPosts w base v L) (hb : Kept w w') : OwnsPosts w' base v L := by
  obtain ⟨h1, h2 | ⟨g, cap, cur, a, b, c, d⟩⟩ := h
  · exact ⟨h1, .inl h2⟩
  · exact ⟨h1, .inr ⟨g, cap, cur, a, b, (Below.block hb g (Array.getElem?_eq_some_iff.1 c).1).trans c, d⟩⟩
theorem OwnsPosts.set {w : World} {base : Nat} {v : Value} {L : List Post} (h : OwnsPosts w base v L) (b o : Nat) (u : Value) (hb : b < base) : OwnsPosts (w.setCell ⟨b, o, none⟩ u) base v L := by
  obtain ⟨h1, h2 | ⟨g, cap, cur, e, hbg, hg, r⟩⟩ := h
  · exact ⟨h1, .inl h2⟩
  · exact ⟨h1, .inr ⟨g, cap, cur, e, hbg, (Below.heap_setCell _ _ _ _ (show g ≠ b by omega)).trans hg, r⟩⟩
theorem ownsPosts_new (W : World) (base : Nat) (hb : base ≤ W.heap.size) : OwnsPosts (W.alloc (Obj.cells #[] 56)) base (.slice (some ⟨W.heap.size, 0, none⟩) 0 0) [] := by
  refine ⟨rfl, .inr ⟨W.heap.size, 0, #[], rfl, hb, World.alloc_heap_new W _, Nat.le_refl _, by simp, by simp, rfl⟩⟩
theorem R5_kept {base b0 b2 b3 : Nat} {pa la : Option Addr} {pc lc : Nat} {ps : List Post} {ls : List Len} {i : Nat} {v : Nat → Value} {W W' : World} (h : R5 base b0 b2 b3 pa la pc lc ps ls i v W) (k : Kept W W') : R5 base b0 b2 b3 pa la pc lc ps ls i v W' := by
  match i, h with
  | 0, ⟨g, h1, h2⟩ => exact ⟨g, h1, OwnsLens.kept h2 k⟩
  | 1, h => exact h
  | 2, h => exact h
  | 3, h => exact OwnsLens.kept h k
  | 4, ⟨g, h1, h2⟩ => exact ⟨g, h1, OwnsPosts.kept h2 k⟩
  | 5, h => exact h
  | 6, h => exact h
  | 7, h => exact OwnsPosts.kept h k
  | 8, h => exact h
  | 9, h => exact (k.cells _ _ (World.block_lt_of_cell? W _ h)).trans h
  | 10, h => exact h
  | 11, h => exact (k.cells _ _ (World.block_lt_of_cell? W _ h)).trans h
  | n + 12, _ => trivial
theorem R5_set {base b0 b2 b3 : Nat} {pa la : Option Addr} {pc lc : Nat} {ps : List Post} {ls : List Len} {i : Nat} {v : Nat → Value} {W : World} (h : R5 base b0 b2 b3 pa la pc lc ps ls i v W) (b o : Nat) (u : Value) (hb : b < base) (h9 : i = 9 → ¬ (b2 = b ∧ 2 = o)) (h11 : i = 11 → ¬ (b3 = b ∧ 1 = o)) : R5 base b0 b2 b3 pa la pc lc ps ls i v (W.setCell ⟨b, o, none⟩ u) := by
  match i, h, h9, h11 with
  | 0, ⟨g, h1, h2⟩, _, _ => exact ⟨g, h1, OwnsLens.set h2 _ _ _ hb⟩
  | 1, h, _, _ => exact h
  | 2, h, _, _ => exact h
  | 3, h, _, _ => exact OwnsLens.set h _ _ _ hb
  | 4, ⟨g, h1, h2⟩, _, _ => exact ⟨g, h1, OwnsPosts.set h2 _ _ _ hb⟩
  | 5, h, _, _ => exact h
  | 6, h, _, _ => exact h
  | 7, h, _, _ => exact OwnsPosts.set h _ _ _ hb
  | 8, h, _, _ => exact h
  | 9, h, h9, _ => exact (World.cell?_setCell_other _ _ _ _ (by intro e; cases e; exact h9 rfl ⟨rfl, rfl⟩)).trans h
  | 10, h, _, _ => exact h
  | 11, h, _, h11 => exact (World.cell?_setCell_other _ _ _ _ (by intro e; cases e; exact h11 rfl ⟨rfl, rfl⟩)).trans h
  | n + 12, _, _, _ => trivial

set_option maxRecDepth 100000 in
set_option maxHeartbeats 8000000 in
theorem pegMore_main (p : PegsD) (l : Len) (i j k : Int) (x : Nat) (pa la : Option Addr) (pc lc : Nat) (w : World) (hp : PegsIn w p pa la) (hv : validB p = true) (hh : heavyB p 3 8 = false) (hx : x < 256) :
    Calls Try.prog 8 #[.agg #[.int .i64 p.side, .slice pa p.ps.length pc, .slice la p.ls.length lc], .agg #[.int .i64 l.a, .int .i64 l.b, .int .i64 l.lo, .int .i64 l.hi], .int .i64 i, .int .i64 j, .int .i64 k, .int .u8 x] w fun e w' => e = .returned (.bool true) ∧ Kept w w' := by
  obtain ⟨s0, s1, l4, l6⟩ := validB_sizes hv
  have hm : p.ps.length ≤ 9223372036854775807 := by omega
  have hm2 : p.ls.length ≤ 9223372036854775807 := by omega
  have HV := Lib.hid hv
  have HH := Lib.hid hh
  have HP := Lib.hid hp
  clear hv hh hp
  go_enter Try.func8, Try.ntmps8
  go_upto_region 3 with (first
    | (go_at_call 11; refine (heavy_any p _ _ _ _ _ _ _ hm hm2 (HP.out.kept (((Kept.refl _).alloc _).alloc _))).mono ?_; rintro e f1 ⟨rfl, k1⟩; have kk1 := Kept.step2 (Kept.refl w) k1; have B1 := ((pbox_new w _ _ _ _).kept ((Kept.refl _).alloc _)).kept k1; obtain ⟨l1, a10, a11, a12, z10, z11, z12⟩ := id B1; rw [HH.out])
    | (go_at_call 35; refine (rvalid_any p _ _ _ _ _ hm hm2 (HP.out.kept kk1)).mono ?_; rintro e f2 ⟨rfl, k2⟩; have kk2 := kk1.step0 k2; have B2 := B1.kept k2; have L2 : LBox f2 (w.heap.size + 1) l := LBox.kept (LBox.kept (W := ((w.alloc (Obj.cells #[Value.int IntKind.i64 p.side, Value.slice pa p.ps.length pc, Value.slice la p.ls.length lc] 25)).alloc (Obj.cells #[Value.int IntKind.i64 l.a, Value.int IntKind.i64 l.b, Value.int IntKind.i64 l.lo, Value.int IntKind.i64 l.hi] 65))) ⟨by simp, by simp [go_sem], by simp [go_sem], by simp [go_sem], by simp [go_sem]⟩ k1) k2; obtain ⟨l2, a20, a21, a22, z20, z21, z22⟩ := id B2; rw [HV.out]))
  have HB2 := Lib.hid B2
  have HL2 := Lib.hid L2
  have HK2 := Lib.hid kk2
  clear k1 k2 kk1 B1 B2 L2 kk2 a10 a11 a12 z10 z11 z12 z20 z21 z22 l1

  go_cut [13, 14, 15] (fun s13 s14 s15 wx => ∃ b1 b2 b3 : Nat, s13 = .pointer (some ⟨b1, 0, none⟩) ∧ s14 = .pointer (some ⟨b2, 0, none⟩) ∧ s15 = .pointer (some ⟨b3, 0, none⟩) ∧ b1 ≠ b2 ∧ b1 ≠ b3 ∧ b2 ≠ b3 ∧ f2.heap.size ≤ b1 ∧ f2.heap.size ≤ b2 ∧ f2.heap.size ≤ b3 ∧ Kept f2 wx ∧
    PBox wx b1 (.int .i64 p.side) (.slice pa p.ps.length pc) (.slice la p.ls.length lc) ∧ PBox wx b2 (.int .i64 p.side) (.slice pa p.ps.length pc) (.slice la p.ls.length lc) ∧ PBox wx b3 (.int .i64 p.side) (.slice pa p.ps.length pc) (.slice la p.ls.length lc))
  case first => as_aux_lemma =>
    have e1 : w.heap.size < f2.heap.size + 1 := by omega
    have e2 : w.heap.size < f2.heap.size + 1 + 1 := by omega
    have e3 : w.heap.size < f2.heap.size + 1 + 1 + 1 := by omega
    go_region
    all_goals
      go_wp2_with fail
      go_meet
      refine ⟨_, _, _, rfl, rfl, rfl, by omega, by omega, by omega, by omega, by omega, by omega, ((((Kept.refl _).alloc _).alloc _).alloc _).drew, ⟨by simp <;> omega, ?_, ?_, ?_, ?_, ?_, ?_⟩, ⟨by simp <;> omega, ?_, ?_, ?_, ?_, ?_, ?_⟩, ⟨by simp <;> omega, ?_, ?_, ?_, ?_, ?_, ?_⟩⟩ <;> simp [go_sem]
  case rest =>
    obtain ⟨b1, b2, b3, rfl, rfl, rfl, n12, n13, n23, g1, g2, g3, kc, P1, P2, P3⟩ := hcut
    obtain ⟨wA, rfl⟩ : ∃ x : World, x = wc := ⟨_, rfl⟩
    clear a20 a21 a22 l2
    have HKC := Lib.hid kc
    have BC := HB2.out.kept kc
    have LC := HL2.out.kept kc
    have hsz : w.heap.size + 1 < f2.heap.size := HL2.out.1
    have kw := HK2.out.step0 kc
    have HPC := Lib.hid (HP.out.kept kw)
    have HBC := Lib.hid BC
    have HLC := Lib.hid LC
    have HP1 := Lib.hid P1
    have HP2 := Lib.hid P2
    have HP3 := Lib.hid P3
    have HPF : Hid (∀ a, la = some a → p.ls ≠ [] → a.block = b1 → False) := fun a e hne e2 => by
      have := (HP.out.kept HK2.out).farL (n := b1) g1 a e hne
      exact this e2
    clear kc BC LC kw P1 P2 P3
    go_upto_region 4 with fail
    go_cut [] (fun wx => ∃ g c : Nat, KeptT (fun q => q = b1) wA wx ∧ PBox wx b1 (.int .i64 p.side) (.slice pa p.ps.length pc) (.slice (some ⟨g, 0, none⟩) (p.ls.length + 1) c) ∧ LensIn wx (some ⟨g, 0, none⟩) (p.ls ++ [l]) ∧ wA.heap.size ≤ g)
    case first => as_aux_lemma =>
      refine wp_region_parts keep4 (GC wA.heap.size (fun b o => b = b1 ∧ o = 2)) (R4 wA.heap.size w.heap.size b1 la lc p.ls l) (by kernel_rfl) (by kernel_rfl) ?_ ?_ ?_ ?_ ?_
      · exact GC.drew wA
      · exact fun _ _ _ h k => h.trans k
      · intro i v v' W h hd hR
        match i, h, hd, hR with
        | 0, h, _, hR => exact (show R4 wA.heap.size w.heap.size b1 la lc p.ls l 0 v' W by unfold R4; rw [← h]; exact hR)
        | 1, h, _, hR => exact h.symm.trans hR
        | 2, h, _, hR => exact h.symm.trans hR
        | 3, h, _, hR => exact (show R4 wA.heap.size w.heap.size b1 la lc p.ls l 3 v' W by unfold R4; rw [← h]; exact hR)
        | 4, h, _, hR => exact h.symm.trans hR
        | 5, h, _, hR => exact (show R4 wA.heap.size w.heap.size b1 la lc p.ls l 5 v' W by unfold R4; rw [← h]; exact hR)
        | 6, h, _, hR => exact (show R4 wA.heap.size w.heap.size b1 la lc p.ls l 6 v' W by unfold R4; rw [← h]; exact hR)
        | 7, h, _, hR => exact h.symm.trans hR
        | 8, _, hd, hR => exact (show R4 wA.heap.size w.heap.size b1 la lc p.ls l 8 v' W by unfold R4; rw [← hd 6 (by kernel_rfl)]; exact hR)
        | n + 9, _, _, _ => trivial
      · intro i o ho a W v hG hd hR hrest
        have hW : ∀ b, b < wA.heap.size → b ≠ b1 → ∀ o, W.cell? ⟨b, o, none⟩ = wA.cell? ⟨b, o, none⟩ := fun b hb hne o => hG.cell b o hb hb (fun e => hne e.1)
        have hbase := hG.size
        have stay : ∀ W' : World, Kept W W' → ∀ j, R4 wA.heap.size w.heap.size b1 la lc p.ls l j v W → R4 wA.heap.size w.heap.size b1 la lc p.ls l j v W' := fun W' k j h => R4_kept h k
        match i, ho with
        | 0, ho =>
          obtain rfl := Option.some.inj ho
          unfold Does
          simp [execOp, go_sem]
          have k : Kept W (W.alloc (Obj.cells #[] 65)) := (Kept.refl W).alloc _
          exact ⟨k.toG, ⟨W.heap.size, rfl, ownsLens_new W _ hbase⟩, fun j _ _ h => stay _ k j h⟩
        | 1, ho =>
          obtain rfl := Option.some.inj ho
          have h6 : a.tmps.getD 6 undef = .pointer (some ⟨w.heap.size, 0, none⟩) := hrest 6 (fresh_of (by kernel_rfl))
          unfold Does
          simp [execOp, go_sem, Act.eval, h6]
          exact ⟨GC.refl W, rfl⟩
        | 2, ho =>
          obtain rfl := Option.some.inj ho
          have h6 : a.tmps.getD 59 undef = .pointer (some ⟨w.heap.size, 2, none⟩) := (hd 1 (by kernel_rfl) 59 rfl).trans (hR 1 (by kernel_rfl))
          have hc : W.cell? ⟨w.heap.size, 2, none⟩ = some (.slice la p.ls.length lc) := (hW _ (by have := HBC.out.1; omega) (by omega) 2).trans HBC.out.2.2.2.1
          unfold Does
          simp [execOp, go_sem, Act.eval, h6, hc]
          exact ⟨GC.refl W, rfl⟩
        | 3, ho =>
          obtain rfl := Option.some.inj ho
          obtain ⟨g, h0, hown⟩ := hR 0 (by kernel_rfl)
          have e0 : a.tmps.getD 58 undef = v 0 := hd 0 (by kernel_rfl) 58 rfl
          have e2 : a.tmps.getD 60 undef = .slice la p.ls.length lc := (hd 2 (by kernel_rfl) 60 rfl).trans (hR 2 (by kernel_rfl))
          rw [h0] at e0 hown
          have hl : LensIn W la p.ls := HPC.out.2.keptT (hG.toT (Nat.le_refl _)) (fun b hb hne => ?_)
          · refine does_append_lens_new (.tmp 58) (.tmp 60) rfl wA.heap.size g p.ls la p.ls.length lc e0 hown e2 rfl hl (by omega) hbase (fun v' w' h1 h2 => ?_)
            exact ⟨h2.toG, h1, fun j _ _ h => stay _ h2 j h⟩
          · rintro ⟨o, rfl, _⟩
            exact HPF.out b hb hne rfl
        | 4, ho =>
          obtain rfl := Option.some.inj ho
          have h7 : a.tmps.getD 7 undef = .pointer (some ⟨w.heap.size + 1, 0, none⟩) := hrest 7 (fresh_of (by kernel_rfl))
          obtain ⟨q0, q1, q2, q3, q4⟩ := HLC.out
          have c1 := (hW _ q0 (by omega) 0).trans q1
          have c2 := (hW _ q0 (by omega) 1).trans q2
          have c3 := (hW _ q0 (by omega) 2).trans q3
          have c4 := (hW _ q0 (by omega) 3).trans q4
          unfold Does
          simp [execOp, go_sem, Act.eval, h7, c1, c2, c3, c4]
          exact ⟨GC.refl W, rfl⟩
        | 5, ho =>
          obtain rfl := Option.some.inj ho
          have e4 : a.tmps.getD 62 undef = .agg #[.int .i64 l.a, .int .i64 l.b, .int .i64 l.lo, .int .i64 l.hi] := (hd 4 (by kernel_rfl) 62 rfl).trans (hR 4 (by kernel_rfl))
          have e4' := e4
          simp only [Array.getD_eq_getD_getElem?] at e4'
          unfold Does
          simp [execOp, go_sem, Act.eval, e4']
          have k : Kept W (W.alloc (Obj.cells #[.int .i64 l.a, .int .i64 l.b, .int .i64 l.lo, .int .i64 l.hi] 65)) := (Kept.refl W).alloc _
          exact ⟨k.toG, ⟨W.heap.size, rfl, lenBox_reads W l⟩, fun j _ _ h => stay _ k j h⟩
        | 6, ho =>
          obtain rfl := Option.some.inj ho
          have hown : OwnsLens W wA.heap.size (v 3) p.ls := hR 3 (by kernel_rfl)
          obtain ⟨g5, h5, hl5⟩ := hR 5 (by kernel_rfl)
          have e3 : a.tmps.getD 61 undef = v 3 := hd 3 (by kernel_rfl) 61 rfl
          have e5 : a.tmps.getD 63 undef = .slice (some ⟨g5, 0, none⟩) 1 1 := (hd 5 (by kernel_rfl) 63 rfl).trans h5
          refine does_append_lens (.tmp 61) (.tmp 63) rfl wA.heap.size (v 3) p.ls [l] (some ⟨g5, 0, none⟩) 1 1 e3 hown e5 rfl hl5 (by simp; omega) hbase (fun v' w' h1 h2 _ => ?_)
          have hlt := fun k e => (World.ownsRow.lt hown k e).1
          refine ⟨GC.ofGrown h2 hlt, h1, fun j hj hk h => ?_⟩
          match j, hj, hk, h with
          | 0, _, hk, _ => exact absurd hk (by decide)
          | 3, _, hk, _ => exact absurd hk (by decide)
          | 5, _, hk, _ => exact absurd hk (by decide)
          | 6, hj, _, _ => exact absurd rfl hj
          | 1, _, _, h => exact h
          | 2, _, _, h => exact h
          | 4, _, _, h => exact h
          | 7, _, _, h => exact h
          | 8, _, _, h => exact (World.cell?_of_block (w := W) (h2.block b1 (World.block_lt_of_cell? W _ h) (fun e => by have := hlt b1 e.symm; have := HP1.out.1; omega))).trans h
          | n + 9, _, _, _ => trivial
        | 7, ho =>
          obtain rfl := Option.some.inj ho
          have h13 : a.tmps.getD 13 undef = .pointer (some ⟨b1, 0, none⟩) := hrest 13 (fresh_of (by kernel_rfl))
          unfold Does
          simp [execOp, go_sem, Act.eval, h13]
          exact ⟨GC.refl W, rfl⟩
        | 8, ho =>
          obtain rfl := Option.some.inj ho
          have e6 : a.tmps.getD 64 undef = v 6 := hd 6 (by kernel_rfl) 64 rfl
          have e7 : a.tmps.getD 65 undef = .pointer (some ⟨b1, 2, none⟩) := (hd 7 (by kernel_rfl) 65 rfl).trans (hR 7 (by kernel_rfl))
          have hown : OwnsLens W wA.heap.size (v 6) (p.ls ++ [l]) := hR 6 (by kernel_rfl)
          obtain ⟨px, cx, h6, _⟩ := OwnsLens.reads hown
          rw [h6] at e6
          obtain ⟨p1, p2, p3, p4, p5, p6, p7⟩ := HP1.out
          have hsome := hG.some b1 2 p1 p1 (by rw [p4]; rfl)
          obtain ⟨old, hold⟩ := Option.isSome_iff_exists.1 hsome
          have hfz := (hG.frozen b1 2 p1 p1).trans p7
          unfold Does
          simp [execOp, go_sem, Act.eval, e6, e7, hold, hfz]
          refine ⟨GC.ofSet ⟨rfl, rfl⟩ _, ?_, fun j hj hk h => ?_⟩
          · show World.cell? _ _ = some (v 6)
            rw [h6, List.length_append]
            exact World.cell?_setCell_same' _ _ _ hsome
          · match j, hj, hk, h with
            | 0, _, hk, _ => exact absurd hk (by decide)
            | 3, _, hk, _ => exact absurd hk (by decide)
            | 5, _, hk, _ => exact absurd hk (by decide)
            | 8, hj, _, _ => exact absurd rfl hj
            | 1, _, _, h => exact h
            | 2, _, _, h => exact h
            | 4, _, _, h => exact h
            | 6, _, _, h => exact OwnsLens.set h b1 2 _ p1
            | 7, _, _, h => exact h
            | n + 9, _, _, _ => trivial
        | n + 9, ho => cases ho
      · intro v W hG hR
        have r6 : OwnsLens W wA.heap.size (v 6) (p.ls ++ [l]) := hR 6 (by decide) (by decide)
        have r8 : W.cell? ⟨b1, 2, none⟩ = some (v 6) := hR 8 (by decide) (by decide)
        simp only [putFrom, Act.put, List.setIfInBounds_toArray, List.set_cons_succ, List.set_cons_zero]
        go_wp2_with fail
        go_meet
        obtain ⟨g, c, h6, hg1, _⟩ := World.ownsRow.form r6 (by simp)
        obtain ⟨_, _, h6', hl6⟩ := OwnsLens.reads r6
        rw [h6] at h6' r8
        cases h6'
        obtain ⟨p1, p2, p3, p4, p5, p6, p7⟩ := HP1.out
        have hT := hG.toT (Nat.le_refl _)
        refine ⟨g, c, ⟨hT.os, hT.tape, hT.output, hT.size, fun k hk hn => hT.block k hk (by rintro ⟨o, rfl, _⟩; exact hn rfl)⟩, ⟨Nat.lt_of_lt_of_le p1 hG.size, ?_, ?_, ?_, ?_, ?_, ?_⟩, hl6, hg1⟩
        · exact (hG.cell b1 0 p1 p1 (by simp)).trans p2
        · exact (hG.cell b1 1 p1 p1 (by simp)).trans p3
        · rw [r8]; simp
        · exact (hG.frozen b1 0 p1 p1).trans p5
        · exact (hG.frozen b1 1 p1 p1).trans p6
        · exact (hG.frozen b1 2 p1 p1).trans p7
    case rest =>
      obtain ⟨gx, cx, kc4, X1, XL, hgx⟩ := hcut
      obtain ⟨wB, rfl⟩ : ∃ x : World, x = wc := ⟨_, rfl⟩
      have pbT : ∀ b v0 v1 v2, b ≠ b1 → PBox wA b v0 v1 v2 → PBox wB b v0 v1 v2 := fun b v0 v1 v2 hne h => by
        obtain ⟨q0, q1, q2, q3, q4, q5, q6⟩ := h
        exact ⟨Nat.lt_of_lt_of_le q0 kc4.size, (kc4.cells _ _ q0 hne).trans q1, (kc4.cells _ _ q0 hne).trans q2, (kc4.cells _ _ q0 hne).trans q3, (kc4.frozens _ _ q0 hne).trans q4, (kc4.frozens _ _ q0 hne).trans q5, (kc4.frozens _ _ q0 hne).trans q6⟩
      have hw1 : w.heap.size < wA.heap.size := HBC.out.1
      have hw0 : w.heap.size < b1 := by omega
      have BD := Lib.hid (pbT _ _ _ _ (by omega) HBC.out)
      have D2 := Lib.hid (pbT _ _ _ _ (Ne.symm n12) HP2.out)
      have D3 := Lib.hid (pbT _ _ _ _ (Ne.symm n13) HP3.out)
      have D1 := Lib.hid X1
      have DL := Lib.hid XL
      have farP : Hid (∀ a, pa = some a → p.ps ≠ [] → a.block < f2.heap.size) := fun a e hne => by
        cases hq : p.ps with
        | nil => exact absurd hq hne
        | cons x r =>
          obtain ⟨b, o, e2, hl, _⟩ := (HP.out.kept HK2.out).1 0 x (by rw [hq]; rfl)
          rw [e] at e2; cases e2; exact hl
      have farL : Hid (∀ a, la = some a → p.ls ≠ [] → a.block < f2.heap.size) := fun a e hne => by
        cases hq : p.ls with
        | nil => exact absurd hq hne
        | cons x r =>
          obtain ⟨b, o, e2, hl, _⟩ := (HP.out.kept HK2.out).2 0 x (by rw [hq]; rfl)
          rw [e] at e2; cases e2; exact hl
      have DP : Hid (PegsIn wB p pa la) := ⟨by
        intro i q hi
        obtain ⟨b, o, rfl, hl, c0, c1, c2, c3⟩ := HPC.out.1 i q hi
        have hlt := farP.out _ rfl (by intro e; rw [e] at hi; simp at hi)
        have hne : b ≠ b1 := by simp at hlt; omega
        exact ⟨b, o, rfl, Nat.lt_of_lt_of_le hl kc4.size, (kc4.cells _ _ hl hne).trans c0, (kc4.cells _ _ hl hne).trans c1, (kc4.cells _ _ hl hne).trans c2, (kc4.cells _ _ hl hne).trans c3⟩,
        HPC.out.2.keptT kc4 (fun a e hne e2 => by have := farL.out a e hne; omega)⟩
      have hA2 : b2 < wA.heap.size := HP2.out.1
      have hA3 : b3 < wA.heap.size := HP3.out.1
      have hws : wA.heap.size ≤ wB.heap.size := kc4.size
      have KB : Hid (Kept w wB) := by
        have h1 : Kept w wA := HK2.out.step0 HKC.out
        have h2 := Kept.size HK2.out
        exact kc4.toKept h1 (fun i e => by omega)
      clear kc4 X1 XL pbT HPC HBC HLC HP1 HP2 HP3 HKC HPF
      go_upto_region 5 with fail
      go_cut [] (fun wx => ∃ vy vz : Value, KeptT (fun q => q = b2 ∨ q = b3) wB wx ∧ PBox wx b2 (.int .i64 p.side) (.slice pa p.ps.length pc) vy ∧ OwnsLens wx wB.heap.size vy p.ls ∧ PBox wx b3 (.int .i64 p.side) vz (.slice la p.ls.length lc) ∧ OwnsPosts wx wB.heap.size vz p.ps)
      case first => as_aux_lemma =>
        refine wp_region_parts (fun _ _ => true) (GC wB.heap.size (fun b o => b = b2 ∧ o = 2 ∨ b = b3 ∧ o = 1)) (R5 wB.heap.size w.heap.size b2 b3 pa la pc lc p.ps p.ls) (by kernel_rfl) (by kernel_rfl) ?_ ?_ ?_ ?_ ?_
        · exact GC.drew wB
        · exact fun _ _ _ h k => h.trans k
        · intro i v v' W h hd hR
          match i, h, hd, hR with
          | 0, h, _, hR => exact (show R5 wB.heap.size w.heap.size b2 b3 pa la pc lc p.ps p.ls 0 v' W by unfold R5; rw [← h]; exact hR)
          | 1, h, _, hR => exact h.symm.trans hR
          | 2, h, _, hR => exact h.symm.trans hR
          | 3, h, _, hR => exact (show R5 wB.heap.size w.heap.size b2 b3 pa la pc lc p.ps p.ls 3 v' W by unfold R5; rw [← h]; exact hR)
          | 4, h, _, hR => exact (show R5 wB.heap.size w.heap.size b2 b3 pa la pc lc p.ps p.ls 4 v' W by unfold R5; rw [← h]; exact hR)
          | 5, h, _, hR => exact h.symm.trans hR
          | 6, h, _, hR => exact h.symm.trans hR
          | 7, h, _, hR => exact (show R5 wB.heap.size w.heap.size b2 b3 pa la pc lc p.ps p.ls 7 v' W by unfold R5; rw [← h]; exact hR)
          | 8, h, _, hR => exact h.symm.trans hR
          | 9, _, hd, hR => exact (show R5 wB.heap.size w.heap.size b2 b3 pa la pc lc p.ps p.ls 9 v' W by unfold R5; rw [← hd 3 (by kernel_rfl)]; exact hR)
          | 10, h, _, hR => exact h.symm.trans hR
          | 11, _, hd, hR => exact (show R5 wB.heap.size w.heap.size b2 b3 pa la pc lc p.ps p.ls 11 v' W by unfold R5; rw [← hd 7 (by kernel_rfl)]; exact hR)
          | n + 12, _, _, _ => trivial
        · intro i o ho a W v hG hd hR hrest
          have hbase := hG.size
          have stay : ∀ W' : World, Kept W W' → ∀ j, R5 wB.heap.size w.heap.size b2 b3 pa la pc lc p.ps p.ls j v W → R5 wB.heap.size w.heap.size b2 b3 pa la pc lc p.ps p.ls j v W' := fun W' k j h => R5_kept h k
          have lw : w.heap.size < wB.heap.size := BD.out.1
          have lb2 : b2 < wB.heap.size := D2.out.1
          have lb3 : b3 < wB.heap.size := D3.out.1
          match i, ho with
          | 0, ho =>
            obtain rfl := Option.some.inj ho
            unfold Does
            simp [execOp, go_sem]
            have k : Kept W (W.alloc (Obj.cells #[] 65)) := (Kept.refl W).alloc _
            exact ⟨k.toG, ⟨W.heap.size, rfl, ownsLens_new W _ hbase⟩, fun j _ h => stay _ k j h⟩
          | 1, ho =>
            obtain rfl := Option.some.inj ho
            have h6 : a.tmps.getD 6 undef = .pointer (some ⟨w.heap.size, 0, none⟩) := hrest 6 (fresh_of (by kernel_rfl))
            unfold Does
            simp [execOp, go_sem, Act.eval, h6]
            exact ⟨GC.refl W, rfl⟩
          | 2, ho =>
            obtain rfl := Option.some.inj ho
            have h6 : a.tmps.getD 67 undef = .pointer (some ⟨w.heap.size, 2, none⟩) := (hd 1 (by kernel_rfl) 67 rfl).trans (hR 1 (by kernel_rfl))
            have hc : W.cell? ⟨w.heap.size, 2, none⟩ = some (.slice la p.ls.length lc) := (hG.cell _ 2 lw lw (by omega)).trans BD.out.2.2.2.1
            unfold Does
            simp [execOp, go_sem, Act.eval, h6, hc]
            exact ⟨GC.refl W, rfl⟩
          | 3, ho =>
            obtain rfl := Option.some.inj ho
            obtain ⟨g, h0, hown⟩ := hR 0 (by kernel_rfl)
            have e0 : a.tmps.getD 66 undef = v 0 := hd 0 (by kernel_rfl) 66 rfl
            have e2 : a.tmps.getD 68 undef = .slice la p.ls.length lc := (hd 2 (by kernel_rfl) 68 rfl).trans (hR 2 (by kernel_rfl))
            rw [h0] at e0 hown
            have hl : LensIn W la p.ls := DP.out.2.keptT (hG.toT (Nat.le_refl _)) (fun b hb hne => by
              rintro ⟨o, h⟩
              have := farL.out b hb hne
              omega)
            exact does_append_lens_new (.tmp 66) (.tmp 68) rfl wB.heap.size g p.ls la p.ls.length lc e0 hown e2 rfl hl (by omega) hbase (fun v' w' h1 h2 => ⟨h2.toG, h1, fun j _ _ h => stay _ h2 j h⟩)
          | 4, ho =>
            obtain rfl := Option.some.inj ho
            unfold Does
            simp [execOp, go_sem]
            have k : Kept W (W.alloc (Obj.cells #[] 56)) := (Kept.refl W).alloc _
            exact ⟨k.toG, ⟨W.heap.size, rfl, ownsPosts_new W _ hbase⟩, fun j _ h => stay _ k j h⟩
          | 5, ho =>
            obtain rfl := Option.some.inj ho
            have h6 : a.tmps.getD 6 undef = .pointer (some ⟨w.heap.size, 0, none⟩) := hrest 6 (fresh_of (by kernel_rfl))
            unfold Does
            simp [execOp, go_sem, Act.eval, h6]
            exact ⟨GC.refl W, rfl⟩
          | 6, ho =>
            obtain rfl := Option.some.inj ho
            have h6 : a.tmps.getD 71 undef = .pointer (some ⟨w.heap.size, 1, none⟩) := (hd 5 (by kernel_rfl) 71 rfl).trans (hR 5 (by kernel_rfl))
            have hc : W.cell? ⟨w.heap.size, 1, none⟩ = some (.slice pa p.ps.length pc) := (hG.cell _ 1 lw lw (by omega)).trans BD.out.2.2.1
            unfold Does
            simp [execOp, go_sem, Act.eval, h6, hc]
            exact ⟨GC.refl W, rfl⟩
          | 7, ho =>
            obtain rfl := Option.some.inj ho
            obtain ⟨g, h0, hown⟩ := hR 4 (by kernel_rfl)
            have e0 : a.tmps.getD 70 undef = v 4 := hd 4 (by kernel_rfl) 70 rfl
            have e2 : a.tmps.getD 72 undef = .slice pa p.ps.length pc := (hd 6 (by kernel_rfl) 72 rfl).trans (hR 6 (by kernel_rfl))
            rw [h0] at e0 hown
            have hl : PostsIn W pa p.ps := by
              have hT := hG.toT (Nat.le_refl _)
              intro i q hi
              obtain ⟨b, o, rfl, hl, c0, c1, c2, c3⟩ := DP.out.1 i q hi
              have hlt := farP.out _ rfl (by intro e; rw [e] at hi; simp at hi)
              have hne : ¬ ∃ o, b = b2 ∧ o = 2 ∨ b = b3 ∧ o = 1 := by simp at hlt; rintro ⟨o, h⟩; omega
              exact ⟨b, o, rfl, Nat.lt_of_lt_of_le hl hT.size, (hT.cells _ _ hl hne).trans c0, (hT.cells _ _ hl hne).trans c1, (hT.cells _ _ hl hne).trans c2, (hT.cells _ _ hl hne).trans c3⟩
            exact does_append_posts_new (.tmp 70) (.tmp 72) rfl wB.heap.size g p.ps pa p.ps.length pc e0 hown e2 rfl hl (by omega) hbase (fun v' w' h1 h2 => ⟨h2.toG, h1, fun j _ _ h => stay _ h2 j h⟩)
          | 8, ho =>
            obtain rfl := Option.some.inj ho
            have h14 : a.tmps.getD 14 undef = .pointer (some ⟨b2, 0, none⟩) := hrest 14 (fresh_of (by kernel_rfl))
            unfold Does
            simp [execOp, go_sem, Act.eval, h14]
            exact ⟨GC.refl W, rfl⟩
          | 9, ho =>
            obtain rfl := Option.some.inj ho
            have e6 : a.tmps.getD 69 undef = v 3 := hd 3 (by kernel_rfl) 69 rfl
            have e7 : a.tmps.getD 74 undef = .pointer (some ⟨b2, 2, none⟩) := (hd 8 (by kernel_rfl) 74 rfl).trans (hR 8 (by kernel_rfl))
            have hown : OwnsLens W wB.heap.size (v 3) p.ls := hR 3 (by kernel_rfl)
            obtain ⟨px, cx', h6, _⟩ := OwnsLens.reads hown
            rw [h6] at e6
            obtain ⟨_, p2, p3, p4, p5, p6, p7⟩ := D2.out
            have hsome := hG.some b2 2 lb2 lb2 (by rw [p4]; rfl)
            obtain ⟨old, hold⟩ := Option.isSome_iff_exists.1 hsome
            have hfz := (hG.frozen b2 2 lb2 lb2).trans p7
            unfold Does
            simp [execOp, go_sem, Act.eval, e6, e7, hold, hfz]
            refine ⟨GC.ofSet (.inl ⟨rfl, rfl⟩) _, ?_, fun j hj h => R5_set h b2 2 _ lb2 (fun e => absurd e hj) (fun e => by omega)⟩
            show World.cell? _ _ = some (v 3)
            rw [h6]
            exact World.cell?_setCell_same' _ _ _ hsome
          | 10, ho =>
            obtain rfl := Option.some.inj ho
            have h14 : a.tmps.getD 15 undef = .pointer (some ⟨b3, 0, none⟩) := hrest 15 (fresh_of (by kernel_rfl))
            unfold Does
            simp [execOp, go_sem, Act.eval, h14]
            exact ⟨GC.refl W, rfl⟩
          | 11, ho =>
            obtain rfl := Option.some.inj ho
            have e6 : a.tmps.getD 73 undef = v 7 := hd 7 (by kernel_rfl) 73 rfl
            have e7 : a.tmps.getD 75 undef = .pointer (some ⟨b3, 1, none⟩) := (hd 10 (by kernel_rfl) 75 rfl).trans (hR 10 (by kernel_rfl))
            have hown : OwnsPosts W wB.heap.size (v 7) p.ps := hR 7 (by kernel_rfl)
            obtain ⟨px, cx', h6, _⟩ := OwnsPosts.reads hown
            rw [h6] at e6
            obtain ⟨_, p2, p3, p4, p5, p6, p7⟩ := D3.out
            have hsome := hG.some b3 1 lb3 lb3 (by rw [p3]; rfl)
            obtain ⟨old, hold⟩ := Option.isSome_iff_exists.1 hsome
            have hfz := (hG.frozen b3 1 lb3 lb3).trans p6
            unfold Does
            simp [execOp, go_sem, Act.eval, e6, e7, hold, hfz]
            refine ⟨GC.ofSet (.inr ⟨rfl, rfl⟩) _, ?_, fun j hj h => R5_set h b3 1 _ lb3 (fun e => by omega) (fun e => absurd e hj)⟩
            show World.cell? _ _ = some (v 7)
            rw [h6]
            exact World.cell?_setCell_same' _ _ _ hsome
          | n + 12, ho => cases ho
        · intro v W hG hR
          have r3 : OwnsLens W wB.heap.size (v 3) p.ls := hR 3 (by decide) (by decide)
          have r7 : OwnsPosts W wB.heap.size (v 7) p.ps := hR 7 (by decide) (by decide)
          have r9 : W.cell? ⟨b2, 2, none⟩ = some (v 3) := hR 9 (by decide) (by decide)
          have r11 : W.cell? ⟨b3, 1, none⟩ = some (v 7) := hR 11 (by decide) (by decide)
          simp only [putFrom, Act.put, List.setIfInBounds_toArray, List.set_cons_succ, List.set_cons_zero]
          go_wp2_with fail
          go_meet
          obtain ⟨p1, p2, p3, p4, p5, p6, p7⟩ := D2.out
          obtain ⟨q1, q2, q3, q4, q5, q6, q7⟩ := D3.out
          have hT := hG.toT (Nat.le_refl _)
          refine ⟨v 3, v 7, ⟨hT.os, hT.tape, hT.output, hT.size, fun k hk hn => hT.block k hk (by rintro ⟨o, ⟨rfl, _⟩ | ⟨rfl, _⟩⟩ <;> simp at hn)⟩, ⟨Nat.lt_of_lt_of_le p1 hG.size, ?_, ?_, r9, ?_, ?_, ?_⟩, r3, ⟨Nat.lt_of_lt_of_le q1 hG.size, ?_, r11, ?_, ?_, ?_, ?_⟩, r7⟩
          · exact (hG.cell b2 0 p1 p1 (by omega)).trans p2
          · exact (hG.cell b2 1 p1 p1 (by omega)).trans p3
          · exact (hG.frozen b2 0 p1 p1).trans p5
          · exact (hG.frozen b2 1 p1 p1).trans p6
          · exact (hG.frozen b2 2 p1 p1).trans p7
          · exact (hG.cell b3 0 q1 q1 (by omega)).trans q2
          · exact (hG.cell b3 2 q1 q1 (by omega)).trans q4
          · exact (hG.frozen b3 0 q1 q1).trans q5
          · exact (hG.frozen b3 1 q1 q1).trans q6
          · exact (hG.frozen b3 2 q1 q1).trans q7
      case rest =>
        obtain ⟨vy, vz, kc5, Y2, YL, Z3, ZP⟩ := hcut
        obtain ⟨wC, rfl⟩ : ∃ x : World, x = wc := ⟨_, rfl⟩
        have CD := PBox.keptT BD.out kc5 (by omega)
        have HCD := Lib.hid CD
        have HC1 := Lib.hid (PBox.keptT D1.out kc5 (by omega))
        have HY2 := Lib.hid Y2
        have HYL := Lib.hid YL
        have HZ3 := Lib.hid Z3
        have HZP := Lib.hid ZP
        have HK5 := Lib.hid kc5
        obtain ⟨l3, a30, a31, a32, z30, z31, z32⟩ := CD
        clear Y2 YL Z3 ZP kc5 z30 z31 z32 a30 a31
        go_upto_if 80 with fail
        go_cut [] (fun wx => KeptT (fun q => q = b2 ∨ q = b3) wB wx ∧ PBox wx b2 (.int .i64 p.side) (.slice pa p.ps.length pc) vy ∧ OwnsLens wx wB.heap.size vy (p.ls.modify (x % p.ls.length) lessLen) ∧ PBox wx b3 (.int .i64 p.side) vz (.slice la p.ls.length lc) ∧ OwnsPosts wx wB.heap.size vz p.ps)
        case first => as_aux_lemma =>
          by_cases hpos : 0 < p.ls.length
          · obtain ⟨g, cy, rfl, hg1, hg2⟩ := World.ownsRow.form HYL.out hpos
            have hmod : x % p.ls.length < p.ls.length := Nat.mod_lt _ hpos
            obtain ⟨q, hq⟩ : ∃ q, p.ls[x % p.ls.length]? = some q := ⟨_, List.getElem?_eq_getElem hmod⟩
            obtain ⟨y0, y1, y2, y3, t1, t2, t3⟩ := id HY2.out
            obtain ⟨_, _, e0, hl0⟩ := OwnsLens.reads HYL.out
            cases e0
            obtain ⟨_, _, e1, hgl, _, _, c2, c3⟩ := hl0 _ _ hq
            cases e1
            have f2' := World.ownsRow.frozenAt HYL.out (x % p.ls.length * 4 + 2)
            simp only [Nat.zero_add] at c2 c3
            have HQ := Lib.hid hq
            obtain ⟨_, _, _, hm1, _, hm3, _⟩ := id ((fit_of_valid HV.out).lens q (List.mem_of_getElem? hq)).1
            clear hq y1 y2 t1 t2 t3 hl0
            go_wp2
            go_region
            all_goals go_wp2
            all_goals go_region
            all_goals go_wp2
            all_goals
              go_meet
              have lb2 : b2 < wB.heap.size := D2.out.1
              have lb3 : b3 < wB.heap.size := D3.out.1
              have kd := fun W : World => ((Kept.refl W).drew).drew
              first
                | (have ev : (lessLen q).lo = q.lo + 1 := by (show min q.hi (q.lo + 1) = _; omega)
                   rw [← ev]
                   exact ⟨((HK5.out.setAbove _ _ hg1).drew).drew, (HY2.out.setFar _ _ (by omega)).kept (kd _), (HYL.out.less HQ.out rfl).kept (kd _), (HZ3.out.setFar _ _ (by omega)).kept (kd _), (HZP.out.setLens HYL.out _ _).kept (kd _)⟩)
                | (have ev : (lessLen q).lo = q.hi := by (show min q.hi (q.lo + 1) = _; omega)
                   rw [← ev]
                   exact ⟨((HK5.out.setAbove _ _ hg1).drew).drew, (HY2.out.setFar _ _ (by omega)).kept (kd _), (HYL.out.less HQ.out rfl).kept (kd _), (HZ3.out.setFar _ _ (by omega)).kept (kd _), (HZP.out.setLens HYL.out _ _).kept (kd _)⟩)
          · go_wp2
            go_meet
            have e : p.ls.modify (x % p.ls.length) lessLen = p.ls := by
              rw [List.length_eq_zero_iff.1 (show p.ls.length = 0 by omega)]; simp
            exact ⟨HK5.out, HY2.out, by rw [e]; exact HYL.out, HZ3.out, HZP.out⟩
        case rest =>
          clear HCD HC1 HY2 HYL HZ3 HZP HK5 l3 a32
          obtain ⟨kc6, Y2, YL, Z3, ZP⟩ := hcut
          obtain ⟨wD, rfl⟩ : ∃ x : World, x = wc := ⟨_, rfl⟩
          have CD := PBox.keptT BD.out kc6 (by omega)
          have HY2 := Lib.hid Y2
          have HYL := Lib.hid YL
          have HZ3 := Lib.hid Z3
          have HZP := Lib.hid ZP
          have HK6 := Lib.hid kc6
          obtain ⟨l3, a30, a31, a32, z30, z31, z32⟩ := CD
          clear Y2 YL Z3 ZP kc6 z30 z31 z32 a30 a32
          go_upto_if 106 with fail
          go_cut [] (fun wx => KeptT (fun q => q = b2 ∨ q = b3) wB wx ∧ PBox wx b2 (.int .i64 p.side) (.slice pa p.ps.length pc) vy ∧ OwnsLens wx wB.heap.size vy (p.ls.modify (x % p.ls.length) lessLen) ∧ PBox wx b3 (.int .i64 p.side) vz (.slice la p.ls.length lc) ∧ OwnsPosts wx wB.heap.size vz (p.ps.modify (x % p.ps.length) lessPost))
          case first => as_aux_lemma =>
            by_cases hpos : 0 < p.ps.length
            · obtain ⟨g, cy, rfl, hg1, hg2⟩ := World.ownsRow.form HZP.out hpos
              have hmod : x % p.ps.length < p.ps.length := Nat.mod_lt _ hpos
              obtain ⟨q, hq⟩ : ∃ q, p.ps[x % p.ps.length]? = some q := ⟨_, List.getElem?_eq_getElem hmod⟩
              obtain ⟨y0, y1, y2, y3, t1, t2, t3⟩ := id HZ3.out
              obtain ⟨_, _, e0, hl0⟩ := OwnsPosts.reads HZP.out
              cases e0
              obtain ⟨_, _, e1, hgl, c0, c1, _, _⟩ := hl0 _ _ hq
              cases e1
              have f2' := World.ownsRow.frozenAt HZP.out (x % p.ps.length * 4 + 1)
              simp only [Nat.zero_add] at c0 c1
              have HQ := Lib.hid hq
              obtain ⟨hm1, hm3, hm4, _⟩ := id ((fit_of_valid HV.out).posts q (List.mem_of_getElem? hq))
              clear hq y1 y3 t1 t2 t3 hl0
              go_wp2
              go_region
              all_goals go_wp2
              all_goals go_region
              all_goals go_wp2
              all_goals
                go_meet
                have lb2 : b2 < wB.heap.size := D2.out.1
                have lb3 : b3 < wB.heap.size := D3.out.1
                have kd := fun W : World => ((Kept.refl W).drew).drew
                first
                  | (have ev : (lessPost q).xhi = q.xhi - 1 := by (show max q.xlo (q.xhi - 1) = _; omega)
                     rw [← ev]
                     exact ⟨((HK6.out.setAbove _ _ hg1).drew).drew, (HY2.out.setFar _ _ (by omega)).kept (kd _), (HYL.out.setPosts HZP.out _ _).kept (kd _), (HZ3.out.setFar _ _ (by omega)).kept (kd _), (HZP.out.less HQ.out rfl).kept (kd _)⟩)
                  | (have ev : (lessPost q).xhi = q.xlo := by (show max q.xlo (q.xhi - 1) = _; omega)
                     rw [← ev]
                     exact ⟨((HK6.out.setAbove _ _ hg1).drew).drew, (HY2.out.setFar _ _ (by omega)).kept (kd _), (HYL.out.setPosts HZP.out _ _).kept (kd _), (HZ3.out.setFar _ _ (by omega)).kept (kd _), (HZP.out.less HQ.out rfl).kept (kd _)⟩)
            · go_wp2
              go_meet
              have e : p.ps.modify (x % p.ps.length) lessPost = p.ps := by
                rw [List.length_eq_zero_iff.1 (show p.ps.length = 0 by omega)]; simp
              exact ⟨HK6.out, HY2.out, HYL.out, HZ3.out, by rw [e]; exact HZP.out⟩
          case rest =>
            clear HY2 HYL HZ3 HZP HK6 l3 a31
            obtain ⟨kc7, Y2, YL, Z3, ZP⟩ := hcut
            obtain ⟨wE, rfl⟩ : ∃ x : World, x = wc := ⟨_, rfl⟩
            have HPE : Hid (PegsIn wE p pa la) := ⟨DP.out.1.keptT kc7 (fun a e hne => by have := farP.out a e hne; omega), DP.out.2.keptT kc7 (fun a e hne => by have := farL.out a e hne; omega)⟩
            have HCE := Lib.hid (PBox.keptT BD.out kc7 (by omega))
            have HC1 := Lib.hid (PBox.keptT D1.out kc7 (by omega))
            have HL1 := Lib.hid (LensIn.keptT DL.out kc7 (fun a e hne => by cases e; show ¬ (gx = b2 ∨ gx = b3); omega))
            have HKE : Hid (Kept w wE) := kc7.toKept KB.out (fun i e => by omega)
            have HC2 := Lib.hid Y2
            have HC3 := Lib.hid Z3
            obtain ⟨yp, yc, rfl, YL2⟩ := OwnsLens.reads YL
            obtain ⟨zp, zc, rfl, ZP2⟩ := OwnsPosts.reads ZP
            rw [List.length_modify] at *
            have HYE := Lib.hid YL2
            have HZE := Lib.hid ZP2
            clear kc7 Y2 YL Z3 ZP YL2 ZP2 farP farL D1 D2 D3 DL DP KB BD
            obtain ⟨S0, eS⟩ : ∃ x, x = (valOf (0, 0, false) (movedR p)).2.1 := ⟨_, rfl⟩
            obtain ⟨N0, eN⟩ : ∃ x, x = (valOf (0, 0, false) (movedR p)).2.2 := ⟨_, rfl⟩
            obtain ⟨E0, eE⟩ : ∃ x, x = errOf (movedR p) := ⟨_, rfl⟩
            obtain ⟨ua, eua⟩ : ∃ x, x = (valOf ((0, 0), (0, 0)) (whereR p i)).1.1 := ⟨_, rfl⟩
            obtain ⟨ub, eub⟩ : ∃ x, x = (valOf ((0, 0), (0, 0)) (whereR p i)).1.2 := ⟨_, rfl⟩
            obtain ⟨va, eva⟩ : ∃ x, x = (valOf ((0, 0), (0, 0)) (whereR p i)).2.1 := ⟨_, rfl⟩
            obtain ⟨vb, evb⟩ : ∃ x, x = (valOf ((0, 0), (0, 0)) (whereR p i)).2.2 := ⟨_, rfl⟩
            obtain ⟨F0, eF⟩ : ∃ x, x = errOf (whereR p i) := ⟨_, rfl⟩
            obtain ⟨sa, esa⟩ : ∃ x, x = (valOf (0, 0) (apartR p i j)).1 := ⟨_, rfl⟩
            obtain ⟨sb, esb⟩ : ∃ x, x = (valOf (0, 0) (apartR p i j)).2 := ⟨_, rfl⟩
            obtain ⟨G0, eG⟩ : ∃ x, x = errOf (apartR p i j) := ⟨_, rfl⟩
            obtain ⟨ta, eta⟩ : ∃ x, x = (valOf (0, 0) (areaR p i j k)).1 := ⟨_, rfl⟩
            obtain ⟨tb, etb⟩ : ∃ x, x = (valOf (0, 0) (areaR p i j k)).2 := ⟨_, rfl⟩
            obtain ⟨H0, eH⟩ : ∃ x, x = errOf (areaR p i j k) := ⟨_, rfl⟩
            obtain ⟨n0, en⟩ : ∃ x, x = valOf 0 (placesR p i) := ⟨_, rfl⟩
            obtain ⟨I0, eI⟩ : ∃ x, x = errOf (placesR p i) := ⟨_, rfl⟩
            have K13 : Hid (∀ w', PegsIn w' p pa la → Calls Try.prog 13 #[.agg #[.int .i64 p.side, .slice pa p.ps.length pc, .slice la p.ls.length lc]] w' fun e w'' => e = .returned (.tuple #[.int .i64 S0, .bool N0, .int .i64 E0]) ∧ Kept w' w'') := fun w' h => by
              rw [eS, eN, eE]; exact moved_any p pa la pc lc w' hm hm2 h
            have K15 : Hid (∀ w', PegsIn w' p pa la → Calls Try.prog 15 #[.agg #[.int .i64 p.side, .slice pa p.ps.length pc, .slice la p.ls.length lc], .int .i64 i] w' fun e w'' => e = .returned (.tuple #[.agg #[.int .i64 ua, .int .i64 ub], .agg #[.int .i64 va, .int .i64 vb], .int .i64 F0]) ∧ Kept w' w'') := fun w' h => by
              rw [eua, eub, eva, evb, eF]; exact where_any p i pa la pc lc w' hm hm2 h
            have K21 : Hid (∀ w', PegsIn w' p pa la → Calls Try.prog 21 #[.agg #[.int .i64 p.side, .slice pa p.ps.length pc, .slice la p.ls.length lc], .int .i64 i, .int .i64 j] w' fun e w'' => e = .returned (.tuple #[.agg #[.int .i64 sa, .int .i64 sb], .int .i64 G0]) ∧ Kept w' w'') := fun w' h => by
              rw [esa, esb, eG]; exact apartF_any p i j pa la pc lc w' hm hm2 h
            have K23 : Hid (∀ w', PegsIn w' p pa la → Calls Try.prog 23 #[.agg #[.int .i64 p.side, .slice pa p.ps.length pc, .slice la p.ls.length lc], .int .i64 i, .int .i64 j, .int .i64 k] w' fun e w'' => e = .returned (.tuple #[.agg #[.int .i64 ta, .int .i64 tb], .int .i64 H0]) ∧ Kept w' w'') := fun w' h => by
              rw [eta, etb, eH]; exact areaF_any p i j k pa la pc lc w' hm hm2 h
            have K17 : Hid (∀ w', PegsIn w' p pa la → Calls Try.prog 17 #[.agg #[.int .i64 p.side, .slice pa p.ps.length pc, .slice la p.ls.length lc], .int .i64 i] w' fun e w'' => e = .returned (.tuple #[.int .i64 n0, .int .i64 I0]) ∧ Kept w' w'') := fun w' h => by
              rw [en, eI]; exact places_any p i pa la pc lc w' hm hm2 h
            have HeS := Lib.hid eS
            have HeN := Lib.hid eN
            have HeE := Lib.hid eE
            have Heua := Lib.hid eua
            have Heub := Lib.hid eub
            have Heva := Lib.hid eva
            have Hevb := Lib.hid evb
            have HeF := Lib.hid eF
            have Hesa := Lib.hid esa
            have Hesb := Lib.hid esb
            have HeG := Lib.hid eG
            have Heta := Lib.hid eta
            have Hetb := Lib.hid etb
            have HeH := Lib.hid eH
            have Hen := Lib.hid en
            have HeI := Lib.hid eI
            clear eS eN eE eua eub eva evb eF esa esb eG eta etb eH en eI
            obtain ⟨l3, a30, a31, a32, _, _, _⟩ := id HCE.out
            have k0 := Lib.hid (Kept.refl wE)
            go_upto_region 19 with (first
              | (go_at_call 13; refine (K13.out _ HPE.out).mono ?_; rintro e f3 ⟨rfl, q3⟩; have k3 := Lib.hid q3; have B3 := HCE.out.kept q3; obtain ⟨l4', a40, a41, a42, _, _, _⟩ := id B3; clear q3 B3)
              | (go_at_call 15; refine (K15.out _ (HPE.out.kept k3.out)).mono ?_; rintro e f4 ⟨rfl, q4⟩; have k4 := Lib.hid (k3.out.step0 q4); have B4 := HCE.out.kept k4.out; obtain ⟨l5', a50, a51, a52, _, _, _⟩ := id B4; clear q4 B4)
              | (go_at_call 21; refine (K21.out _ (HPE.out.kept ((k4.out.alloc _).alloc _))).mono ?_; rintro e f5 ⟨rfl, q5⟩; have k5 := Lib.hid (((k4.out.alloc _).alloc _).step0 q5); have k45 := Lib.hid q5; have B5 := HCE.out.kept k5.out; obtain ⟨l6', a60, a61, a62, _, _, _⟩ := id B5; clear q5 B5)
              | (go_at_call 23; refine (K23.out _ (HPE.out.kept (k5.out.alloc _))).mono ?_; rintro e f6 ⟨rfl, q6⟩; have k6 := Lib.hid ((k5.out.alloc _).step0 q6); have k56 := Lib.hid q6; have B6 := HCE.out.kept k6.out; obtain ⟨l7', a70, a71, a72, _, _, _⟩ := id B6; clear q6 B6)
              | (go_at_call 17; refine (K17.out _ (HPE.out.kept (k6.out.alloc _))).mono ?_; rintro e f7 ⟨rfl, q7⟩; have k7 := Lib.hid ((k6.out.alloc _).step0 q7); have k67 := Lib.hid q7; clear q7))
            have HSP : Hid (∀ w', Kept f7 w' → (w'.cell? ⟨f4.heap.size, 0, none⟩ = some (.int .i64 ua) ∧ w'.cell? ⟨f4.heap.size, 1, none⟩ = some (.int .i64 ub) ∧ w'.cell? ⟨f4.heap.size + 1, 0, none⟩ = some (.int .i64 va) ∧ w'.cell? ⟨f4.heap.size + 1, 1, none⟩ = some (.int .i64 vb) ∧
                w'.cell? ⟨f5.heap.size, 0, none⟩ = some (.int .i64 sa) ∧ w'.cell? ⟨f5.heap.size, 1, none⟩ = some (.int .i64 sb) ∧ w'.cell? ⟨f6.heap.size, 0, none⟩ = some (.int .i64 ta) ∧ w'.cell? ⟨f6.heap.size, 1, none⟩ = some (.int .i64 tb))) := by
              intro w' kk
              have e67 := Kept.step0 k67.out kk
              have e5 := Kept.step1 (Kept.refl f6) e67
              have e56 := Kept.step0 k56.out e5
              have e4 := Kept.step1 (Kept.refl f5) e56
              have e45 := Kept.step0 k45.out e4
              refine ⟨?_, ?_, ?_, ?_, ?_, ?_, ?_, ?_⟩
              · rw [e45.cells _ _ (by simp; omega)]; simp [go_sem]
              · rw [e45.cells _ _ (by simp; omega)]; simp [go_sem]
              · rw [e45.cells _ _ (by simp)]; simp [go_sem]
              · rw [e45.cells _ _ (by simp)]; simp [go_sem]
              · rw [e56.cells _ _ (by simp)]; simp [go_sem]
              · rw [e56.cells _ _ (by simp)]; simp [go_sem]
              · rw [e67.cells _ _ (by simp)]; simp [go_sem]
              · rw [e67.cells _ _ (by simp)]; simp [go_sem]
            have HM1 := Lib.hid (HC1.out.kept k7.out)
            have HM2 := Lib.hid (HC2.out.kept k7.out)
            have HM3 := Lib.hid (HC3.out.kept k7.out)
            have TAB : Hid (∀ n, n < 3 → ∃ q qa ql qc qd, Third p f7 [.int .i64 p.side, .slice pa p.ps.length pc, .slice (some ⟨gx, 0, none⟩) (p.ls.length + 1) cx, .int .i64 p.side, .slice pa p.ps.length pc, .slice yp p.ls.length yc, .int .i64 p.side, .slice zp p.ps.length zc, .slice la p.ls.length lc] n q qa ql qc qd) := by
              intro n hn
              have kp := HPE.out.kept k7.out
              match n, hn with
              | 0, _ => exact ⟨plusP p l, pa, _, pc, cx, rfl, rfl, (show some (Value.slice (some ⟨gx, 0, none⟩) (p.ls.length + 1) cx) = some (.slice (some ⟨gx, 0, none⟩) (p.ls ++ [l]).length cx) by simp), ⟨kp.1, HL1.out.kept k7.out⟩, (by show p.ps.length ≤ 10; omega), (by show (p.ls ++ [l]).length ≤ 10; simp; omega), plus_sub p l, fun _ t m h => plus_truth h⟩
              | 1, _ => exact ⟨narrowL p (x % p.ls.length), pa, yp, pc, yc, rfl, rfl, (show some (Value.slice yp p.ls.length yc) = some (.slice yp (p.ls.modify _ lessLen).length yc) by simp), ⟨kp.1, HYE.out.kept k7.out⟩, (by show p.ps.length ≤ 10; omega), (by show (p.ls.modify _ lessLen).length ≤ 10; simp; omega), narrowL_sub HV.out _, fun _ t m h => narrowL_truth HV.out h⟩
              | 2, _ => exact ⟨narrowP p (x % p.ps.length), zp, la, zc, lc, rfl, (show some (Value.slice zp p.ps.length zc) = some (.slice zp (p.ps.modify _ lessPost).length zc) by simp), rfl, ⟨HZE.out.kept k7.out, kp.2⟩, (by show (p.ps.modify _ lessPost).length ≤ 10; simp; omega), (by show p.ls.length ≤ 10; omega), narrowP_sub HV.out _, fun h => by omega⟩
            have HK7 : Hid (Kept w f7) := HKE.out.step0 k7.out
            obtain ⟨_, c10, c11, c12, _, _, _⟩ := id HM1.out
            obtain ⟨_, c20, c21, c22, _, _, _⟩ := id HM2.out
            obtain ⟨_, c30, c31, c32, _, _, _⟩ := id HM3.out
            clear a30 a31 a32 a40 a41 a42 a50 a51 a52 a60 a61 a62 a70 a71 a72 l3 l4' l5' l6' l7' k0 k3 k4 k5 k6 k45 k56 k67 HC1 HC2 HC3 HCE HPE HL1 HYE HZE K13 K15 K21 K23 K17
            go_wp2
            go_loopw [167] (fun i wr => ∃ n : Nat, n ≤ 3 ∧ i = .int .i64 n ∧ Kept f7 wr ∧ Row wr f7.heap.size [.int .i64 p.side, .slice pa p.ps.length pc, .slice (some ⟨gx, 0, none⟩) (p.ls.length + 1) cx, .int .i64 p.side, .slice pa p.ps.length pc, .slice yp p.ls.length yc, .int .i64 p.side, .slice zp p.ps.length zc, .slice la p.ls.length lc]) (fun i _ => 3 - (intOf i).toNat)
            case atStart => exact ⟨0, by omega, rfl, (Kept.refl _).alloc _, row_new _ _ _⟩
            case round =>
              clear c10 c11 c12 c20 c21 c22 c30 c31 c32
              obtain ⟨n, hn3, rfl, kr, hrow⟩ := hrel
              have HKR := Lib.hid kr
              have HROW := Lib.hid hrow
              by_cases hlt : n < 3
              · obtain ⟨q, qa, ql, qc, qd, T⟩ := TAB.out n hlt
                have t0 := hrow.2 _ _ T.v0
                have t1 := hrow.2 _ _ T.v1
                have t2 := hrow.2 _ _ T.v2
                have HT := Lib.hid T
                have HPQ : Hid (PegsIn wr q qa ql) := T.mem.kept kr
                have mq1 : q.ps.length ≤ 9223372036854775807 := by have := T.m1; omega
                have mq2 : q.ls.length ≤ 9223372036854775807 := by have := T.m2; omega
                clear kr hrow T
                by_cases hvq : validB q = true
                · by_cases hne : truthsL q = []
                  · as_aux_lemma =>
                      have HVQ := Lib.hid hvq
                      have K13 : Hid (∀ w', PegsIn w' q qa ql → Calls Try.prog 13 #[.agg #[.int .i64 q.side, .slice qa q.ps.length qc, .slice ql q.ls.length qd]] w' fun e w'' => ∃ a b, e = .returned (.tuple #[.int .i64 a, .bool b, .int .i64 10]) ∧ Kept w' w'') := fun w' h => by
                        refine (moved_any q qa ql qc qd w' mq1 mq2 h).mono ?_
                        rintro e w'' ⟨rfl, hk⟩
                        rw [movedR_clash hvq hne]
                        exact ⟨_, _, rfl, hk⟩
                      clear hvq hne
                      go_wp2_with (first
                        | (go_at_call 35; refine (rvalid_any q qa ql qc qd _ mq1 mq2 (HPQ.out.kept ((Kept.refl _).alloc _))).mono ?_; rintro e g1 ⟨rfl, r1⟩; have B1 := (pbox_new wr _ _ _ _).kept r1; obtain ⟨l1, d10, d11, d12, _, _, _⟩ := id B1; have kg1 := Kept.step1 (Kept.refl wr) r1; rw [HVQ.out])
                        | (go_at_call 13; refine (K13.out _ (HPQ.out.kept kg1)).mono ?_; rintro e g2 ⟨ya, yb, rfl, r2⟩; have kg2 := kg1.step0 r2))
                      go_roundw
                      case rel => exact ⟨n + 1, by omega, by go_num, HKR.out.step0 kg2, HROW.out.kept kg2⟩
                      case measure => simp [intOf]; omega
                  · as_aux_lemma =>
                      have HVQ := Lib.hid hvq
                      have htd := told HV.out hvq HT.out.sub hne i j k
                      have hE : E0 = 0 := by rw [HeE.out]; exact htd.pe
                      subst hE
                      obtain ⟨xa, exa⟩ : ∃ x, x = (valOf ((0, 0), (0, 0)) (whereR q i)).1.1 := ⟨_, rfl⟩
                      obtain ⟨xb, exb⟩ : ∃ x, x = (valOf ((0, 0), (0, 0)) (whereR q i)).1.2 := ⟨_, rfl⟩
                      obtain ⟨ya, eya⟩ : ∃ x, x = (valOf ((0, 0), (0, 0)) (whereR q i)).2.1 := ⟨_, rfl⟩
                      obtain ⟨yb, eyb⟩ : ∃ x, x = (valOf ((0, 0), (0, 0)) (whereR q i)).2.2 := ⟨_, rfl⟩
                      obtain ⟨ra, era⟩ : ∃ x, x = (valOf (0, 0) (apartR q i j)).1 := ⟨_, rfl⟩
                      obtain ⟨rb, erb⟩ : ∃ x, x = (valOf (0, 0) (apartR q i j)).2 := ⟨_, rfl⟩
                      obtain ⟨aa, eaa⟩ : ∃ x, x = (valOf (0, 0) (areaR q i j k)).1 := ⟨_, rfl⟩
                      obtain ⟨ab, eab⟩ : ∃ x, x = (valOf (0, 0) (areaR q i j k)).2 := ⟨_, rfl⟩
                      obtain ⟨cc, ecc⟩ : ∃ x, x = valOf 0 (placesR q i) := ⟨_, rfl⟩
                      have J15 : Hid (∀ w', PegsIn w' q qa ql → Calls Try.prog 15 #[.agg #[.int .i64 q.side, .slice qa q.ps.length qc, .slice ql q.ls.length qd], .int .i64 i] w' fun e w'' => e = .returned (.tuple #[.agg #[.int .i64 xa, .int .i64 xb], .agg #[.int .i64 ya, .int .i64 yb], .int .i64 F0]) ∧ Kept w' w'') := fun w' h => by
                        rw [exa, exb, eya, eyb, HeF.out, ← htd.wh]; exact where_any q i qa ql qc qd w' mq1 mq2 h
                      have J21 : Hid (∀ w', PegsIn w' q qa ql → Calls Try.prog 21 #[.agg #[.int .i64 q.side, .slice qa q.ps.length qc, .slice ql q.ls.length qd], .int .i64 i, .int .i64 j] w' fun e w'' => e = .returned (.tuple #[.agg #[.int .i64 ra, .int .i64 rb], .int .i64 G0]) ∧ Kept w' w'') := fun w' h => by
                        rw [era, erb, HeG.out, ← htd.ap]; exact apartF_any q i j qa ql qc qd w' mq1 mq2 h
                      have J23 : Hid (∀ w', PegsIn w' q qa ql → Calls Try.prog 23 #[.agg #[.int .i64 q.side, .slice qa q.ps.length qc, .slice ql q.ls.length qd], .int .i64 i, .int .i64 j, .int .i64 k] w' fun e w'' => e = .returned (.tuple #[.agg #[.int .i64 aa, .int .i64 ab], .int .i64 H0]) ∧ Kept w' w'') := fun w' h => by
                        rw [eaa, eab, HeH.out, ← htd.ar]; exact areaF_any q i j k qa ql qc qd w' mq1 mq2 h
                      have J17 : Hid (∀ w', PegsIn w' q qa ql → Calls Try.prog 17 #[.agg #[.int .i64 q.side, .slice qa q.ps.length qc, .slice ql q.ls.length qd], .int .i64 i] w' fun e w'' => e = .returned (.tuple #[.int .i64 cc, .int .i64 I0]) ∧ Kept w' w'') := fun w' h => by
                        rw [ecc, HeI.out, ← htd.pl]; exact places_any q i qa ql qc qd w' mq1 mq2 h
                      have HF : Hid (F0 = 0 → (ua ≤ xa ∧ xb ≤ ub) ∧ va ≤ ya ∧ yb ≤ vb) := by rw [exa, exb, eya, eyb, Heua.out, Heub.out, Heva.out, Hevb.out, HeF.out]; exact htd.whs
                      have HG : Hid (G0 = 0 → sa ≤ ra ∧ rb ≤ sb) := by rw [era, erb, Hesa.out, Hesb.out, HeG.out]; exact htd.aps
                      have HHH : Hid (H0 = 0 → ta ≤ aa ∧ ab ≤ tb) := by rw [eaa, eab, Heta.out, Hetb.out, HeH.out]; exact htd.ars
                      have HCC : Hid (cc ≤ n0) := by rw [ecc, Hen.out]; exact htd.pls
                      have J13 : ∃ (S1 : Int) (N1 : Bool), Hid (∀ w', PegsIn w' q qa ql → Calls Try.prog 13 #[.agg #[.int .i64 q.side, .slice qa q.ps.length qc, .slice ql q.ls.length qd]] w' fun e w'' => e = .returned (.tuple #[.int .i64 S1, .bool N1, .int .i64 0]) ∧ Kept w' w'') ∧ Hid (n < 2 → bits BinOp.andNot IntKind.i64 S1 S0 = 0 ∧ (N1 = true → N0 = true)) := by
                        refine ⟨_, _, fun w' h => (by have hmv := moved_any q qa ql qc qd w' mq1 mq2 h; rw [htd.qe] at hmv; exact hmv), fun hn2 => ?_⟩
                        obtain ⟨A, B, S, S', b, b', h1, h2, hS, hS', hb, hand⟩ := sub_moved HV.out hvq HT.out.sub.1 (HT.out.tru hn2) hne
                        rw [HeS.out, HeN.out, h1, h2]
                        exact ⟨bits_andnot hS hS' hand, hb⟩
                      obtain ⟨S1, N1, K13, HM⟩ := J13
                      clear exa
                      clear exb
                      clear eya
                      clear eyb
                      clear era
                      clear erb
                      clear eaa
                      clear eab
                      clear ecc
                      clear hvq hne htd
                      go_upto_region 28 with (first
                        | (go_at_call 35; refine (rvalid_any q qa ql qc qd _ mq1 mq2 (HPQ.out.kept ((Kept.refl _).alloc _))).mono ?_; rintro e g1 ⟨rfl, r1⟩; have B1 := (pbox_new wr _ _ _ _).kept r1; obtain ⟨l1, d10, d11, d12, _, _, _⟩ := id B1; have kg1 := Kept.step1 (Kept.refl wr) r1; rw [HVQ.out])
                        | (go_at_call 13; refine (K13.out _ (HPQ.out.kept kg1)).mono ?_; rintro e g2 ⟨rfl, r2⟩; have kg2 := kg1.step0 r2; have B2 := B1.kept r2))
                      have HB2' := Lib.hid B2
                      have HKG2 := Lib.hid kg2
                      clear d10 d11 d12 l1 r1 r2 kg1 kg2 B1 B2 t0 t1 t2
                      go_cut [203] (fun s wx => s = .bool false ∧ wx = g2)
                      case first =>
                        as_aux_lemma =>
                          by_cases hn2 : n < 2
                          · obtain ⟨hbn, hnn⟩ := HM.out hn2
                            cases N1 with
                            | true =>
                              obtain rfl := hnn rfl
                              go_wp2_with fail
                              go_meet
                              exact ⟨rfl, rfl⟩
                            | false =>
                              clear hnn
                              go_wp2_with fail
                              go_meet
                              exact ⟨rfl, rfl⟩
                          · go_wp2_with fail
                            go_meet
                            exact ⟨rfl, rfl⟩
                      case rest =>
                        obtain ⟨rfl, rfl⟩ := hcut
                        have HQ2 := Lib.hid (HPQ.out.kept HKG2.out)
                        obtain ⟨l1, d10, d11, d12, _, _, _⟩ := id HB2'.out
                        have hmark : 0 = 0 := rfl
                        go_upto_region 34 with (first
                          | (go_at_call 15; refine (J15.out _ HQ2.out).mono ?_; rintro e g3 ⟨rfl, q3⟩; have k3 := Lib.hid q3; have B3 := HB2'.out.kept k3.out; obtain ⟨l2, d20, d21, d22, _, _, _⟩ := id B3; clear q3 B3)
                          | (go_at_call 21; refine (J21.out _ (HQ2.out.kept ((k3.out.alloc _).alloc _))).mono ?_; rintro e g4 ⟨rfl, q4⟩; have k4 := Lib.hid (((k3.out.alloc _).alloc _).step0 q4); have k34 := Lib.hid q4; have B4 := HB2'.out.kept k4.out; obtain ⟨l3', d30, d31, d32, _, _, _⟩ := id B4; clear q4 B4)
                          | (go_at_call 23; refine (J23.out _ (HQ2.out.kept (k4.out.alloc _))).mono ?_; rintro e g5 ⟨rfl, q5⟩; have k5 := Lib.hid ((k4.out.alloc _).step0 q5); have k45 := Lib.hid q5; have B5 := HB2'.out.kept k5.out; obtain ⟨l4', d40, d41, d42, _, _, _⟩ := id B5; clear q5 B5)
                          | (go_at_call 17; refine (J17.out _ (HQ2.out.kept (k5.out.alloc _))).mono ?_; rintro e g6 ⟨rfl, q6⟩; have k6 := Lib.hid ((k5.out.alloc _).step0 q6); have k56 := Lib.hid q6; clear q6))
                        have HSQ : Hid (∀ w', Kept g6 w' → ((w'.cell? ⟨f4.heap.size, 0, none⟩ = some (.int .i64 ua) ∧ w'.cell? ⟨f4.heap.size, 1, none⟩ = some (.int .i64 ub) ∧ w'.cell? ⟨f4.heap.size + 1, 0, none⟩ = some (.int .i64 va) ∧ w'.cell? ⟨f4.heap.size + 1, 1, none⟩ = some (.int .i64 vb) ∧
                            w'.cell? ⟨f5.heap.size, 0, none⟩ = some (.int .i64 sa) ∧ w'.cell? ⟨f5.heap.size, 1, none⟩ = some (.int .i64 sb) ∧ w'.cell? ⟨f6.heap.size, 0, none⟩ = some (.int .i64 ta) ∧ w'.cell? ⟨f6.heap.size, 1, none⟩ = some (.int .i64 tb)) ∧
                            w'.cell? ⟨g3.heap.size, 0, none⟩ = some (.int .i64 xa) ∧ w'.cell? ⟨g3.heap.size, 1, none⟩ = some (.int .i64 xb) ∧ w'.cell? ⟨g3.heap.size + 1, 0, none⟩ = some (.int .i64 ya) ∧ w'.cell? ⟨g3.heap.size + 1, 1, none⟩ = some (.int .i64 yb) ∧
                            w'.cell? ⟨g4.heap.size, 0, none⟩ = some (.int .i64 ra) ∧ w'.cell? ⟨g4.heap.size, 1, none⟩ = some (.int .i64 rb) ∧ w'.cell? ⟨g5.heap.size, 0, none⟩ = some (.int .i64 aa) ∧ w'.cell? ⟨g5.heap.size, 1, none⟩ = some (.int .i64 ab))) := by
                          intro w' kk
                          have e67 := Kept.step0 k56.out kk
                          have e5 := Kept.step1 (Kept.refl g5) e67
                          have e56 := Kept.step0 k45.out e5
                          have e4 := Kept.step1 (Kept.refl g4) e56
                          have e45 := Kept.step0 k34.out e4
                          refine ⟨HSP.out w' (((HKR.out.step0 HKG2.out).step0 k6.out).step0 kk), ?_, ?_, ?_, ?_, ?_, ?_, ?_, ?_⟩
                          · rw [e45.cells _ _ (by simp; omega)]; simp [go_sem]
                          · rw [e45.cells _ _ (by simp; omega)]; simp [go_sem]
                          · rw [e45.cells _ _ (by simp)]; simp [go_sem]
                          · rw [e45.cells _ _ (by simp)]; simp [go_sem]
                          · rw [e56.cells _ _ (by simp)]; simp [go_sem]
                          · rw [e56.cells _ _ (by simp)]; simp [go_sem]
                          · rw [e67.cells _ _ (by simp)]; simp [go_sem]
                          · rw [e67.cells _ _ (by simp)]; simp [go_sem]
                        have HKG6 : Hid (Kept wr g6) := HKG2.out.step0 k6.out
                        clear l1 d10 d11 d12 l2 d20 d21 d22 l3' d30 d31 d32 l4' d40 d41 d42 k3 k4 k5 k6 k34 k45 k56 J15 J21 J23 J17 K13 HB2' HSP HKG2 HQ2 hmark
                        go_cut [294] (fun s wx => s = .bool false ∧ Kept g6 wx)
                        case first =>
                          as_aux_lemma =>
                            have hcc := HCC.out
                            by_cases hF : F0 = 0 <;> by_cases hG : G0 = 0 <;> by_cases hH : H0 = 0
                            all_goals
                              try (obtain ⟨⟨u1, u2⟩, u3, u4⟩ := HF.out hF; subst hF)
                              try (obtain ⟨u5, u6⟩ := HG.out hG; subst hG)
                              try (obtain ⟨u7, u8⟩ := HHH.out hH; subst hH)
                              have kz := Lib.hid (Kept.refl g6)
                              obtain ⟨⟨_, _, _, _, _, _, _, _⟩, _, _, _, _, _, _, _, _⟩ := HSQ.out _ kz.out
                              go_wp2_with (go_at_call 40; refine (in40_any _ _ _ _ _).mono ?_; rintro e h1 ⟨rfl, r1⟩; replace kz := Lib.hid (kz.out.step0 r1); clear r1; obtain ⟨⟨_, _, _, _, _, _, _, _⟩, _, _, _, _, _, _, _, _⟩ := HSQ.out _ kz.out)
                              all_goals (go_meet; exact ⟨by rw [show decide (n0 < cc) = false from decide_eq_false (by omega)], kz.out⟩)
                        case rest =>
                          as_aux_lemma =>
                            obtain ⟨rfl, kf⟩ := hcut
                            go_wp2
                            go_roundw
                            case rel => exact ⟨n + 1, by omega, by go_num, HKR.out.step0 (HKG6.out.step0 kf), HROW.out.kept (HKG6.out.step0 kf)⟩
                            case measure => simp [intOf]; omega
                · as_aux_lemma =>
                    have HVQ : Hid (validB q = false) := Bool.eq_false_iff.2 hvq
                    clear hvq
                    go_wp2_with (go_at_call 35; refine (rvalid_any q qa ql qc qd _ mq1 mq2 (HPQ.out.kept ((Kept.refl _).alloc _))).mono ?_; rintro e g1 ⟨rfl, r1⟩; have kg1 := Kept.step1 (Kept.refl wr) r1; rw [HVQ.out])
                    go_roundw
                    case rel => exact ⟨n + 1, by omega, by go_num, HKR.out.step0 kg1, HROW.out.kept kg1⟩
                    case measure => simp [intOf]; omega
              · as_aux_lemma =>
                  obtain rfl : n = 3 := by omega
                  clear kr hrow
                  go_wp2_with (go_at_call 12; refine (alive_any _).mono ?_; rintro e g1 ⟨rfl, r1⟩)
                  go_ret
                  exact ⟨rfl, (HK7.out.step0 HKR.out).step0 r1⟩
end Go.Proofs.Ytkjciobphbcknaa
