/- Package peg: the closure that places the pegs, walked. -/
import Derived.Test.YtkjciobphbcknaaM
namespace Go.Proofs.Ytkjciobphbcknaa
open Go.RowKit

/-- Block b holds an array of slices of places, in blocks from lo on that are not bt. -/
def Arr4 (T : Nat → Prop) (W : World) (bt b n : Nat) (f : Nat → List Pl) : Prop :=
  ∀ i, i < n → ∃ pa c, W.cell? ⟨b, i, none⟩ = some (.slice pa (f i).length c) ∧ PlsIn W pa (f i) ∧ ∀ a, pa = some a → ¬ T a.block ∧ a.block ≠ bt
theorem PlsIn.keptT {T : Nat → Prop} {W W' : World} {pa : Option Addr} {L : List Pl} (h : PlsIn W pa L) (hk : KeptT T W W') (hn : ∀ a, pa = some a → ¬ T a.block) : PlsIn W' pa L := fun i s hi => by
  obtain ⟨b, o, rfl, hl, h1, h2⟩ := h i s hi
  have := hn _ rfl
  exact ⟨b, o, rfl, Nat.lt_of_lt_of_le hl hk.size, (hk.cells _ _ hl this).trans h1, (hk.cells _ _ hl this).trans h2⟩
theorem LensIn.keptT {T : Nat → Prop} {W W' : World} {pa : Option Addr} {L : List Len} (h : LensIn W pa L) (hk : KeptT T W W') (hn : ∀ a, pa = some a → L ≠ [] → ¬ T a.block) : LensIn W' pa L := fun i s hi => by
  obtain ⟨b, o, rfl, hl, h1, h2, h3, h4⟩ := h i s hi
  have := hn _ rfl (by rintro rfl; simp at hi)
  exact ⟨b, o, rfl, Nat.lt_of_lt_of_le hl hk.size, (hk.cells _ _ hl this).trans h1, (hk.cells _ _ hl this).trans h2, (hk.cells _ _ hl this).trans h3, (hk.cells _ _ hl this).trans h4⟩
theorem Arr4.keptT {T : Nat → Prop} {W W' : World} {bt b n : Nat} {f : Nat → List Pl} (h : Arr4 T W bt b n f) (hk : KeptT T W W') (hb : ¬ T b) : Arr4 T W' bt b n f := fun i hi => by
  obtain ⟨pa, c, h1, h2, h3⟩ := h i hi
  exact ⟨pa, c, (hk.cells _ _ (World.block_lt_of_cell? W _ h1) hb).trans h1, h2.keptT hk (fun a e => (h3 a e).1), h3⟩
/-- 'But block bt' as a set. -/
theorem keptT_setCell (W : World) (b o : Nat) (v : Value) : KeptT (fun k => k = b) W (W.setCell ⟨b, o, none⟩ v) :=
  ⟨rfl, rfl, rfl, by simp, fun k _ hk => Below.heap_setCell _ _ _ _ hk⟩
theorem KeptT.imp {T T' : Nat → Prop} {W W' : World} (h : KeptT T W W') (hi : ∀ k, T k → T' k) : KeptT T' W W' := ⟨h.os, h.tape, h.output, h.size, fun k hk hn => h.block k hk (fun e => hn (hi k e))⟩

/-- What the closure reads. -/
structure PutMem (T : Nat → Prop) (W : World) (p : PegsD) (l bp by_ bt bh ba bq : Nat) (pa la : Option Addr) (pc lc : Nat) : Prop where
  p0 : W.cell? ⟨bp, 0, none⟩ = some (.int .i64 p.side)
  p1 : W.cell? ⟨bp, 1, none⟩ = some (.slice pa p.ps.length pc)
  p2 : W.cell? ⟨bp, 2, none⟩ = some (.slice la p.ls.length lc)
  ls : LensIn W la p.ls
  y : W.cell? ⟨by_, 0, none⟩ = some (.func (.yield l) #[] #[])
  q : W.cell? ⟨bq, 0, none⟩ = some (.func (.func 92) #[] #[.pointer (some ⟨bp, 0, none⟩), .pointer (some ⟨by_, 0, none⟩), .pointer (some ⟨bt, 0, none⟩), .pointer (some ⟨bh, 0, none⟩), .pointer (some ⟨ba, 0, none⟩), .pointer (some ⟨bq, 0, none⟩)])
  h : Arr4 T W bt bh p.ps.length (homeL p)
  a : Arr4 T W bt ba p.ps.length (awayL p)
  np : ¬ T bp ∧ bp ≠ bt
  nl : ∀ a, la = some a → p.ls ≠ [] → ¬ T a.block ∧ a.block ≠ bt
  ny : ¬ T by_ ∧ by_ ≠ bt
  nq : ¬ T bq ∧ bq ≠ bt
  nh : ¬ T bh ∧ bh ≠ bt
  na : ¬ T ba ∧ ba ≠ bt
theorem PutMem.turn {T U : Nat → Prop} {W W' : World} {p : PegsD} {l bp by_ bt bh ba bq : Nat} {pa la : Option Addr} {pc lc : Nat} (m : PutMem T W p l bp by_ bt bh ba bq pa la pc lc) (hk : KeptT U W W') (hU : ∀ k, U k → T k ∨ k = bt) :
    PutMem T W' p l bp by_ bt bh ba bq pa la pc lc := by
  have nU : ∀ k, ¬ T k ∧ k ≠ bt → ¬ U k := fun k hn hu => (hU k hu).elim hn.1 hn.2
  have c : ∀ {b o : Nat} {v : Value}, W.cell? ⟨b, o, none⟩ = some v → ¬ T b ∧ b ≠ bt → W'.cell? ⟨b, o, none⟩ = some v := fun h hn => (hk.cells _ _ (World.block_lt_of_cell? W _ h) (nU _ hn)).trans h
  have ar : ∀ {b : Nat} {f : Nat → List Pl}, Arr4 T W bt b p.ps.length f → ¬ T b ∧ b ≠ bt → Arr4 T W' bt b p.ps.length f := fun h hn i hi => by
    obtain ⟨pa, c', h1, h2, h3⟩ := h i hi
    exact ⟨pa, c', c h1 hn, h2.keptT hk (fun a e => nU _ (h3 a e)), h3⟩
  exact ⟨c m.p0 m.np, c m.p1 m.np, c m.p2 m.np, m.ls.keptT hk (fun a e h => nU _ (m.nl a e h)), c m.y m.ny, c m.q m.nq, ar m.h m.nh, ar m.a m.na, m.np, m.nl, m.ny, m.nq, m.nh, m.na⟩
theorem PutMem.kept {T : Nat → Prop} {W W' : World} {p : PegsD} {l bp by_ bt bh ba bq : Nat} {pa la : Option Addr} {pc lc : Nat} (m : PutMem T W p l bp by_ bt bh ba bq pa la pc lc) (hk : Kept W W') :
    PutMem T W' p l bp by_ bt bh ba bq pa la pc lc := m.turn (U := fun _ => False) (Kept.toT hk _) (fun _ h => h.elim)
end Go.Proofs.Ytkjciobphbcknaa
namespace Go.Proofs.Ytkjciobphbcknaa
open Go.RowKit
attribute [local go_sem] Oper.semAt_some

abbrev atA (t : At) : Value := .agg #[.int .i64 t.p0.x, .int .i64 t.p0.y, .int .i64 t.p1.x, .int .i64 t.p1.y, .int .i64 t.p2.x, .int .i64 t.p2.y, .int .i64 t.p3.x, .int .i64 t.p3.y]
def encT (x : At × Int) : Array Value := #[atA x.1, .int .i64 x.2]

/-- What the rounds do with each truth. -/
def Rounds (l : Nat) (xs : List (At × Int)) (T : Nat → Prop) (J : List (At × Int) → World → Prop) (Jx : World → Prop) : Prop :=
  ∀ pre x suf W1, xs = pre ++ x :: suf → J pre W1 → YieldAt Fence.wide 0 Try.prog l (encT x) W1 fun e W' =>
      (e = .returned (.bool true) ∧ J (pre ++ [x]) W' ∧ KeptT T W1 W') ∨ (e = .returned (.bool false) ∧ Jx W')

/-- How the closure ends. -/
def PutEnds (T : Nat → Prop) (J : List (At × Int) → World → Prop) (Jx : World → Prop) (n bt : Nat) (W : World) (k : Nat) (t : At) (all : List (At × Int)) (e : Ending) (W' : World) : Prop :=
  (e = .returned (.bool true) ∧ J all W' ∧ KeptT (fun z => T z ∨ z = bt) W W' ∧ ∃ u, Agree k n t u ∧ u.ok ∧ AtIs W' bt u) ∨ (e = .returned (.bool false) ∧ Jx W')

set_option maxRecDepth 100000 in
set_option maxHeartbeats 1000000 in
theorem put_last (T : Nat → Prop) (xs : List (At × Int)) (J : List (At × Int) → World → Prop) (Jx : World → Prop) (p : PegsD) (l bp by_ bt bh ba bq : Nat) (pa la : Option Addr) (pc lc : Nat)
    (hY : Rounds l xs T J Jx) (hbt : ¬ T bt) (moved : Int) (t u : At) (pre suf : List (At × Int)) (W : World) (hn : p.ps.length ≤ 4) (hag : Agree p.ps.length p.ps.length t u) (hu : u.ok)
    (hm : PutMem T W p l bp by_ bt bh ba bq pa la pc lc) (hat : AtIs W bt u) (hJ : J pre W) (hxs : xs = pre ++ (t, moved) :: suf) :
    Calls Try.prog 92 #[.int .i64 p.ps.length, .int .i64 moved, .pointer (some ⟨bp, 0, none⟩), .pointer (some ⟨by_, 0, none⟩), .pointer (some ⟨bt, 0, none⟩), .pointer (some ⟨bh, 0, none⟩), .pointer (some ⟨ba, 0, none⟩), .pointer (some ⟨bq, 0, none⟩)] W
      (PutEnds T J Jx p.ps.length bt W p.ps.length t (pre ++ [(t, moved)])) := by
  have e : t = u := At.ext fun i hi => hag i hi (by omega)
  subst e
  obtain ⟨fn, tmps, assign, body, hy, hR⟩ := hY pre (t, moved) suf W hxs hJ
  simp only [encT] at hy
  have c1 := hm.p1
  have c2 := hm.y
  obtain ⟨x0, y0, -, -⟩ := hat 0 (by omega)
  obtain ⟨x1, y1, -, -⟩ := hat 1 (by omega)
  obtain ⟨x2, y2, -, -⟩ := hat 2 (by omega)
  obtain ⟨x3, y3, -, -⟩ := hat 3 (by omega)
  simp only [At.get, Nat.zero_mul, Nat.one_mul, Nat.zero_add, Nat.reduceMul, Nat.reduceAdd] at x0 y0 x1 y1 x2 y2 x3 y3
  simp at x0 y0 x1 y1 x2 y2 x3 y3
  have HM := Lib.hid hm
  have HAT := Lib.hid hat
  clear hm hat hY hxs hJ hag
  refine callsIn_wide (n := 0) |>.1 ?_
  refine callsIn_of_wp Try.func92 rfl trivial ?_ rfl
  simp only [Try.ntmps92, List.size_toArray, List.length_cons, List.length_nil, Nat.reduceAdd, Nat.reduceSub, Array.replicate_succ, Array.replicate_zero, List.push_toArray, List.append_toArray, List.nil_append, List.cons_append]
  gi_wp2_with (refine ⟨(rfl : Fence.wide.depth = none), ?_⟩; refine hR.mono ?_; clear hR; rintro e W2 (⟨rfl, hJ2, hk2⟩ | ⟨rfl, hJx⟩))
  · go_ret
    exact .inl ⟨rfl, hJ2, hk2.imp (fun k h => .inl h), t, Agree.refl _ _ _, hu, HAT.out.keptT hk2 hbt⟩
  · go_ret
    exact .inr ⟨rfl, hJx⟩
end Go.Proofs.Ytkjciobphbcknaa
