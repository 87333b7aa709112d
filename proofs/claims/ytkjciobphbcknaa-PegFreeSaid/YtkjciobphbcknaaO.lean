/- Package peg: the closure that places the pegs, walked. -/
import Derived.Test.YtkjciobphbcknaaN
namespace Go.Proofs.Ytkjciobphbcknaa
open Go.RowKit
attribute [local go_sem] Oper.semAt_some

abbrev atA (t : At) : Value := .agg #[.int .i64 t.p0.x, .int .i64 t.p0.y, .int .i64 t.p1.x, .int .i64 t.p1.y, .int .i64 t.p2.x, .int .i64 t.p2.y, .int .i64 t.p3.x, .int .i64 t.p3.y]
def encT (x : At × Int) : Array Value := #[atA x.1, .int .i64 x.2]

/-- What the rounds do with each truth. -/
def Rounds (l : Nat) (xs : List (At × Int)) (T : Nat → Prop) (J : List (At × Int) → World → Prop) (Jx : World → Prop) : Prop :=
  ∀ pre x suf W1, xs = pre ++ x :: suf → J pre W1 → YieldAt Fence.wide 0 Try.prog l (encT x) W1 fun e W' =>
      (e = .returned (.bool true) ∧ J (pre ++ [x]) W' ∧ KeptT T W1 W') ∨ (e = .returned (.bool false) ∧ Jx W')

/-- How the closure ends. -/
def PutEnds (T : Nat → Prop) (J : List (At × Int) → World → Prop) (Jx : World → Prop) (n bt : Nat) (W : World) (k : Nat) (t : At) (all : List (At × Int)) (e : Ending) (W' : World) : Prop :=
  (e = .returned (.bool true) ∧ J all W' ∧ KeptT (fun z => T z ∨ z = bt) W W' ∧ ∃ u, Agree k n t u ∧ u.ok ∧ AtIs W' bt u) ∨ (e = .returned (.bool false) ∧ Jx W')

set_option maxRecDepth 100000 in
set_option maxHeartbeats 1000000 in
theorem put_last (T : Nat → Prop) (xs : List (At × Int)) (J : List (At × Int) → World → Prop) (Jx : World → Prop) (p : PegsD) (l bp by_ bt bh ba bq : Nat) (pa la : Option Addr) (pc lc : Nat)
    (hY : Rounds l xs T J Jx) (hbt : ¬ T bt) (moved : Int) (t u : At) (pre suf : List (At × Int)) (W : World) (hn : p.ps.length ≤ 4) (hag : Agree p.ps.length p.ps.length t u) (hu : u.ok)
    (hm : PutMem T W p l bp by_ bt bh ba bq pa la pc lc) (hat : AtIs W bt u) (hJ : J pre W) (hxs : xs = pre ++ (t, moved) :: suf) :
    Calls Try.prog 92 #[.int .i64 p.ps.length, .int .i64 moved, .pointer (some ⟨bp, 0, none⟩), .pointer (some ⟨by_, 0, none⟩), .pointer (some ⟨bt, 0, none⟩), .pointer (some ⟨bh, 0, none⟩), .pointer (some ⟨ba, 0, none⟩), .pointer (some ⟨bq, 0, none⟩)] W
      (PutEnds T J Jx p.ps.length bt W p.ps.length t (pre ++ [(t, moved)])) := by
  have e : t = u := At.ext fun i hi => hag i hi (by omega)
  subst e
  obtain ⟨fn, tmps, assign, body, hy, hR⟩ := hY pre (t, moved) suf W hxs hJ
  simp only [encT] at hy
  have c1 := hm.p1
  have c2 := hm.y
  obtain ⟨x0, y0, -, -⟩ := hat 0 (by omega)
  obtain ⟨x1, y1, -, -⟩ := hat 1 (by omega)
  obtain ⟨x2, y2, -, -⟩ := hat 2 (by omega)
  obtain ⟨x3, y3, -, -⟩ := hat 3 (by omega)
  simp only [At.get, Nat.zero_mul, Nat.one_mul, Nat.zero_add, Nat.reduceMul, Nat.reduceAdd] at x0 y0 x1 y1 x2 y2 x3 y3
  simp at x0 y0 x1 y1 x2 y2 x3 y3
  have HM := Lib.hid hm
  have HAT := Lib.hid hat
  clear hm hat hY hxs hJ hag
  refine callsIn_wide (n := 0) |>.1 ?_
  refine callsIn_of_wp Try.func92 rfl trivial ?_ rfl
  simp only [Try.ntmps92, List.size_toArray, List.length_cons, List.length_nil, Nat.reduceAdd, Nat.reduceSub, Array.replicate_succ, Array.replicate_zero, List.push_toArray, List.append_toArray, List.nil_append, List.cons_append]
  gi_wp2_with (refine ⟨(rfl : Fence.wide.depth = none), ?_⟩; refine hR.mono ?_; clear hR; rintro e W2 (⟨rfl, hJ2, hk2⟩ | ⟨rfl, hJx⟩))
  · go_ret
    exact .inl ⟨rfl, hJ2, hk2.imp (fun k h => .inl h), t, Agree.refl _ _ _, hu, HAT.out.keptT hk2 hbt⟩
  · go_ret
    exact .inr ⟨rfl, hJx⟩
end Go.Proofs.Ytkjciobphbcknaa
