/- Package peg: the closure that places the pegs: one peg more. -/
import Derived.Test.YtkjciobphbcknaaO
namespace Go.Proofs.Ytkjciobphbcknaa
open Go.RowKit
attribute [local go_sem] Oper.semAt_some

def nextL (p : PegsD) (moved : Int) (m k : Nat) (t : At) (s : Pl) : List At := if lensRightB p.ls (t.set k s) k then putL p moved m (k + 1) (t.set k s) else []
def withM (moved : Int) (l : List At) : List (At × Int) := l.map fun t => (t, moved)

theorem withM_append (moved : Int) (a b : List At) : withM moved (a ++ b) = withM moved a ++ withM moved b := by simp [withM]
theorem putL_succ (p : PegsD) (moved : Int) (m k : Nat) (t : At) : putL p moved (m + 1) k t = (hereL p moved k).flatMap (nextL p moved m k t) := rfl
theorem flat_split {α β : Type} (f : α → List β) (L : List α) (j : Nat) (h : j < L.length) : L.flatMap f = (L.take j).flatMap f ++ f L[j] ++ (L.drop (j + 1)).flatMap f := by
  have e : L = L.take j ++ L[j] :: L.drop (j + 1) := by rw [← List.drop_eq_getElem_cons h, List.take_append_drop]
  rw [show L.flatMap f = (L.take j ++ L[j] :: L.drop (j + 1)).flatMap f from congrArg (fun l => l.flatMap f) e, List.flatMap_append, List.flatMap_cons, List.append_assoc]
theorem flat_take {α β : Type} (f : α → List β) (L : List α) (j : Nat) (h : j < L.length) : (L.take (j + 1)).flatMap f = (L.take j).flatMap f ++ f L[j] := by
  rw [show (L.take (j + 1)).flatMap f = (L.take j ++ [L[j]]).flatMap f from congrArg (fun l => l.flatMap f) (List.take_succ_eq_append_getElem h), List.flatMap_append, List.flatMap_cons, List.flatMap_nil, List.append_nil]

set_option maxRecDepth 100000 in
set_option maxHeartbeats 4000000 in
theorem put_any (T : Nat → Prop) (xs : List (At × Int)) (B : Nat) (J : List (At × Int) → World → Prop) (Jx : World → Prop) (p : PegsD) (l bp by_ bt bh ba bq : Nat) (pa la : Option Addr) (pc lc : Nat)
    (hY : Rounds l xs T J Jx) (hbt : ¬ T bt) (hB : B ≤ bt) (hJs : ∀ pre, Stable B (J pre)) (hf : Fit p) (moved : Int) : ∀ (m k : Nat) (t u : At) (pre suf : List (At × Int)) (W : World), k + m = p.ps.length → Agree k p.ps.length t u → u.ok → B ≤ W.heap.size →
    PutMem T W p l bp by_ bt bh ba bq pa la pc lc → AtIs W bt u → J pre W → xs = pre ++ withM moved (putL p moved m k t) ++ suf →
    Calls Try.prog 92 #[.int .i64 k, .int .i64 moved, .pointer (some ⟨bp, 0, none⟩), .pointer (some ⟨by_, 0, none⟩), .pointer (some ⟨bt, 0, none⟩), .pointer (some ⟨bh, 0, none⟩), .pointer (some ⟨ba, 0, none⟩), .pointer (some ⟨bq, 0, none⟩)] W
      (PutEnds T J Jx p.ps.length bt W k t (pre ++ withM moved (putL p moved m k t))) := by
  intro m
  induction m with
  | zero =>
    intro k t u pre suf W hk hag hu hBW hm hat hJ hxs
    obtain rfl : k = p.ps.length := by omega
    exact put_last T xs J Jx p l bp by_ bt bh ba bq pa la pc lc hY hbt moved t u pre suf W hf.n4 hag hu hm hat hJ (by simpa [putL, withM] using hxs)
  | succ m ih =>
    intro k t u pre suf W hk hag hu hBW hm hat hJ hxs
    have hkn : k < p.ps.length := by omega
    have hk4 : k < 4 := by have := hf.n4; omega
    have t0 : ((k : Int) == (p.ps.length : Int)) = false := by simp; omega
    have i0 : (0 : Int) ≤ (k : Int) := by omega
    have i1 : (k : Int) < 4 := by omega
    obtain ⟨ph, ch, dh, _, _⟩ := hm.h k hkn
    obtain ⟨px, cx, dx, plx, npx⟩ : ∃ px cx, (W.cell? ⟨if (k : Int) = moved then ba else bh, k, none⟩ = some (.slice px (hereL p moved k).length cx)) ∧ PlsIn W px (hereL p moved k) ∧ ∀ a, px = some a → ¬ T a.block ∧ a.block ≠ bt := by
      unfold hereL
      split
      · exact hm.a k hkn
      · exact hm.h k hkn
    have hLen := hereL_length hf moved k
    have HX := Lib.hid hxs
    have HM := Lib.hid hm
    have HAT := Lib.hid hat
    have HJ := Lib.hid hJ
    have HP := Lib.hid plx
    have c1 := hm.p1
    clear hxs hm hat hJ plx
    refine callsIn_wide (n := 0) |>.1 ?_
    refine callsIn_of_wp Try.func92 rfl trivial ?_ rfl
    simp only [Try.ntmps92, List.size_toArray, List.length_cons, List.length_nil, Nat.reduceAdd, Nat.reduceSub, Array.replicate_succ, Array.replicate_zero, List.push_toArray, List.append_toArray, List.nil_append, List.cons_append]
    by_cases hmv : (k : Int) = moved
    · have hmb : ((k : Int) == moved) = true := by simp [hmv]
      rw [if_pos hmv] at dx
      clear hmv
      gi_wp2
      gi_loopw [13, 34] (fun _ i wr => ∃ j : Nat, j ≤ (hereL p moved k).length ∧ i = .int .i64 j ∧ J (pre ++ withM moved (((hereL p moved k).take j).flatMap (nextL p moved m k t))) wr ∧ KeptT (fun z => T z ∨ z = bt) W wr ∧ ∃ u, Agree k p.ps.length t u ∧ u.ok ∧ AtIs wr bt u) (fun _ i _ => (hereL p moved k).length - (intOf i).toNat)
      case atStart => exact ⟨0, Nat.zero_le _, rfl, by simpa [withM] using HJ.out, KeptT.refl _, u, hag, hu, HAT.out⟩
      case round =>
        clear HJ HAT hag hu
        obtain ⟨j, hj, rfl, hJ, hkw, u2, hag, hu, hat⟩ := hrel
        have hm := HM.out.turn hkw (fun z h => h)
        have hBr : B ≤ wr.heap.size := Nat.le_trans hBW hkw.size
        have hpl := HP.out.keptT hkw (fun a e => by have := npx a e; rintro (h | h) <;> simp_all)
        by_cases hlt : j < (hereL p moved k).length
        · obtain ⟨b, o, rfl, hbs, e1, e2⟩ := hpl j _ (List.getElem?_eq_getElem hlt)
          have npb := npx _ rfl
          obtain ⟨x0, y0, fx0, fy0⟩ := hat k hk4
          have j0 : (0 : Int) ≤ (j : Int) := by omega
          have j1 : (j : Int) < ((hereL p moved k).length : Int) := by omega
          have q2 := hm.p2
          have HJ := Lib.hid hJ
          have HPL := Lib.hid hpl
          have lbt := World.block_lt_of_cell? wr _ x0
          have lbp := World.block_lt_of_cell? wr _ q2
          have nbp : bp ≠ bt := hm.np.2
          have HXS : Hid (xs = (pre ++ withM moved (((hereL p moved k).take j).flatMap (nextL p moved m k t))) ++ withM moved (nextL p moved m k t (hereL p moved k)[j]) ++ (withM moved (((hereL p moved k).drop (j + 1)).flatMap (nextL p moved m k t)) ++ suf)) := by
            rw [Hid, HX.out, putL_succ, flat_split _ _ j hlt, withM_append, withM_append]; simp only [List.append_assoc]
          have HNX : Hid (withM moved (((hereL p moved k).take (j + 1)).flatMap (nextL p moved m k t)) = withM moved (((hereL p moved k).take j).flatMap (nextL p moved m k t)) ++ withM moved (nextL p moved m k t (hereL p moved k)[j])) := by
            rw [Hid, flat_take _ _ j hlt, withM_append]
          have hsok : (hereL p moved k)[j].ok := hereL_ok hf (List.getElem_mem hlt)
          generalize (hereL p moved k)[j] = s at *
          generalize hcl : withM moved (((hereL p moved k).take j).flatMap (nextL p moved m k t)) = done at *
          clear hcl
          have a3 := hat.set k hk4 s
          have k3 : KeptT (fun z => z = bt) wr ((wr.setCell ⟨bt, k * 2, none⟩ (.int .i64 s.x)).setCell ⟨bt, k * 2 + 1, none⟩ (.int .i64 s.y)) := (keptT_setCell _ _ _ _).trans (keptT_setCell _ _ _ _)
          have b3 : Below B wr ((wr.setCell ⟨bt, k * 2, none⟩ (.int .i64 s.x)).setCell ⟨bt, k * 2 + 1, none⟩ (.int .i64 s.y)) := ((Below.refl B wr).setCell (p := ⟨bt, k * 2, none⟩) hB _).setCell (p := ⟨bt, k * 2 + 1, none⟩) hB _
          have M3 := Lib.hid (hm.turn k3 (fun z h => .inr h))
          have ag3 := hag.set hk4 s
          have agb := hag.setOne (s := s) hk4 hkn
          have agb2 : ∀ {v : At}, Agree (k + 1) p.ps.length (t.set k s) v → Agree k p.ps.length t v := fun h => (Agree.refl k p.ps.length t).back hk4 h hkn
          have ok3 := At.set_ok (k := k) hu hsok
          generalize u2.set k s = u3 at *
          obtain ⟨v0, w0, -, -⟩ := a3 0 (by omega)
          obtain ⟨v1, w1, -, -⟩ := a3 1 (by omega)
          obtain ⟨v2, w2, -, -⟩ := a3 2 (by omega)
          obtain ⟨v3, w3, -, -⟩ := a3 3 (by omega)
          simp [At.get] at v0 w0 v1 w1 v2 w2 v3 w3
          have A3 := Lib.hid a3
          have HPL3 := Lib.hid (hpl.keptT k3 (fun a e => by simpa using (npx a e).2))
          clear hm hat hJ hpl a3 HPL hag hu
          have HLA : Hid (lensRightB p.ls (t.set k s) k = lensRightB p.ls u3 k) := lensRight_agree hf.lens ag3
          cases hlr : lensRightB p.ls u3 k with
          | true =>
            have HLR := Lib.hid hlr
            have HN : Hid (nextL p moved m k t s = putL p moved m (k + 1) (t.set k s)) := by rw [Hid, nextL, HLA.out, hlr]; rfl
            clear hlr
            gi_wp2_with (first
              | (refine ⟨(trivial : Fence.wide.fn 93), (rfl : Fence.wide.depth = none), ?_⟩; refine (callsIn_wide.2 (lengthsRight_any p.ls la lc u3 k _ ok3 (fun l hl => (hf.lens l hl).1) (M3.out.ls.kept ((Kept.refl _).alloc _)) hf.l6)).mono ?_; rintro e w4 ⟨rfl, hb4⟩; have m4 := (M3.out.kept ((Kept.refl _).alloc _)).kept hb4; have q4 := m4.q; have a4 := (A3.out.kept ((Kept.refl _).alloc _)).kept hb4; have s4 := (hb4.size); have p4 := Lib.hid ((HPL3.out.kept ((Kept.refl _).alloc _)).kept hb4); have J4 := Lib.hid (hJs _ _ _ (hJs _ _ _ HJ.out (b3.alloc (by simpa using hBr) _)) (Below.mono hb4 (by simp; omega))); rw [HLR.out]; have M4 := Lib.hid m4; have A4 := Lib.hid a4; clear m4 a4)
              | (refine ⟨(trivial : Fence.wide.fn 92), (rfl : Fence.wide.depth = none), ?_⟩
                 have ih' := ih (k + 1) (t.set k s) u3 (pre ++ done) (withM moved (((hereL p moved k).drop (j + 1)).flatMap (nextL p moved m k t)) ++ suf) w4 (by omega) ag3 ok3 (by simp at s4; omega) M4.out A4.out J4.out (by rw [HXS.out, HN.out])
                 rw [show ((k + 1 : Nat) : Int) = (k : Int) + 1 from by simp] at ih'
                 refine (callsIn_wide.2 ih').mono ?_
                 clear ih'
                 rintro e w5 (⟨rfl, hJ5, ag5k, u5, ag5, ok5, at5⟩ | ⟨rfl, hJx⟩)))
            · have kk : KeptT (fun z => T z ∨ z = bt) W w5 := ((hkw.trans (k3.imp (fun z h => .inr h))).trans (Kept.toT (((Kept.refl _).alloc _).step0 hb4) _)).trans ag5k
              go_roundw
              case rel => exact ⟨j + 1, by omega, by go_num, by rw [HNX.out, HN.out, ← List.append_assoc]; exact hJ5, kk, u5, agb2 ag5, ok5, at5⟩
              case measure => simp [intOf]; omega
            · go_ret
              exact .inr ⟨rfl, hJx⟩
          | false =>
            have HLR := Lib.hid hlr
            have HN : Hid (nextL p moved m k t s = []) := by rw [Hid, nextL, HLA.out, hlr]; rfl
            clear hlr
            gi_wp2_with (refine ⟨(trivial : Fence.wide.fn 93), (rfl : Fence.wide.depth = none), ?_⟩; refine (callsIn_wide.2 (lengthsRight_any p.ls la lc u3 k _ ok3 (fun l hl => (hf.lens l hl).1) (M3.out.ls.kept ((Kept.refl _).alloc _)) hf.l6)).mono ?_; rintro e w4 ⟨rfl, hb4⟩; have m4 := (M3.out.kept ((Kept.refl _).alloc _)).kept hb4; have q4 := m4.q; have a4 := (A3.out.kept ((Kept.refl _).alloc _)).kept hb4; have s4 := (hb4.size); have p4 := Lib.hid ((HPL3.out.kept ((Kept.refl _).alloc _)).kept hb4); have J4 := Lib.hid (hJs _ _ _ (hJs _ _ _ HJ.out (b3.alloc (by simpa using hBr) _)) (Below.mono hb4 (by simp; omega))); rw [HLR.out]; have M4 := Lib.hid m4; have A4 := Lib.hid a4; clear m4 a4)
            refine ⟨fun _ h => (by cases h), ?_⟩
            gi_wp2
            have kk : KeptT (fun z => T z ∨ z = bt) W w4 := (hkw.trans (k3.imp (fun z h => .inr h))).trans (Kept.toT (((Kept.refl _).alloc _).step0 hb4) _)
            go_roundw
            case rel => exact ⟨j + 1, by omega, by go_num, by rw [HNX.out, HN.out]; simpa [withM] using J4.out, kk, u3, agb, ok3, A4.out⟩
            case measure => simp [intOf]; omega
        · have e : j = (hereL p moved k).length := by omega
          subst e
          have HJ2 : Hid (J (pre ++ withM moved (putL p moved (m + 1) k t)) wr) := by rw [Hid, putL_succ]; rw [List.take_length] at hJ; exact hJ
          clear hJ
          gi_wp2
          go_ret
          exact .inl ⟨rfl, HJ2.out, hkw, u2, hag, hu, hat⟩
    · have hmb : ((k : Int) == moved) = false := by simp [hmv]
      rw [if_neg hmv] at dx
      clear hmv dh
      gi_wp2
      gi_loopw [13, 34] (fun _ i wr => ∃ j : Nat, j ≤ (hereL p moved k).length ∧ i = .int .i64 j ∧ J (pre ++ withM moved (((hereL p moved k).take j).flatMap (nextL p moved m k t))) wr ∧ KeptT (fun z => T z ∨ z = bt) W wr ∧ ∃ u, Agree k p.ps.length t u ∧ u.ok ∧ AtIs wr bt u) (fun _ i _ => (hereL p moved k).length - (intOf i).toNat)
      case atStart => exact ⟨0, Nat.zero_le _, rfl, by simpa [withM] using HJ.out, KeptT.refl _, u, hag, hu, HAT.out⟩
      case round =>
        clear HJ HAT hag hu
        obtain ⟨j, hj, rfl, hJ, hkw, u2, hag, hu, hat⟩ := hrel
        have hm := HM.out.turn hkw (fun z h => h)
        have hBr : B ≤ wr.heap.size := Nat.le_trans hBW hkw.size
        have hpl := HP.out.keptT hkw (fun a e => by have := npx a e; rintro (h | h) <;> simp_all)
        by_cases hlt : j < (hereL p moved k).length
        · obtain ⟨b, o, rfl, hbs, e1, e2⟩ := hpl j _ (List.getElem?_eq_getElem hlt)
          have npb := npx _ rfl
          obtain ⟨x0, y0, fx0, fy0⟩ := hat k hk4
          have j0 : (0 : Int) ≤ (j : Int) := by omega
          have j1 : (j : Int) < ((hereL p moved k).length : Int) := by omega
          have q2 := hm.p2
          have HJ := Lib.hid hJ
          have HPL := Lib.hid hpl
          have lbt := World.block_lt_of_cell? wr _ x0
          have lbp := World.block_lt_of_cell? wr _ q2
          have nbp : bp ≠ bt := hm.np.2
          have HXS : Hid (xs = (pre ++ withM moved (((hereL p moved k).take j).flatMap (nextL p moved m k t))) ++ withM moved (nextL p moved m k t (hereL p moved k)[j]) ++ (withM moved (((hereL p moved k).drop (j + 1)).flatMap (nextL p moved m k t)) ++ suf)) := by
            rw [Hid, HX.out, putL_succ, flat_split _ _ j hlt, withM_append, withM_append]; simp only [List.append_assoc]
          have HNX : Hid (withM moved (((hereL p moved k).take (j + 1)).flatMap (nextL p moved m k t)) = withM moved (((hereL p moved k).take j).flatMap (nextL p moved m k t)) ++ withM moved (nextL p moved m k t (hereL p moved k)[j])) := by
            rw [Hid, flat_take _ _ j hlt, withM_append]
          have hsok : (hereL p moved k)[j].ok := hereL_ok hf (List.getElem_mem hlt)
          generalize (hereL p moved k)[j] = s at *
          generalize hcl : withM moved (((hereL p moved k).take j).flatMap (nextL p moved m k t)) = done at *
          clear hcl
          have a3 := hat.set k hk4 s
          have k3 : KeptT (fun z => z = bt) wr ((wr.setCell ⟨bt, k * 2, none⟩ (.int .i64 s.x)).setCell ⟨bt, k * 2 + 1, none⟩ (.int .i64 s.y)) := (keptT_setCell _ _ _ _).trans (keptT_setCell _ _ _ _)
          have b3 : Below B wr ((wr.setCell ⟨bt, k * 2, none⟩ (.int .i64 s.x)).setCell ⟨bt, k * 2 + 1, none⟩ (.int .i64 s.y)) := ((Below.refl B wr).setCell (p := ⟨bt, k * 2, none⟩) hB _).setCell (p := ⟨bt, k * 2 + 1, none⟩) hB _
          have M3 := Lib.hid (hm.turn k3 (fun z h => .inr h))
          have ag3 := hag.set hk4 s
          have agb := hag.setOne (s := s) hk4 hkn
          have agb2 : ∀ {v : At}, Agree (k + 1) p.ps.length (t.set k s) v → Agree k p.ps.length t v := fun h => (Agree.refl k p.ps.length t).back hk4 h hkn
          have ok3 := At.set_ok (k := k) hu hsok
          generalize u2.set k s = u3 at *
          obtain ⟨v0, w0, -, -⟩ := a3 0 (by omega)
          obtain ⟨v1, w1, -, -⟩ := a3 1 (by omega)
          obtain ⟨v2, w2, -, -⟩ := a3 2 (by omega)
          obtain ⟨v3, w3, -, -⟩ := a3 3 (by omega)
          simp [At.get] at v0 w0 v1 w1 v2 w2 v3 w3
          have A3 := Lib.hid a3
          have HPL3 := Lib.hid (hpl.keptT k3 (fun a e => by simpa using (npx a e).2))
          clear hm hat hJ hpl a3 HPL hag hu
          have HLA : Hid (lensRightB p.ls (t.set k s) k = lensRightB p.ls u3 k) := lensRight_agree hf.lens ag3
          cases hlr : lensRightB p.ls u3 k with
          | true =>
            have HLR := Lib.hid hlr
            have HN : Hid (nextL p moved m k t s = putL p moved m (k + 1) (t.set k s)) := by rw [Hid, nextL, HLA.out, hlr]; rfl
            clear hlr
            gi_wp2_with (first
              | (refine ⟨(trivial : Fence.wide.fn 93), (rfl : Fence.wide.depth = none), ?_⟩; refine (callsIn_wide.2 (lengthsRight_any p.ls la lc u3 k _ ok3 (fun l hl => (hf.lens l hl).1) (M3.out.ls.kept ((Kept.refl _).alloc _)) hf.l6)).mono ?_; rintro e w4 ⟨rfl, hb4⟩; have m4 := (M3.out.kept ((Kept.refl _).alloc _)).kept hb4; have q4 := m4.q; have a4 := (A3.out.kept ((Kept.refl _).alloc _)).kept hb4; have s4 := (hb4.size); have p4 := Lib.hid ((HPL3.out.kept ((Kept.refl _).alloc _)).kept hb4); have J4 := Lib.hid (hJs _ _ _ (hJs _ _ _ HJ.out (b3.alloc (by simpa using hBr) _)) (Below.mono hb4 (by simp; omega))); rw [HLR.out]; have M4 := Lib.hid m4; have A4 := Lib.hid a4; clear m4 a4)
              | (refine ⟨(trivial : Fence.wide.fn 92), (rfl : Fence.wide.depth = none), ?_⟩
                 have ih' := ih (k + 1) (t.set k s) u3 (pre ++ done) (withM moved (((hereL p moved k).drop (j + 1)).flatMap (nextL p moved m k t)) ++ suf) w4 (by omega) ag3 ok3 (by simp at s4; omega) M4.out A4.out J4.out (by rw [HXS.out, HN.out])
                 rw [show ((k + 1 : Nat) : Int) = (k : Int) + 1 from by simp] at ih'
                 refine (callsIn_wide.2 ih').mono ?_
                 clear ih'
                 rintro e w5 (⟨rfl, hJ5, ag5k, u5, ag5, ok5, at5⟩ | ⟨rfl, hJx⟩)))
            · have kk : KeptT (fun z => T z ∨ z = bt) W w5 := ((hkw.trans (k3.imp (fun z h => .inr h))).trans (Kept.toT (((Kept.refl _).alloc _).step0 hb4) _)).trans ag5k
              go_roundw
              case rel => exact ⟨j + 1, by omega, by go_num, by rw [HNX.out, HN.out, ← List.append_assoc]; exact hJ5, kk, u5, agb2 ag5, ok5, at5⟩
              case measure => simp [intOf]; omega
            · go_ret
              exact .inr ⟨rfl, hJx⟩
          | false =>
            have HLR := Lib.hid hlr
            have HN : Hid (nextL p moved m k t s = []) := by rw [Hid, nextL, HLA.out, hlr]; rfl
            clear hlr
            gi_wp2_with (refine ⟨(trivial : Fence.wide.fn 93), (rfl : Fence.wide.depth = none), ?_⟩; refine (callsIn_wide.2 (lengthsRight_any p.ls la lc u3 k _ ok3 (fun l hl => (hf.lens l hl).1) (M3.out.ls.kept ((Kept.refl _).alloc _)) hf.l6)).mono ?_; rintro e w4 ⟨rfl, hb4⟩; have m4 := (M3.out.kept ((Kept.refl _).alloc _)).kept hb4; have q4 := m4.q; have a4 := (A3.out.kept ((Kept.refl _).alloc _)).kept hb4; have s4 := (hb4.size); have p4 := Lib.hid ((HPL3.out.kept ((Kept.refl _).alloc _)).kept hb4); have J4 := Lib.hid (hJs _ _ _ (hJs _ _ _ HJ.out (b3.alloc (by simpa using hBr) _)) (Below.mono hb4 (by simp; omega))); rw [HLR.out]; have M4 := Lib.hid m4; have A4 := Lib.hid a4; clear m4 a4)
            refine ⟨fun _ h => (by cases h), ?_⟩
            gi_wp2
            have kk : KeptT (fun z => T z ∨ z = bt) W w4 := (hkw.trans (k3.imp (fun z h => .inr h))).trans (Kept.toT (((Kept.refl _).alloc _).step0 hb4) _)
            go_roundw
            case rel => exact ⟨j + 1, by omega, by go_num, by rw [HNX.out, HN.out]; simpa [withM] using J4.out, kk, u3, agb, ok3, A4.out⟩
            case measure => simp [intOf]; omega
        · have e : j = (hereL p moved k).length := by omega
          subst e
          have HJ2 : Hid (J (pre ++ withM moved (putL p moved (m + 1) k t)) wr) := by rw [Hid, putL_succ]; rw [List.take_length] at hJ; exact hJ
          clear hJ
          gi_wp2
          go_ret
          exact .inl ⟨rfl, HJ2.out, hkw, u2, hag, hu, hat⟩
end Go.Proofs.Ytkjciobphbcknaa
