/- Package peg: Proof. -/
import Derived.Test.YtkjciobphbcknaaAK
import Derived.Deep.WholeRow
namespace Go.Proofs.Ytkjciobphbcknaa
open Go.RowKit

theorem meth116 (v : Value) (w : World) : (method 282 116 v "furrowworks/peg.hear").run Try.prog w = .ok (127, v) w := by kernel_rfl
theorem enter127 : ∀ args w, (callFunc 127 args).run Try.prog w = .ok (.enter 127 args) w := enters_of Try.func127 (by kernel_rfl) rfl
theorem enter63 : ∀ args w, (callFunc 63 args).run Try.prog w = .ok (.enter 63 args) w := enters_of Try.func63 (by kernel_rfl) rfl

def bare (p : PegsD) : PegsD := ⟨p.side, p.ps, []⟩
def ev0 (p : PegsD) (i : Int) : EvD := ⟨i, p.ls, fun _ => false, fun _ => false⟩
def evRun (s : EvD) (l : List (At × Int)) : EvD := runL evStep (fun s x => !(evStep s x).not (2 ^ s.ls.length - 1)) s l
/-- What Proof tells. -/
def proofR (p : PegsD) (i : Int) : Except Int Int :=
  match checkR p [i] with
  | some n => .error n
  | none => if truthsL (bare p) = [] then .error 10 else
    match (setsL p.ls.length).find? (proveB (evRun (ev0 p i) (truthsL (bare p)))) with
    | some x => .ok (x : Nat)
    | none => .error 4

theorem z115_size : Try.zeroCells115.size = 130 := by kernel_rfl
theorem z115_one : Try.zeroCells115.all (·.oneCell') = true := by kernel_rfl
theorem z115_info : (Try.prog.info? 115).map (·.size) = some 130 := by kernel_rfl
theorem z115_cells : (List.range 128).all (fun j => match Try.zeroCells115[2 + j]? with | some (.bool false) => true | _ => false) = true := by kernel_rfl
theorem z115_at (j : Nat) (hj : j < 128) : Try.zeroCells115[2 + j]? = some (.bool false) := by
  have := List.all_eq_true.1 z115_cells j (by simp [hj])
  revert this
  generalize Try.zeroCells115[2 + j]? = o
  intro h
  match o, h with
  | some (.bool false), _ => rfl
/-- The cells of new evidence. -/
noncomputable def evCells (i : Int) (sl : Value) : Array Value := (Try.zeroCells115.setIfInBounds 0 (.int .i64 i)).setIfInBounds 1 sl
theorem evCells_size (i : Int) (sl : Value) : (evCells i sl).size = 130 := by simp [evCells, z115_size]
theorem evCells_at (i : Int) (sl : Value) (j : Nat) (hj : j < 128) : (evCells i sl)[2 + j]? = some (.bool false) := by
  simp only [evCells]
  rw [Array.getElem?_setIfInBounds_ne (by omega), Array.getElem?_setIfInBounds_ne (by omega)]
  exact z115_at j hj
theorem evCells_0 (i : Int) (sl : Value) : (evCells i sl)[0]? = some (.int .i64 i) := by
  simp only [evCells]
  rw [Array.getElem?_setIfInBounds_ne (by omega), Array.getElem?_setIfInBounds_self_of_lt (by rw [z115_size]; omega)]
theorem evCells_1 (i : Int) (sl : Value) : (evCells i sl)[1]? = some sl := by
  simp only [evCells]
  rw [Array.getElem?_setIfInBounds_self_of_lt (by simp [z115_size])]
theorem evCells_one (i : Int) (pa : Option Addr) (n c : Nat) : (evCells i (.slice pa n c)).all (·.oneCell') = true := by
  have key : ∀ j v, j < 130 → (evCells i (.slice pa n c))[j]? = some v → v.oneCell' = true := by
    intro j v hj e
    by_cases h0 : j = 0
    · rw [h0, evCells_0] at e; rw [← Option.some.inj e]; rfl
    · by_cases h1 : j = 1
      · rw [h1, evCells_1] at e; rw [← Option.some.inj e]; rfl
      · have e2 := evCells_at i (.slice pa n c) (j - 2) (by omega)
        rw [show 2 + (j - 2) = j from by omega] at e2
        rw [e2] at e
        rw [← Option.some.inj e]; rfl
  rw [Array.all_eq_true_iff_forall_mem]
  intro x hx
  obtain ⟨j, hj, rfl⟩ := Array.mem_iff_getElem.1 hx
  exact key j _ (by rw [evCells_size] at hj; exact hj) (Array.getElem?_eq_getElem hj)
theorem ev_store (i : Int) (pa : Option Addr) (n c : Nat) (w : World) :
    (storeCells ⟨w.heap.size, 0, none⟩ ((Try.zeroCells115.toList.set 0 (.int .i64 i)).set 1 (.slice pa n c))).run Try.prog (w.alloc (.cells Try.zeroCells115 115)) = .ok () (w.alloc (.cells (evCells i (.slice pa n c)) 115)) := by
  have h := run_storeCells_new (P := Try.prog) w 115 Try.zeroCells115 (evCells i (.slice pa n c)) (by rw [evCells_size]; exact z115_info) (by rw [evCells_size, z115_size]) (evCells_one i pa n c)
  simpa [evCells] using h
theorem ev_made (b : Nat) (i : Int) (la : Option Addr) (lc : Nat) (ls : List Len) (w : World) (hb : b = w.heap.size) (hls : LensIn w la ls) (hok : ∀ l ∈ ls, lenOk l) (h6 : ls.length ≤ 6) :
    EvAt b la lc ⟨i, ls, fun _ => false, fun _ => false⟩ (w.alloc (.cells (evCells i (.slice la ls.length lc)) 115)) := by
  subst hb
  have hc : ∀ o v, (evCells i (.slice la ls.length lc))[o]? = some v → (w.alloc (.cells (evCells i (.slice la ls.length lc)) 115)).cell? ⟨w.heap.size, o, none⟩ = some v := fun o v h => by
    simp only [World.cell?, World.alloc_heap_new]; simpa using h
  refine ⟨by simp, hc 0 _ (evCells_0 _ _), hc 1 _ (evCells_1 _ _), fun k hk => ⟨hc _ _ (evCells_at _ _ k (by omega)), by simp [go_sem]⟩, fun k hk => ⟨?_, by simp [go_sem]⟩, hls.kept ((Kept.refl _).alloc _), hok, h6, fun a e hne => ?_⟩
  · have := evCells_at i (.slice la ls.length lc) (64 + k) (by omega)
    rw [show 2 + (64 + k) = 66 + k from by omega] at this
    exact hc _ _ this
  · cases hq : ls with
    | nil => exact absurd hq hne
    | cons x r =>
      obtain ⟨b, o, e2, hl, _⟩ := hls 0 x (by rw [hq]; rfl)
      rw [e] at e2; cases e2; exact hl

theorem EvAt.belowC {b : Nat} {la : Option Addr} {lc : Nat} {s : EvD} {W W' : World} {C : Nat} (h : EvAt b la lc s W) (hb : b < C) (k : Below C W W') : EvAt b la lc s W' := by
  obtain ⟨l, c0, c1, cm, cn, hl, r⟩ := h
  refine ⟨Nat.lt_of_lt_of_le l k.size, (k.cell hb).trans c0, (k.cell hb).trans c1, fun j hj => ⟨(k.cell hb).trans (cm j hj).1, (k.frozen hb).trans (cm j hj).2⟩, fun j hj => ⟨(k.cell hb).trans (cn j hj).1, (k.frozen hb).trans (cn j hj).2⟩, ?_, r⟩
  intro i s' hi
  obtain ⟨b', o, rfl, hl', h1, h2, h3, h4⟩ := hl i s' hi
  have hlt : b' < C := Nat.lt_trans (r.2.2 _ rfl (by intro e; rw [e] at hi; simp at hi)) hb
  exact ⟨b', o, rfl, Nat.lt_of_lt_of_le hl' k.size, (k.cell hlt).trans h1, (k.cell hlt).trans h2, (k.cell hlt).trans h3, (k.cell hlt).trans h4⟩
theorem setsL_lt {n : Nat} (hn : n ≤ 6) {x : Nat} (hx : x ∈ setsL n) : x < 64 := by
  have hpw : 2 ^ n ≤ 64 := Nat.pow_le_pow_right (by omega) (show n ≤ 6 from hn)
  simp only [setsL, setsTo, ofSize, List.mem_append, List.mem_flatMap, List.mem_filter, List.mem_range] at hx
  rcases hx with ⟨z, _, h, _⟩ | ⟨h, _⟩ <;> omega
theorem evH_run (b : Nat) (la : Option Addr) (lc : Nat) (s : EvD) (l : List (At × Int)) : (evH b la lc).run s l = evRun s l := (evH b la lc).run_eq l s

set_option maxRecDepth 100000 in
set_option maxHeartbeats 8000000 in
theorem proof1_any (p : PegsD) (i : Int) (b b2 : Nat) (pa la : Option Addr) (pc lc : Nat) (w : World) (hm : p.ps.length ≤ 9223372036854775807) (hm2 : p.ls.length ≤ 9223372036854775807) (hp : PegsIn w p pa la)
    (c0 : w.cell? ⟨b, 0, none⟩ = some (.int .i64 p.side)) (c1 : w.cell? ⟨b, 1, none⟩ = some (.slice pa p.ps.length pc)) (c2 : w.cell? ⟨b, 2, none⟩ = some (.slice la p.ls.length lc)) (ci : w.cell? ⟨b2, 0, none⟩ = some (.int .i64 i)) :
    Calls Try.prog 63 #[.pointer (some ⟨b, 0, none⟩), .pointer (some ⟨b2, 0, none⟩)] w fun e w' => e = endOf encInt (proofR p i) ∧ Kept w w' := by
  have HP := Lib.hid hp
  have hb := World.block_lt_of_cell? w _ c0
  have hb2 := World.block_lt_of_cell? w _ ci
  have hck := Lib.hid (check_any p pa la (some ⟨w.heap.size, 0, none⟩) pc lc 1 [i] (w.alloc (.cells #[.int .i64 i] 3)) hm hm2 (by simp) (HP.out.kept ((Kept.refl _).alloc _)) (intsOne w i))
  clear hp
  cases hc : checkR p [i] with
  | some n =>
    have HR : proofR p i = .error n := by simp [proofR, hc]
    rw [HR]
    have HC := Lib.hid hc
    clear hc HR
    go_enter Try.func63, Try.ntmps63
    go_wp2_with (go_at_call 45; refine hck.out.mono ?_; rintro e w1 he; obtain ⟨hb1, rfl⟩ := he.some HC.out)
    exact ⟨rfl, rfl, Kept.step1 (Kept.refl _) hb1⟩
  | none =>
    obtain ⟨hv, hr⟩ := checkR_none hc
    have hr := hr i (by simp)
    obtain ⟨k, rfl⟩ := Int.eq_ofNat_of_zero_le hr.1
    have hk : k < p.ps.length := by omega
    have HC := Lib.hid hc
    have HV := Lib.hid hv
    have hmt := meth116
    have hen := enter127
    have hst := fun w => ev_store k la p.ls.length lc w
    have hmf : ∀ (fn : Fn) (first cap : Array Value) (w : World), (Instr.makeFunc fn first cap).run Try.prog w = .ok (.func fn first cap) w := fun _ _ _ _ => rfl
    clear hr hc hv
    go_enter Try.func63, Try.ntmps63
    go_wp2_with (first
        | (go_at_call 45; refine hck.out.mono ?_; rintro e w1 he; obtain ⟨hb1, rfl⟩ := he.none HC.out
           have hkw := Kept.step1 (Kept.refl _) hb1
           have d0 := (hkw.cells b 0 hb).trans c0
           have d1 := (hkw.cells b 1 hb).trans c1
           have d2 := (hkw.cells b 2 hb).trans c2
           have d3 := (hkw.cells b2 0 hb2).trans ci
           have hbl := hkw.lt hb
           have hbl2 := hkw.lt hb2))
    have hfit := fit_of_valid HV.out
    have hfb : Fit (bare p) := ⟨hfit.s0, hfit.s1, hfit.n4, by simp [bare], hfit.posts, fun l hl => by simp [bare] at hl⟩
    have hls6 := hfit.l6
    have hkA : Kept w (w1.alloc (Obj.cells (evCells k (.slice la p.ls.length lc)) 115)) := hkw.alloc _
    have hsz1 : w.heap.size ≤ w1.heap.size := Kept.size hkw
    have hpb : PegsIn w (bare p) pa none := ⟨HP.out.1, fun i l h => by simp [bare] at h⟩
    have hev := ev_made w1.heap.size k la lc p.ls w1 rfl (HP.out.2.kept hkw) (fun l hl => (hfit.lens l hl).1) hls6
    refine (ask_any (evH w1.heap.size la lc) (ev0 p k) 116 _ 127 (bare p) pa none pc 0 _ hfb (hpb.kept hkA) (ev_law _ _ _) (fun k hk => by cases hk; simp) (fun s W W' h hb => EvAt.belowC h (by simp) hb)
      (hpb.farP hsz1) (hpb.farL hsz1) hev (fun w => meth116 _ w) enter127).mono ?_
    rintro e w2 ⟨hk2, hH2, he2⟩
    rw [evH_run] at hH2
    have kk : Kept w w2 := hk2.toKept hkA (fun i e => by cases e; exact hsz1)
    by_cases hE : truthsL (bare p) = []
    · rw [if_pos hE] at he2
      subst he2
      go_wp2
      exact ⟨rfl, by rw [proofR, HC.out]; simp only [hE, if_true]; rfl, kk⟩
    · rw [if_neg hE] at he2
      subst he2
      have HR : Hid (proofR p k = match (setsL p.ls.length).find? (proveB (evRun (ev0 p k) (truthsL (bare p)))) with | some x => .ok (x : Nat) | none => .error 4) := by rw [Hid, proofR, HC.out]; simp only [hE, if_false]
      have hH2 : EvAt w1.heap.size la lc (evRun (ev0 p k) (truthsL (bare p))) w2 := hH2
      generalize evRun (ev0 p k) (truthsL (bare p)) = s at *
      have hfirst := fun n w3 hn hbs hev h64 => Lib.hid (first_any n w2.heap.size w1.heap.size la lc s w3 hn hbs hev h64)
      have e2 := (kk.cells b 2 hb).trans c2
      have hbl3 := kk.lt hb
      have HE2 := Lib.hid hH2
      have l2 := hH2.1
      clear hH2 hk2 hev hkA hkw d0 d1 d2 d3 hb1
      cases hF : (setsL p.ls.length).find? (proveB s) with
      | none =>
        have hC := Lib.hid (first_any p.ls.length w2.heap.size w1.heap.size la lc s (w2.alloc (.cells #[.int .i64 p.ls.length] 3)) hls6 (by simp [go_sem]) (HE2.out.belowC (C := w2.heap.size) l2 ((Below.refl _ _).alloc (Nat.le_refl _) _)) (fun x hx => setsL_lt hls6 hx))
        rw [hF] at hC
        have HF := Lib.hid hF
        clear hF hfirst hE
        go_wp2_with (first
          | (go_at_call 65; refine (sets_any p.ls.length _).mono ?_; rintro e w3 ⟨rfl, rfl⟩)
          | (go_at_call 64; refine hC.out.mono ?_; rintro e w4 ⟨rfl, hb4⟩))
        exact ⟨rfl, by rw [HR.out, HF.out]; rfl, Kept.step0 (kk.alloc _) hb4⟩
      | some x =>
        have hC := Lib.hid (first_any p.ls.length w2.heap.size w1.heap.size la lc s (w2.alloc (.cells #[.int .i64 p.ls.length] 3)) hls6 (by simp [go_sem]) (HE2.out.belowC (C := w2.heap.size) l2 ((Below.refl _ _).alloc (Nat.le_refl _) _)) (fun x hx => setsL_lt hls6 hx))
        rw [hF] at hC
        have HF := Lib.hid hF
        clear hF hfirst hE
        go_wp2_with (first
          | (go_at_call 65; refine (sets_any p.ls.length _).mono ?_; rintro e w3 ⟨rfl, rfl⟩)
          | (go_at_call 64; refine hC.out.mono ?_; rintro e w4 ⟨rfl, hb4⟩))
        go_ret
        exact ⟨by rw [HR.out, HF.out]; rfl, Kept.step0 (kk.alloc _) hb4⟩

set_option maxHeartbeats 4000000 in
theorem proof_any (p : PegsD) (i : Int) (pa la : Option Addr) (pc lc : Nat) (w : World) (hm : p.ps.length ≤ 9223372036854775807) (hm2 : p.ls.length ≤ 9223372036854775807) (hp : PegsIn w p pa la) :
    Calls Try.prog 25 #[.agg #[.int .i64 p.side, .slice pa p.ps.length pc, .slice la p.ls.length lc], .int .i64 i] w
      fun e w' => e = .returned (.tuple #[.int .i64 (valOf 0 (proofR p i)), .int .i64 (errOf (proofR p i))]) ∧ Kept w w' := by
  have hmf : ∀ (fn : Fn) (first cap : Array Value) (w : World), (Instr.makeFunc fn first cap).run Try.prog w = .ok (.func fn first cap) w := fun _ _ _ _ => rfl
  have HP := Lib.hid hp
  have kW : Kept w (((w.alloc (Obj.cells #[.int .i64 p.side, .slice pa p.ps.length pc, .slice la p.ls.length lc] 25)).alloc (.cells #[.int .i64 i] 3)).alloc (.cells #[.int .i64 0] 28)) := (((Kept.refl _).alloc _).alloc _).alloc _
  have h1 := Lib.hid (proof1_any p i w.heap.size (w.heap.size + 1) pa la pc lc _ hm hm2 (HP.out.kept kW) (by simp [go_sem]) (by simp [go_sem]) (by simp [go_sem]) (by simp [go_sem]))
  have hC := Lib.hid (told56_any 63 #[.pointer (some ⟨w.heap.size, 0, none⟩), .pointer (some ⟨w.heap.size + 1, 0, none⟩)] ((w.alloc (Obj.cells #[.int .i64 p.side, .slice pa p.ps.length pc, .slice la p.ls.length lc] 25)).alloc (.cells #[.int .i64 i] 3)) (proofR p i) enter63 h1.out)
  clear hp kW h1
  simp only [encInt] at hC
  generalize valOf 0 (proofR p i) = g at *
  generalize errOf (proofR p i) = n at *
  go_enter Try.func25, Try.ntmps25
  go_wp2_with (go_at_call 56; refine hC.out.mono ?_; rintro e w1 ⟨rfl, hb1⟩)
  refine bodyPost_ret (v := .tuple #[.int .i64 g, .int .i64 n]) (by simp [results, Try.results25, go_sem]) rfl ?_
  exact ⟨rfl, Kept.step2 (Kept.refl _) hb1⟩
end Go.Proofs.Ytkjciobphbcknaa
