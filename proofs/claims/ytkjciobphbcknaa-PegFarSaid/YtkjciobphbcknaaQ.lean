/- Package peg: truths, an iterator. -/
import Derived.Test.YtkjciobphbcknaaP
import Derived.Laws.EntriesVeiled
namespace Go.Proofs.Ytkjciobphbcknaa
open Go.RowKit
attribute [local go_sem] Oper.semAt_some

def zeroAt : At := ⟨⟨0, 0⟩, ⟨0, 0⟩, ⟨0, 0⟩, ⟨0, 0⟩⟩
/-- The truths in which the first j of (nobody, peg 0, peg 1, ..) was moved. -/
def truthsTo (p : PegsD) (j : Nat) : List (At × Int) := (List.range j).flatMap fun i : Nat => withM ((i : Int) - 1) (putL p ((i : Int) - 1) p.ps.length 0 zeroAt)
def truthsL (p : PegsD) : List (At × Int) := truthsTo p (p.ps.length + 1)
theorem truthsTo_succ (p : PegsD) (j : Nat) : truthsTo p (j + 1) = truthsTo p j ++ withM ((j : Int) - 1) (putL p ((j : Int) - 1) p.ps.length 0 zeroAt) := by simp [truthsTo, List.range_succ]
theorem truthsTo_split (p : PegsD) : ∀ (n j : Nat), j ≤ n → ∃ suf, truthsTo p n = truthsTo p j ++ suf := by
  intro n j h
  induction n with
  | zero =>
    obtain rfl : j = 0 := by omega
    exact ⟨[], by simp⟩
  | succ n ih =>
    by_cases e : j = n + 1
    · exact ⟨[], by rw [e]; simp⟩
    · obtain ⟨suf, hs⟩ := ih (by omega)
      exact ⟨_, by rw [truthsTo_succ, hs, List.append_assoc]⟩
theorem zeroAt_ok : zeroAt.ok := ⟨⟨by decide, by decide, by decide, by decide⟩, ⟨by decide, by decide, by decide, by decide⟩, ⟨by decide, by decide, by decide, by decide⟩, ⟨by decide, by decide, by decide, by decide⟩⟩

theorem put_zero (T : Nat → Prop) (B : Nat) (J : List (At × Int) → World → Prop) (Jx : World → Prop) (p : PegsD) (l bp by_ bt bh ba bq : Nat) (pa la : Option Addr) (pc lc : Nat)
    (hY : Rounds l (truthsL p) T J Jx) (hbt : ¬ T bt) (hB : B ≤ bt) (hJs : ∀ pre, Stable B (J pre)) (hf : Fit p) (j : Nat) (hj : j < p.ps.length + 1) (u : At) (W : World) (hag : Agree 0 p.ps.length zeroAt u) (hu : u.ok) (hBW : B ≤ W.heap.size)
    (hm : PutMem T W p l bp by_ bt bh ba bq pa la pc lc) (hat : AtIs W bt u) (hJ : J (truthsTo p j) W) :
    Calls Try.prog 92 #[.int .i64 0, .int .i64 ((j : Int) - 1), .pointer (some ⟨bp, 0, none⟩), .pointer (some ⟨by_, 0, none⟩), .pointer (some ⟨bt, 0, none⟩), .pointer (some ⟨bh, 0, none⟩), .pointer (some ⟨ba, 0, none⟩), .pointer (some ⟨bq, 0, none⟩)] W
      (PutEnds T J Jx p.ps.length bt W 0 zeroAt (truthsTo p (j + 1))) := by
  obtain ⟨suf, hs⟩ := truthsTo_split p (p.ps.length + 1) (j + 1) (by omega)
  have h := put_any T (truthsL p) B J Jx p l bp by_ bt bh ba bq pa la pc lc hY hbt hB hJs hf ((j : Int) - 1) p.ps.length 0 zeroAt u (truthsTo p j) suf W (by omega) hag hu hBW hm hat hJ (by rw [truthsL, hs, truthsTo_succ])
  rw [← truthsTo_succ] at h
  exact h

abbrev slA (q : Option Addr × Nat × Nat) : Value := .slice q.1 q.2.1 q.2.2
theorem arr4_of {T : Nat → Prop} {W4 w1 : World} {lo bt b n : Nat} {f : Nat → List Pl} {s : Nat → Option Addr × Nat × Nat} (hk : Kept w1 W4) (hlo : ∀ k, T k → k < lo) (hbt : w1.heap.size ≤ bt)
    (hc : ∀ i, i < n → W4.cell? ⟨b, i, none⟩ = some (slA (s i))) (hs : ∀ i, i < n → SlPl w1 lo (slA (s i)) (f i)) : Arr4 T W4 bt b n f := fun i hi => by
  obtain ⟨pa, c, e, h1, h2⟩ := hs i hi
  refine ⟨pa, c, by rw [hc i hi, e], h1.kept hk, fun a ha => ?_⟩
  obtain ⟨h3, h4⟩ := h2 a ha
  exact ⟨fun h => by have := hlo _ h; omega, by omega⟩

def startW (w1 : World) (s : Nat → Option Addr × Nat × Nat) (f : Value) : World :=
  (((w1.alloc (Obj.cells #[slA (s 0), slA (s 1), slA (s 2), slA (s 3)] 148)).alloc (Obj.cells #[slA (s 4), slA (s 5), slA (s 6), slA (s 7)] 148)).alloc
    (Obj.cells #[.int .i64 0, .int .i64 0, .int .i64 0, .int .i64 0, .int .i64 0, .int .i64 0, .int .i64 0, .int .i64 0] 137)).alloc (Obj.cells #[f] 62)
theorem start_mem (T : Nat → Prop) (p : PegsD) (l bp : Nat) (pa la : Option Addr) (pc lc : Nat) (W w1 : World) (s : Nat → Option Addr × Nat × Nat) (hn : p.ps.length ≤ 4) (hb1 : Kept (W.alloc (Obj.cells #[.func (.yield l) #[] #[]] 138)) w1)
    (d0 : W.cell? ⟨bp, 0, none⟩ = some (.int .i64 p.side)) (d1 : W.cell? ⟨bp, 1, none⟩ = some (.slice pa p.ps.length pc)) (d2 : W.cell? ⟨bp, 2, none⟩ = some (.slice la p.ls.length lc)) (hls : LensIn W la p.ls)
    (hT : ∀ k, T k → k < W.heap.size) (nbp : ¬ T bp) (nla : ∀ a, la = some a → p.ls ≠ [] → ¬ T a.block ∧ a.block < W.heap.size)
    (hs : ∀ i, i < p.ps.length → SlPl w1 (W.heap.size + 1) (slA (s i)) (homeL p i) ∧ SlPl w1 (W.heap.size + 1) (slA (s (4 + i))) (awayL p i)) :
    Kept W (startW w1 s (.func (.func 92) #[] #[.pointer (some ⟨bp, 0, none⟩), .pointer (some ⟨W.heap.size, 0, none⟩), .pointer (some ⟨w1.heap.size + 1 + 1, 0, none⟩), .pointer (some ⟨w1.heap.size, 0, none⟩), .pointer (some ⟨w1.heap.size + 1, 0, none⟩), .pointer (some ⟨w1.heap.size + 1 + 1 + 1, 0, none⟩)])) ∧
    PutMem T (startW w1 s (.func (.func 92) #[] #[.pointer (some ⟨bp, 0, none⟩), .pointer (some ⟨W.heap.size, 0, none⟩), .pointer (some ⟨w1.heap.size + 1 + 1, 0, none⟩), .pointer (some ⟨w1.heap.size, 0, none⟩), .pointer (some ⟨w1.heap.size + 1, 0, none⟩), .pointer (some ⟨w1.heap.size + 1 + 1 + 1, 0, none⟩)]))
      p l bp W.heap.size (w1.heap.size + 1 + 1) w1.heap.size (w1.heap.size + 1) (w1.heap.size + 1 + 1 + 1) pa la pc lc ∧
    AtIs (startW w1 s (.func (.func 92) #[] #[.pointer (some ⟨bp, 0, none⟩), .pointer (some ⟨W.heap.size, 0, none⟩), .pointer (some ⟨w1.heap.size + 1 + 1, 0, none⟩), .pointer (some ⟨w1.heap.size, 0, none⟩), .pointer (some ⟨w1.heap.size + 1, 0, none⟩), .pointer (some ⟨w1.heap.size + 1 + 1 + 1, 0, none⟩)])) (w1.heap.size + 1 + 1) zeroAt := by
  generalize hF : (Value.func (.func 92) #[] #[.pointer (some ⟨bp, 0, none⟩), .pointer (some ⟨W.heap.size, 0, none⟩), .pointer (some ⟨w1.heap.size + 1 + 1, 0, none⟩), .pointer (some ⟨w1.heap.size, 0, none⟩), .pointer (some ⟨w1.heap.size + 1, 0, none⟩), .pointer (some ⟨w1.heap.size + 1 + 1 + 1, 0, none⟩)]) = F
  have k1 : Kept w1 (startW w1 s F) := ((((Kept.refl _).alloc _).alloc _).alloc _).alloc _
  have kW : Kept W (startW w1 s F) := ((Kept.refl W).step1 hb1).step0 k1
  have sz := hb1.size
  simp only [World.size_alloc] at sz
  have lb := World.block_lt_of_cell? W _ d0
  simp only at lb
  have ca : ∀ {b o : Nat} {v : Value}, W.cell? ⟨b, o, none⟩ = some v → (startW w1 s F).cell? ⟨b, o, none⟩ = some v := fun h => (kW.cells _ _ (World.block_lt_of_cell? W _ h)).trans h
  refine ⟨kW, ⟨ca d0, ca d1, ca d2, hls.kept kW, ?_, ?_, ?_, ?_, ⟨nbp, by omega⟩, fun a e h => ⟨(nla a e h).1, by have := (nla a e h).2; omega⟩, ⟨fun h => by have := hT _ h; omega, by omega⟩, ⟨fun h => by have := hT _ h; omega, by omega⟩,
    ⟨fun h => by have := hT _ h; omega, by omega⟩, ⟨fun h => by have := hT _ h; omega, by omega⟩⟩, ?_⟩
  · rw [k1.cells _ _ (by omega), hb1.cells _ _ (by simp)]; simp [go_sem]
  · subst hF; simp [startW, go_sem]
  · refine arr4_of k1 (fun k h => by have := hT k h; omega) (by omega) (fun i hi => ?_) (fun i hi => (hs i hi).1)
    match i, hi with
    | 0, _ | 1, _ | 2, _ | 3, _ => simp [startW, go_sem]
    | n + 4, hi => omega
  · refine arr4_of (s := fun i => s (4 + i)) k1 (fun k h => by have := hT k h; omega) (by omega) (fun i hi => ?_) (fun i hi => (hs i hi).2)
    match i, hi with
    | 0, _ | 1, _ | 2, _ | 3, _ => simp [startW, go_sem]
    | n + 4, hi => omega
  · intro i hi
    match i, hi with
    | 0, _ | 1, _ | 2, _ | 3, _ => simp [startW, go_sem, zeroAt, At.get]

set_option maxRecDepth 100000 in
set_option maxHeartbeats 4000000 in
theorem truths1_iter (T : Nat → Prop) (p : PegsD) (bp : Nat) (pa la : Option Addr) (pc lc : Nat) (w : World) (hf : Fit p) (hp : PegsIn w p pa la) (c0 : w.cell? ⟨bp, 0, none⟩ = some (.int .i64 p.side)) (c1 : w.cell? ⟨bp, 1, none⟩ = some (.slice pa p.ps.length pc)) (c2 : w.cell? ⟨bp, 2, none⟩ = some (.slice la p.ls.length lc))
    (hT : ∀ k, T k → k < w.heap.size) (nbp : ¬ T bp) (npa : ∀ a, pa = some a → p.ps ≠ [] → ¬ T a.block) (nla : ∀ a, la = some a → p.ls ≠ [] → ¬ T a.block) :
    Iter Try.prog 90 #[.pointer (some ⟨bp, 0, none⟩)] encT (truthsL p) T w := by
  intro l J Jx W hW hJs hJxs hY hJ
  have l0 := World.block_lt_of_cell? w _ c0
  have d0 := (hW.cells _ _ l0 nbp).trans c0
  have d1 := (hW.cells _ _ l0 nbp).trans c1
  have d2 := (hW.cells _ _ l0 nbp).trans c2
  have lW := Nat.lt_of_lt_of_le l0 hW.size
  simp only at lW
  have hps : PostsIn W pa p.ps := fun i q hi => by
    obtain ⟨b, o, rfl, hl, h1, h2, h3, h4⟩ := hp.1 i q hi
    have := npa _ rfl (by intro h; rw [h] at hi; simp at hi)
    exact ⟨b, o, rfl, Nat.lt_of_lt_of_le hl hW.size, (hW.cells _ _ hl this).trans h1, (hW.cells _ _ hl this).trans h2, (hW.cells _ _ hl this).trans h3, (hW.cells _ _ hl this).trans h4⟩
  have hPI : PegsIn W p pa la := ⟨hps, hp.2.keptT hW nla⟩
  have hmf : ∀ (fn : Fn) (first cap : Array Value) (w : World), (Instr.makeFunc fn first cap).run Try.prog w = .ok (.func fn first cap) w := fun _ _ _ _ => rfl
  have HPI := Lib.hid hPI
  have HY : Rounds l (truthsL p) T J Jx := hY
  have HJ := Lib.hid hJ
  have HTW : ∀ k, T k → k < W.heap.size := fun k h => Nat.lt_of_lt_of_le (hT k h) hW.size
  have HTW2 := Lib.hid HTW
  clear hPI hY hJ c0 c1 c2 l0 hps hp hT HTW
  refine callsIn_wide (n := 0) |>.1 ?_
  refine callsIn_of_wp Try.func90 rfl trivial ?_ rfl
  simp only [Try.ntmps90, List.size_toArray, List.length_cons, List.length_nil, Nat.reduceAdd, Nat.reduceSub, Array.replicate_succ, Array.replicate_zero, List.push_toArray, List.append_toArray, List.nil_append, List.cons_append]
  gi_wp2_with (refine ⟨(trivial : Fence.wide.fn 91), (rfl : Fence.wide.depth = none), ?_⟩; refine (callsIn_wide.2 (spots_any p pa la pc lc _ hf.s0 hf.s1 hf.n4 hf.posts (HPI.out.kept ((Kept.refl _).alloc _)))).mono ?_; rintro e w1 ⟨s, rfl, hb1, hsl⟩)
  have nl2 : ∀ a, la = some a → p.ls ≠ [] → ¬ T a.block ∧ a.block < W.heap.size := fun a e hne => by
    cases hq : p.ls with
    | nil => exact absurd hq hne
    | cons x r =>
      obtain ⟨b, o, e2, hl, _⟩ := HPI.out.2 0 x (by rw [hq]; rfl)
      rw [e] at e2
      cases e2
      exact ⟨nla _ e hne, hl⟩
  obtain ⟨kW, M, A⟩ := start_mem T p l bp pa la pc lc W w1 s hf.n4 hb1 d0 d1 d2 HPI.out.2 HTW2.out nbp nl2 (fun i hi => by simpa using hsl i hi)
  have hbW : ∀ x, T x → x < W.heap.size := HTW2.out
  simp only [startW, slA] at kW M A
  generalize hW4 : ((((w1.alloc _).alloc _).alloc _).alloc _) = W4 at *
  have HM := Lib.hid M
  have HA := Lib.hid A
  have HK := Lib.hid kW
  have hsz := kW.size
  have nbt : ¬ T (w1.heap.size + 1 + 1) := fun h => by have := hbW _ h; have := hb1.size; simp at this; omega
  have hBbt : W.heap.size ≤ w1.heap.size + 1 + 1 := by have := hb1.size; simp at this; omega
  have HJ4 := Lib.hid (hJs _ _ _ HJ.out kW)
  clear M A kW hsl d0 d1 d2 hmf HJ hW4 hW hb1 HPI nl2 hbW HTW2
  gi_loopw [7] (fun mv wr => ∃ j : Nat, j ≤ p.ps.length + 1 ∧ mv = .int .i64 ((j : Int) - 1) ∧ J (truthsTo p j) wr ∧ KeptT (fun z => T z ∨ z = w1.heap.size + 1 + 1) W4 wr ∧ ∃ u, Agree 0 p.ps.length zeroAt u ∧ u.ok ∧ AtIs wr (w1.heap.size + 1 + 1) u) (fun mv _ => ((p.ps.length : Int) - intOf mv).toNat)
  case atStart => exact ⟨0, by omega, rfl, by simpa [truthsTo] using HJ4.out, KeptT.refl _, zeroAt, Agree.refl _ _ _, zeroAt_ok, HA.out⟩
  case round =>
    obtain ⟨j, hj, rfl, hJ, hk4, u, hag, hu, hat⟩ := hrel
    have hm := HM.out.turn hk4 (fun z h => h)
    have q1 := hm.p1
    have q2 := hm.q
    have HMr := Lib.hid hm
    clear hm
    by_cases hlt : j < p.ps.length + 1
    · have hput := Lib.hid (put_zero T W.heap.size J Jx p l bp W.heap.size (w1.heap.size + 1 + 1) w1.heap.size (w1.heap.size + 1) (w1.heap.size + 1 + 1 + 1) pa la pc lc HY nbt hBbt hJs hf j hlt u wr hag hu (Nat.le_trans hsz hk4.size) HMr.out hat hJ)
      have hn4 := hf.n4
      have hlt2 : (j : Int) - 1 < (p.ps.length : Int) := by omega
      gi_wp2_with (refine ⟨(trivial : Fence.wide.fn 92), (rfl : Fence.wide.depth = none), ?_⟩; refine (callsIn_wide.2 hput.out).mono ?_; clear hput; rintro e w5 (⟨rfl, hJ5, hk5, u5, ag5, ok5, at5⟩ | ⟨rfl, hJx⟩))
      · go_roundw
        case rel => exact ⟨j + 1, by omega, by go_num, hJ5, hk4.trans hk5, u5, ag5, ok5, at5⟩
        case measure => simp [intOf]; omega
      · refine bodyPost_ret (results_none rfl _ _ _) rfl ?_
        exact ⟨⟨_, rfl⟩, .inr hJx⟩
    · have e : j = p.ps.length + 1 := by omega
      subst e
      have hlt2 : ¬ ((p.ps.length + 1 : Nat) : Int) - 1 < (p.ps.length : Int) := by omega
      have HJ5 := Lib.hid hJ
      clear hJ
      gi_wp2
      go_end0
      exact ⟨⟨_, rfl⟩, .inl HJ5.out⟩
end Go.Proofs.Ytkjciobphbcknaa
