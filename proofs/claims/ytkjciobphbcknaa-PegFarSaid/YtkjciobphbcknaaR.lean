/- Package peg: ask. -/
import Derived.Test.YtkjciobphbcknaaQ
import Derived.WalkMore
namespace Go.Proofs.Ytkjciobphbcknaa
open Go.RowKit
attribute [local go_sem] Oper.semAt_some

theorem truths_any (p : PegsD) (pa la : Option Addr) (pc lc : Nat) (w : World) :
    Calls Try.prog 79 #[.agg #[.int .i64 p.side, .slice pa p.ps.length pc, .slice la p.ls.length lc]] w fun e w' => e = .returned (.func (.func 90) #[] #[.pointer (some ⟨w.heap.size, 0, none⟩)]) ∧ w' = w.alloc (.cells #[.int .i64 p.side, .slice pa p.ps.length pc, .slice la p.ls.length lc] 25) := by
  have hmf : ∀ (fn : Fn) (first cap : Array Value) (w : World), (Instr.makeFunc fn first cap).run Try.prog w = .ok (.func fn first cap) w := fun _ _ _ _ => rfl
  go_enter Try.func79, Try.ntmps79
  go_wp2
  go_ret
  exact ⟨rfl, rfl⟩

theorem putL_ok {p : PegsD} (hf : Fit p) (moved : Int) : ∀ (m k : Nat) (t : At), t.ok → ∀ x ∈ putL p moved m k t, x.ok := by
  intro m
  induction m with
  | zero => intro k t ht x hx; simp [putL] at hx; rw [hx]; exact ht
  | succ m ih =>
    intro k t ht x hx
    simp only [putL, List.mem_flatMap] at hx
    obtain ⟨s, hs, hx⟩ := hx
    split at hx
    · exact ih _ _ (At.set_ok ht (hereL_ok hf hs)) x hx
    · simp at hx
theorem truthsL_ok {p : PegsD} (hf : Fit p) {x : At × Int} (hx : x ∈ truthsL p) : x.1.ok := by
  simp only [truthsL, truthsTo, withM, List.mem_flatMap, List.mem_map] at hx
  obtain ⟨i, _, t, ht, rfl⟩ := hx
  exact putL_ok hf _ _ _ _ zeroAt_ok _ ht
theorem truthsL_moved {p : PegsD} (hf : Fit p) {x : At × Int} (hx : x ∈ truthsL p) : -1 ≤ x.2 ∧ x.2 < 4 := by
  have := hf.n4
  simp only [truthsL, truthsTo, withM, List.mem_flatMap, List.mem_map, List.mem_range] at hx
  obtain ⟨i, hi, t, ht, rfl⟩ := hx
  simp only
  omega
theorem KeptT.below {T : Nat → Prop} {A B C : World} (h : KeptT T A B) (hb : Below A.heap.size B C) : KeptT T A C :=
  ⟨hb.os.trans h.os, hb.tape.trans h.tape, hb.output.trans h.output, Nat.le_trans h.size hb.size, fun k hk hn => (hb.block k hk).trans (h.block k hk hn)⟩

theorem fold2 (a b : Tmp) (u v : Value) (T : Array Value) : ((#[a, b] : Array Tmp).zip #[u, v]).foldl (fun t (p, v) => t.setIfInBounds p v) T = (T.setIfInBounds a u).setIfInBounds b v := by simp
structure Hearer where
  σ : Type
  T : Nat → Prop
  H : σ → World → Prop
  step : σ → At × Int → σ
  cont : σ → At × Int → Bool
def Hearer.run (h : Hearer) : h.σ → List (At × Int) → h.σ
  | s, [] => s
  | s, x :: r => if h.cont s x then h.run (h.step s x) r else h.step s x
/-- All of them let it go on. -/
def Hearer.goes (h : Hearer) : h.σ → List (At × Int) → Bool
  | _, [] => true
  | s, x :: r => h.cont s x && h.goes (h.step s x) r
theorem Hearer.run_append (h : Hearer) : ∀ (a b : List (At × Int)) (s : h.σ), h.goes s a = true → h.run s (a ++ b) = h.run (h.run s a) b := by
  intro a
  induction a with
  | nil => intro b s _; rfl
  | cons x r ih =>
    intro b s hg
    simp only [Hearer.goes, Bool.and_eq_true] at hg
    simp only [List.cons_append, Hearer.run, hg.1, if_true]
    exact ih b _ hg.2
theorem Hearer.goes_append (h : Hearer) : ∀ (a b : List (At × Int)) (s : h.σ), h.goes s (a ++ b) = (h.goes s a && h.goes (h.run s a) b) := by
  intro a
  induction a with
  | nil => intro b s; rfl
  | cons x r ih =>
    intro b s
    simp only [List.cons_append, Hearer.goes, Hearer.run]
    cases hc : h.cont s x
    · rfl
    · simp only [Bool.true_and, if_true]; exact ih b _

/-- What its method does. -/
def Hearer.Law (h : Hearer) (f : Nat) (recv : Value) : Prop :=
  ∀ s x W, h.H s W → x.1.ok → -1 ≤ x.2 → x.2 < 4 → Calls Try.prog f #[recv, .agg #[.int .i64 x.1.p0.x, .int .i64 x.1.p0.y, .int .i64 x.1.p1.x, .int .i64 x.1.p1.y, .int .i64 x.1.p2.x, .int .i64 x.1.p2.y, .int .i64 x.1.p3.x, .int .i64 x.1.p3.y], .int .i64 x.2] W
    fun e W' => e = .returned (.bool (h.cont s x)) ∧ h.H (h.step s x) W' ∧ KeptT h.T W W'

theorem ask_kept {T : Nat → Prop} {w W0 W : World} {D : Nat} {o : Obj} (h : Kept w W0) (k : KeptT (fun k => T k ∨ k = w.heap.size + 1 + 1) W0 W) (hD : w.heap.size ≤ D) : KeptT T w (W.putObj D o) := by
  refine KeptT.below ⟨k.os.trans (Below.os h), k.tape.trans (Below.tape h), k.output.trans (Below.output h), Nat.le_trans (Below.size h) k.size, fun i hi hn => ?_⟩ (below_put W D o hD)
  exact (k.block i (Nat.lt_of_lt_of_le hi (Below.size h)) (fun e => e.elim hn (fun e => by omega))).trans (Below.block h i hi)
theorem results46 (T : Array Value) (w : World) : (results Try.f46 T).run Try.prog w = .ok (.tuple #[]) w := results_none rfl _ _ _

def AskEnds (h : Hearer) (s : h.σ) (p : PegsD) (w : World) (e : Ending) (w' : World) : Prop :=
  KeptT h.T w w' ∧ h.H (h.run s (truthsL p)) w' ∧ (if truthsL p = [] then e = .panicked (errV 10) else e = .returned (.tuple #[]))

set_option maxRecDepth 100000 in
set_option maxHeartbeats 4000000 in
theorem ask_any (h : Hearer) (s : h.σ) (ty : TypeId) (recv : Value) (f : Nat) (p : PegsD) (pa la : Option Addr) (pc lc : Nat) (w : World) (hf : Fit p) (hp : PegsIn w p pa la) (hlaw : h.Law f recv)
    (hT : ∀ k, h.T k → k < w.heap.size) (hst : ∀ s, Stable w.heap.size (h.H s)) (npa : ∀ a, pa = some a → p.ps ≠ [] → ¬ h.T a.block) (nla : ∀ a, la = some a → p.ls ≠ [] → ¬ h.T a.block) (hs : h.H s w) (hm : ∀ w, (method 282 ty recv "furrowworks/peg.hear").run Try.prog w = .ok (f, recv) w) (hen : ∀ args w, (callFunc f args).run Try.prog w = .ok (.enter f args) w) :
    Calls Try.prog 46 #[.agg #[.int .i64 p.side, .slice pa p.ps.length pc, .slice la p.ls.length lc], .iface ty recv] w (AskEnds h s p w) := by
  have HP := Lib.hid hp
  have HS := Lib.hid hs
  clear hp hs
  refine callsIn_wide (n := 0) |>.1 ?_
  refine callsIn_of_wp_marks Try.func46 rfl trivial ?_ rfl
  simp only [Try.ntmps46, List.size_toArray, List.length_cons, List.length_nil, Nat.reduceAdd, Nat.reduceSub, Array.replicate_succ, Array.replicate_zero, List.push_toArray, List.append_toArray, List.nil_append, List.cons_append]
  refine wpIn_wide.2 ?_
  go_wp2_with fail
  go_step3
  go_wp2_with fail
  go_step3
  go_wp2_with (go_at_call 79; refine (truths_any p pa la pc lc _).mono ?_; rintro e w1 ⟨rfl, rfl⟩)
  have hmm : ∀ (x : Bool) (w : World), (Op.unary .not (.bool x)).run Try.prog w = .ok (.bool (!x)) w := fun _ _ => rfl
  refine (wpIn_wide (n := 0)).1 ?_
  have kW : Kept w ((((w.alloc (Obj.cells #[.int .i64 p.side, .slice pa p.ps.length pc, .slice la p.ls.length lc] 25)).alloc (Obj.cells #[.iface ty recv] 132)).alloc (Obj.cells #[.bool false] 4)).alloc (Obj.cells #[.int .i64 p.side, .slice pa p.ps.length pc, .slice la p.ls.length lc] 25)) := ((((Kept.refl _).alloc _).alloc _).alloc _).alloc _
  have hit := truths1_iter (fun k => h.T k ∨ k = w.heap.size + 1 + 1) p (w.heap.size + 1 + 1 + 1) pa la pc lc ((((w.alloc (Obj.cells #[.int .i64 p.side, .slice pa p.ps.length pc, .slice la p.ls.length lc] 25)).alloc (Obj.cells #[.iface ty recv] 132)).alloc (Obj.cells #[.bool false] 4)).alloc (Obj.cells #[.int .i64 p.side, .slice pa p.ps.length pc, .slice la p.ls.length lc] 25)) hf (HP.out.kept kW)
    (by simp [go_sem]) (by simp [go_sem]) (by simp [go_sem]) (fun k hk => hk.elim (fun hk => by have := hT k hk; simp; omega) (fun hk => by simp; omega)) (fun hk => hk.elim (fun hk => by have := hT _ hk; omega) (fun hk => by omega))
    (fun a e hne => by
      rintro (hk | hk)
      · exact npa a e hne hk
      · cases hq : p.ps with
        | nil => exact hne hq
        | cons x r =>
          obtain ⟨b, o, e2, hl, _⟩ := HP.out.1 0 x (by rw [hq]; rfl)
          rw [e] at e2; cases e2; simp only at hk; omega)
    (fun a e hne => by
      rintro (hk | hk)
      · exact nla a e hne hk
      · cases hq : p.ls with
        | nil => exact hne hq
        | cons x r =>
          obtain ⟨b, o, e2, hl, _⟩ := HP.out.2 0 x (by rw [hq]; rfl)
          rw [e] at e2; cases e2; simp only at hk; omega)
  have c3 : ((((w.alloc (Obj.cells #[.int .i64 p.side, .slice pa p.ps.length pc, .slice la p.ls.length lc] 25)).alloc (Obj.cells #[.iface ty recv] 132)).alloc (Obj.cells #[.bool false] 4)).alloc (Obj.cells #[.int .i64 p.side, .slice pa p.ps.length pc, .slice la p.ls.length lc] 25)).cell? ⟨w.heap.size + 1, 0, none⟩ = some (.iface ty recv) := by simp [go_sem]
  have c4 : ((((w.alloc (Obj.cells #[.int .i64 p.side, .slice pa p.ps.length pc, .slice la p.ls.length lc] 25)).alloc (Obj.cells #[.iface ty recv] 132)).alloc (Obj.cells #[.bool false] 4)).alloc (Obj.cells #[.int .i64 p.side, .slice pa p.ps.length pc, .slice la p.ls.length lc] 25)).cell? ⟨w.heap.size + 1 + 1, 0, none⟩ = some (.bool false) := by simp [go_sem]
  have z4 : ((((w.alloc (Obj.cells #[.int .i64 p.side, .slice pa p.ps.length pc, .slice la p.ls.length lc] 25)).alloc (Obj.cells #[.iface ty recv] 132)).alloc (Obj.cells #[.bool false] 4)).alloc (Obj.cells #[.int .i64 p.side, .slice pa p.ps.length pc, .slice la p.ls.length lc] 25)).frozen? ⟨w.heap.size + 1 + 1, 0, none⟩ = false := by simp [go_sem]
  have sz0 : ((((w.alloc (Obj.cells #[.int .i64 p.side, .slice pa p.ps.length pc, .slice la p.ls.length lc] 25)).alloc (Obj.cells #[.iface ty recv] 132)).alloc (Obj.cells #[.bool false] 4)).alloc (Obj.cells #[.int .i64 p.side, .slice pa p.ps.length pc, .slice la p.ls.length lc] 25)).heap.size = w.heap.size + 4 := by simp
  generalize hW0 : ((((w.alloc (Obj.cells #[.int .i64 p.side, .slice pa p.ps.length pc, .slice la p.ls.length lc] 25)).alloc (Obj.cells #[.iface ty recv] 132)).alloc (Obj.cells #[.bool false] 4)).alloc (Obj.cells #[.int .i64 p.side, .slice pa p.ps.length pc, .slice la p.ls.length lc] 25)) = W0 at *
  clear hW0
  refine range_law (gf := 90) (lb := #[.pointer (some ⟨w.heap.size + 1 + 1 + 1, 0, none⟩)]) (xs := truthsL p) (w0 := W0) (T := fun k => h.T k ∨ k = w.heap.size + 1 + 1) rfl (enters_of Try.func90 (by kernel_rfl) rfl) hit (KeptT.refl _) (fun _ => rfl)
    (fun k hk => hk.elim (fun hk => by have := hT k hk; omega) (fun hk => by omega))
    (fun pre W => h.goes s pre = true ∧ h.H (h.run s pre) W ∧ W.cell? ⟨w.heap.size + 1 + 1, 0, none⟩ = some (.bool (!pre.isEmpty)) ∧ W.frozen? ⟨w.heap.size + 1 + 1, 0, none⟩ = false ∧ KeptT (fun k => h.T k ∨ k = w.heap.size + 1 + 1) W0 W)
    (fun c W => c = .exit 0 ∧ truthsL p ≠ [] ∧ h.H (h.run s (truthsL p)) W ∧ W.cell? ⟨w.heap.size + 1 + 1, 0, none⟩ = some (.bool true) ∧ KeptT (fun k => h.T k ∨ k = w.heap.size + 1 + 1) W0 W)
    ?_ ?_ ⟨rfl, hst _ _ _ HS.out kW, by simpa using c4, z4, KeptT.refl _⟩
    (fun x a' W => ∃ B, w.heap.size + 4 ≤ B ∧ B < W.heap.size ∧ (∀ o v, #[Value.int .i64 x.1.p0.x, .int .i64 x.1.p0.y, .int .i64 x.1.p1.x, .int .i64 x.1.p1.y, .int .i64 x.1.p2.x, .int .i64 x.1.p2.y, .int .i64 x.1.p3.x, .int .i64 x.1.p3.y][o]? = some v → W.cell? ⟨B, o, none⟩ = some v) ∧
      a' = { tmps := #[.agg #[.int .i64 p.side, .slice pa p.ps.length pc, .slice la p.ls.length lc], .iface ty recv, .pointer (some ⟨w.heap.size, 0, none⟩), .pointer (some ⟨w.heap.size + 1, 0, none⟩), .pointer (some ⟨w.heap.size + 1 + 1, 0, none⟩), .pointer (some ⟨B, 0, none⟩), .int .i64 x.2,
        .agg #[.int .i64 p.side, .slice pa p.ps.length pc, .slice la p.ls.length lc], .func (.func 90) #[] #[.pointer (some ⟨w.heap.size + 1 + 1 + 1, 0, none⟩)], atA x.1, .int .i64 x.2, undef, undef, undef, undef, undef, undef, undef, undef], defers := [] })
    ?_ ?assign ?body ?done ?stop
  · rintro pre A B ⟨g1, g2, g3, g4, g5⟩ hb
    exact ⟨g1, hst _ _ _ g2 (hb.mono (by omega)), (hb.cell (p := ⟨w.heap.size + 1 + 1, 0, none⟩) (show w.heap.size + 1 + 1 < W0.heap.size by omega)).trans g3, (hb.frozen (p := ⟨w.heap.size + 1 + 1, 0, none⟩) (show w.heap.size + 1 + 1 < W0.heap.size by omega)).trans g4, g5.below hb⟩
  · rintro c A B ⟨g0, g1, g2, g3, g5⟩ hb
    exact ⟨g0, g1, hst _ _ _ g2 (hb.mono (by omega)), (hb.cell (p := ⟨w.heap.size + 1 + 1, 0, none⟩) (show w.heap.size + 1 + 1 < W0.heap.size by omega)).trans g3, g5.below hb⟩
  · rintro x a' W l r o ⟨B, h1, h2, h3, rfl⟩ hl
    have hc := h3 0 _ rfl
    have hne : B ≠ l := by
      rintro rfl
      simp only [World.cell?, hl] at hc
      cases hc
    refine ⟨B, h1, by simpa using h2, fun o v ho => ?_, rfl⟩
    exact (World.cell?_of_block (w := W) (World.putObj_heap_other hne)).trans (h3 o v ho)
  case assign =>
    intro l pre x W K hi hlt hK
    rw [show ((#[9, 10] : Array Tmp).zip (encT x)) = ((#[9, 10] : Array Tmp).zip #[atA x.1, .int .i64 x.2]) from rfl, fold2]
    change Code.wpIn _ _ _ _ _ { tmps := #[.agg #[.int .i64 p.side, .slice pa p.ps.length pc, .slice la p.ls.length lc], .iface ty recv, .pointer (some ⟨w.heap.size, 0, none⟩), .pointer (some ⟨w.heap.size + 1, 0, none⟩), .pointer (some ⟨w.heap.size + 1 + 1, 0, none⟩), undef, undef,
        .agg #[.int .i64 p.side, .slice pa p.ps.length pc, .slice la p.ls.length lc], .func (.func 90) #[] #[.pointer (some ⟨w.heap.size + 1 + 1 + 1, 0, none⟩)], atA x.1, .int .i64 x.2, undef, undef, undef, undef, undef, undef, undef, undef], defers := [] } W
    have HK := Lib.hid hK
    have HI := Lib.hid hi
    clear hK hi
    gi_wp2
    refine HK.out _ _ (Kept.toT ((Kept.refl _).alloc _) _) ?_ ⟨W.heap.size, by omega, by simp, fun o v ho => ?_, rfl⟩
    · obtain ⟨g1, g2, g3, g4, g5⟩ := HI.out
      have hb : Below W0.heap.size W (W.alloc (Obj.cells #[Value.int .i64 x.1.p0.x, .int .i64 x.1.p0.y, .int .i64 x.1.p1.x, .int .i64 x.1.p1.y, .int .i64 x.1.p2.x, .int .i64 x.1.p2.y, .int .i64 x.1.p3.x, .int .i64 x.1.p3.y] 137)) := (Below.refl _ _).alloc g5.size _
      exact ⟨g1, hst _ _ _ g2 (hb.mono (by omega)), (hb.cell (p := ⟨w.heap.size + 1 + 1, 0, none⟩) (show w.heap.size + 1 + 1 < W0.heap.size by omega)).trans g3, (hb.frozen (p := ⟨w.heap.size + 1 + 1, 0, none⟩) (show w.heap.size + 1 + 1 < W0.heap.size by omega)).trans g4, g5.below hb⟩
    · simp only [World.cell?, World.alloc_heap_new]
      simpa using ho
  case body =>
    rintro l pre x suf a' W hx hlt hi ⟨B, hB, hBl, hcb, rfl⟩
    have v0 := hcb 0 _ rfl
    have v1 := hcb 1 _ rfl
    have v2 := hcb 2 _ rfl
    have v3 := hcb 3 _ rfl
    have v4 := hcb 4 _ rfl
    have v5 := hcb 5 _ rfl
    have v6 := hcb 6 _ rfl
    have v7 := hcb 7 _ rfl
    obtain ⟨g1, g2, g3, g4, g5⟩ := hi
    have e3 : W.cell? ⟨w.heap.size + 1, 0, none⟩ = some (.iface ty recv) := (g5.cells _ _ (by omega) (fun hk => hk.elim (fun hk => by have := hT _ hk; omega) (fun hk => by omega))).trans c3
    have nB : B ≠ w.heap.size + 1 + 1 := by omega
    have bS : Below w.heap.size W (W.setCell ⟨w.heap.size + 1 + 1, 0, none⟩ (.bool true)) := (Below.refl _ _).setCell (p := ⟨w.heap.size + 1 + 1, 0, none⟩) (show w.heap.size ≤ w.heap.size + 1 + 1 by omega) _
    have kS : KeptT (fun k => h.T k ∨ k = w.heap.size + 1 + 1) W (W.setCell ⟨w.heap.size + 1 + 1, 0, none⟩ (.bool true)) := (keptT_setCell _ _ _ _).imp (fun k e => .inr e)
    have hxo : x.1.ok := truthsL_ok hf (by rw [hx]; simp)
    have hxm := truthsL_moved hf (x := x) (by rw [hx]; simp)
    have hcall := Lib.hid (hlaw (h.run s pre) x _ (hst _ _ _ g2 bS) hxo hxm.1 hxm.2)
    clear hxm
    have s1 : (W.setCell ⟨w.heap.size + 1 + 1, 0, none⟩ (.bool true)).cell? ⟨w.heap.size + 1 + 1, 0, none⟩ = some (.bool true) := World.cell?_setCell_same' _ _ _ (by rw [g3]; rfl)
    have z1 : (W.setCell ⟨w.heap.size + 1 + 1, 0, none⟩ (.bool true)).frozen? ⟨w.heap.size + 1 + 1, 0, none⟩ = false := by rw [World.frozen?_setCell]; exact g4
    have szS : (W.setCell ⟨w.heap.size + 1 + 1, 0, none⟩ (.bool true)).heap.size = W.heap.size := by simp
    have hgo : h.goes s (pre ++ [x]) = h.cont (h.run s pre) x := by rw [h.goes_append, g1]; simp [Hearer.goes]
    have hrun : h.run s (pre ++ [x]) = h.step (h.run s pre) x := by rw [h.run_append _ _ _ g1]; simp [Hearer.run]
    have hrunx : h.cont (h.run s pre) x = false → h.run s (truthsL p) = h.step (h.run s pre) x := fun hc => by rw [hx, h.run_append _ _ _ g1]; simp [Hearer.run, hc]
    have HGO := Lib.hid hgo
    have HRUN := Lib.hid hrun
    have HRX := Lib.hid hrunx
    have HG5 := Lib.hid g5
    have HXX := Lib.hid hx
    have HKS := Lib.hid kS
    have HS1 := Lib.hid s1
    have HZ1 := Lib.hid z1
    have HSZ := Lib.hid szS
    clear hgo hrun hrunx hx g1 g2 g5 kS bS hcb s1 z1 szS
    gi_wp2_with (refine ⟨(trivial : Fence.wide.fn f), (rfl : Fence.wide.depth = none), ?_⟩; refine (CallsIn.inRound l (callsIn_wide.2 hcall.out)).mono ?_; clear hcall; rintro e W2 ⟨rfl, hH2, hk2⟩)
    · rename_i hc
      have hcf : h.cont (h.run s pre) x = false := by simpa using hc
      refine ⟨HKS.out.trans (hk2.imp (fun k e => .inl e)), rfl, by rw [HXX.out]; simp, by rw [HRX.out hcf]; exact hH2, ?_, HG5.out.trans (HKS.out.trans (hk2.imp (fun k e => .inl e)))⟩
      exact (hk2.cells _ _ (by rw [HSZ.out]; omega) (fun hk => by have := hT _ hk; omega)).trans HS1.out
    · rename_i hc
      have hcf : h.cont (h.run s pre) x = true := by simpa using hc
      refine ⟨HKS.out.trans (hk2.imp (fun k e => .inl e)), HGO.out.trans hcf, by rw [HRUN.out]; exact hH2, ?_, ?_, HG5.out.trans (HKS.out.trans (hk2.imp (fun k e => .inl e)))⟩
      · rw [hk2.cells _ _ (by rw [HSZ.out]; omega) (fun hk => by have := hT _ hk; omega), HS1.out]; simp
      · rw [hk2.frozens _ _ (by rw [HSZ.out]; omega) (fun hk => by have := hT _ hk; omega), HZ1.out]
  case done =>
    rintro D W hD ⟨g1, g2, g3, g4, g5⟩ hK
    have HG2 := Lib.hid g2
    have HG5 := Lib.hid g5
    clear g1 g2 g5
    by_cases hE : truthsL p = []
    · have g4' : W.cell? ⟨w.heap.size + 1 + 1, 0, none⟩ = some (.bool false) := by rw [g3, hE]; rfl
      clear g3
      gi_wp2
      go_wp2
      refine ⟨by simp, .inl ⟨_, _, rfl, run_takeDeferred hK, ?_⟩⟩
      have hD2 := Nat.le_trans (Below.size kW) hD
      exact ⟨ask_kept kW HG5.out hD2, hst _ _ _ HG2.out (below_put _ _ _ hD2), by rw [if_pos hE]; rfl⟩
    · have g4' : W.cell? ⟨w.heap.size + 1 + 1, 0, none⟩ = some (.bool true) := by rw [g3]; simp [hE]
      clear g3
      gi_wp2
      go_wp2
      change LeavesInM _ _ _ _ _ _ _ _ _
      refine ⟨by simp, .inl ⟨_, _, rfl, run_takeDeferred hK, ?_⟩⟩
      have hD2 := Nat.le_trans (Below.size kW) hD
      exact ⟨_, results46 _ _, ask_kept kW HG5.out hD2, hst _ _ _ HG2.out (below_put _ _ _ hD2), by rw [if_neg hE]⟩
  case stop =>
    rintro D c W hD ⟨rfl, g1, g2, g3, g5⟩ hK
    have HG2 := Lib.hid g2
    have HG5 := Lib.hid g5
    clear g2 g5
    refine wpIn_exit ?_
    gi_wp2
    go_wp2
    change LeavesInM _ _ _ _ _ _ _ _ _
    refine ⟨by simp, .inl ⟨_, _, rfl, run_takeDeferred hK, ?_⟩⟩
    have hD2 := Nat.le_trans (Below.size kW) hD
    exact ⟨_, results46 _ _, ask_kept kW HG5.out hD2, hst _ _ _ HG2.out (below_put _ _ _ hD2), by rw [if_neg g1]⟩
end Go.Proofs.Ytkjciobphbcknaa
