/- Package peg: the first set that suits. -/
import Derived.Test.YtkjciobphbcknaaAJ
namespace Go.Proofs.Ytkjciobphbcknaa
open Go.RowKit
attribute [local go_sem] Oper.semAt_some

theorem sets_any (n : Nat) (w : World) : Calls Try.prog 65 #[.int .i64 n] w fun e w' => e = .returned (.func (.func 86) #[] #[.pointer (some ⟨w.heap.size, 0, none⟩)]) ∧ w' = w.alloc (.cells #[.int .i64 n] 3) := by
  have hmf : ∀ (fn : Fn) (first cap : Array Value) (w : World), (Instr.makeFunc fn first cap).run Try.prog w = .ok (.func fn first cap) w := fun _ _ _ _ => rfl
  go_enter Try.func65, Try.ntmps65
  go_wp2
  go_ret
  exact ⟨rfl, rfl⟩

theorem putCell {W : World} {D b o : Nat} {ob : Obj} (h : b ≠ D) : (W.putObj D ob).cell? ⟨b, o, none⟩ = W.cell? ⟨b, o, none⟩ := World.cell?_of_block (w := W) (World.putObj_heap_other h)
theorem find_snoc {q : Nat → Bool} {pre suf : List Nat} {x : Nat} (h : pre.all (fun y => !q y) = true) (hx : q x = true) : (pre ++ x :: suf).find? q = some x := by
  rw [List.find?_append, List.find?_eq_none.2 (fun y hy => by have := List.all_eq_true.1 h y hy; simpa using this)]
  simp [hx]

set_option maxRecDepth 100000 in
set_option maxHeartbeats 8000000 in
theorem first_any (n bs be : Nat) (la : Option Addr) (lc : Nat) (s : EvD) (w : World) (hn : n ≤ 6) (hbs : w.cell? ⟨bs, 0, none⟩ = some (.int .i64 n)) (hev : EvAt be la lc s w) (h64 : ∀ x ∈ setsL n, x < 64) :
    Calls Try.prog 64 #[.func (.func 86) #[] #[.pointer (some ⟨bs, 0, none⟩)], .func (.func 66) #[.pointer (some ⟨be, 0, none⟩)] #[]] w
      fun e w' => e = .returned (.tuple #[.int .i64 (((setsL n).find? (proveB s)).getD 0 : Nat), .bool ((setsL n).find? (proveB s)).isSome]) ∧ Kept w w' := by
  have lbs := World.block_lt_of_cell? w _ hbs
  simp only at lbs
  have lbe := hev.1
  have HE := Lib.hid hev
  clear hev
  refine callsIn_wide (n := 0) |>.1 ?_
  refine callsIn_of_wp_marks Try.func64 rfl trivial ?_ rfl
  simp only [Try.ntmps64, List.size_toArray, List.length_cons, List.length_nil, Nat.reduceAdd, Nat.reduceSub, Array.replicate_succ, Array.replicate_zero, List.push_toArray, List.append_toArray, List.nil_append, List.cons_append]
  refine wpIn_wide.2 ?_
  go_wp2_with fail
  refine (wpIn_wide (n := 0)).1 ?_
  have kW : Kept w (((w.alloc (Obj.cells #[.func (.func 66) #[.pointer (some ⟨be, 0, none⟩)] #[]] 122)).alloc (Obj.cells #[.int .i64 0] 3)).alloc (Obj.cells #[.bool false] 4)) := (((Kept.refl _).alloc _).alloc _).alloc _
  have c3 : (((w.alloc (Obj.cells #[.func (.func 66) #[.pointer (some ⟨be, 0, none⟩)] #[]] 122)).alloc (Obj.cells #[.int .i64 0] 3)).alloc (Obj.cells #[.bool false] 4)).cell? ⟨w.heap.size, 0, none⟩ = some (.func (.func 66) #[.pointer (some ⟨be, 0, none⟩)] #[]) := by simp [go_sem]
  have c4 : (((w.alloc (Obj.cells #[.func (.func 66) #[.pointer (some ⟨be, 0, none⟩)] #[]] 122)).alloc (Obj.cells #[.int .i64 0] 3)).alloc (Obj.cells #[.bool false] 4)).cell? ⟨w.heap.size + 1, 0, none⟩ = some (.int .i64 0) := by simp [go_sem]
  have c5 : (((w.alloc (Obj.cells #[.func (.func 66) #[.pointer (some ⟨be, 0, none⟩)] #[]] 122)).alloc (Obj.cells #[.int .i64 0] 3)).alloc (Obj.cells #[.bool false] 4)).cell? ⟨w.heap.size + 1 + 1, 0, none⟩ = some (.bool false) := by simp [go_sem]
  have z4 : (((w.alloc (Obj.cells #[.func (.func 66) #[.pointer (some ⟨be, 0, none⟩)] #[]] 122)).alloc (Obj.cells #[.int .i64 0] 3)).alloc (Obj.cells #[.bool false] 4)).frozen? ⟨w.heap.size + 1, 0, none⟩ = false := by simp [go_sem]
  have z5 : (((w.alloc (Obj.cells #[.func (.func 66) #[.pointer (some ⟨be, 0, none⟩)] #[]] 122)).alloc (Obj.cells #[.int .i64 0] 3)).alloc (Obj.cells #[.bool false] 4)).frozen? ⟨w.heap.size + 1 + 1, 0, none⟩ = false := by simp [go_sem]
  have sz0 : (((w.alloc (Obj.cells #[.func (.func 66) #[.pointer (some ⟨be, 0, none⟩)] #[]] 122)).alloc (Obj.cells #[.int .i64 0] 3)).alloc (Obj.cells #[.bool false] 4)).heap.size = w.heap.size + 3 := by simp
  have hev0 : EvAt be la lc s (((w.alloc (Obj.cells #[.func (.func 66) #[.pointer (some ⟨be, 0, none⟩)] #[]] 122)).alloc (Obj.cells #[.int .i64 0] 3)).alloc (Obj.cells #[.bool false] 4)) := HE.out.below lbe (Nat.le_refl _) kW
  have HEV := Lib.hid hev0
  clear hev0
  generalize hW0 : (((w.alloc (Obj.cells #[.func (.func 66) #[.pointer (some ⟨be, 0, none⟩)] #[]] 122)).alloc (Obj.cells #[.int .i64 0] 3)).alloc (Obj.cells #[.bool false] 4)) = W0 at *
  clear hW0
  have hit := sets1_iter (fun k => k = w.heap.size + 1 ∨ k = w.heap.size + 1 + 1) n bs W0 hn ((kW.cells bs 0 lbs).trans hbs) (fun k hk => by omega) (by omega)
  refine range_law (gf := 86) (lb := #[.pointer (some ⟨bs, 0, none⟩)]) (xs := setsL n) (w0 := W0) (T := fun k => k = w.heap.size + 1 ∨ k = w.heap.size + 1 + 1) rfl (enters_of Try.func86 (by kernel_rfl) rfl) hit (KeptT.refl _) (fun _ => rfl)
    (fun k hk => by omega)
    (fun pre W => pre.all (fun y => !proveB s y) = true ∧ Kept W0 W)
    (fun c W => c = .ret ∧ ∃ x, (setsL n).find? (proveB s) = some x ∧ W.cell? ⟨w.heap.size + 1, 0, none⟩ = some (.int .i64 (x : Nat)) ∧ W.cell? ⟨w.heap.size + 1 + 1, 0, none⟩ = some (.bool true) ∧ KeptT (fun k => k = w.heap.size + 1 ∨ k = w.heap.size + 1 + 1) W0 W)
    ?_ ?_ ⟨rfl, Kept.refl _⟩
    (fun x a' W => a' = { tmps := #[.func (.func 86) #[] #[.pointer (some ⟨bs, 0, none⟩)], .func (.func 66) #[.pointer (some ⟨be, 0, none⟩)] #[], undef, .pointer (some ⟨w.heap.size, 0, none⟩), .pointer (some ⟨w.heap.size + 1, 0, none⟩), .pointer (some ⟨w.heap.size + 1 + 1, 0, none⟩), .int .i64 (x : Nat),
        .func (.func 86) #[] #[.pointer (some ⟨bs, 0, none⟩)], .int .i64 (x : Nat), undef, undef, undef, undef, undef], defers := [] })
    ?_ ?assign ?body ?done ?stop
  · rintro pre A B ⟨g1, g2⟩ hb
    exact ⟨g1, Below.trans g2 hb⟩
  · rintro c A B ⟨g0, x, g1, g2, g3, g5⟩ hb
    exact ⟨g0, x, g1, (hb.cell (p := ⟨w.heap.size + 1, 0, none⟩) (show w.heap.size + 1 < W0.heap.size by omega)).trans g2, (hb.cell (p := ⟨w.heap.size + 1 + 1, 0, none⟩) (show w.heap.size + 1 + 1 < W0.heap.size by omega)).trans g3, g5.below hb⟩
  · rintro x a' W l r o h _
    exact h
  case assign =>
    intro l pre x W K hi hlt hK
    have HK := Lib.hid hK
    clear hK
    simp only [encS, List.zip_toArray, List.zip_cons_cons, List.zip_nil_left, List.foldl_toArray, List.foldl_cons, List.foldl_nil]
    gi_wp2
    refine HK.out _ _ (KeptT.refl _) hi ?_
    rfl
  case body =>
    rintro l pre x suf a' W hx hlt ⟨g1, g2⟩ rfl
    have e3 := (g2.cells w.heap.size 0 (by omega)).trans c3
    have e4 := (g2.cells (w.heap.size + 1) 0 (by omega)).trans c4
    have e5 := (g2.cells (w.heap.size + 1 + 1) 0 (by omega)).trans c5
    have y4 := (g2.frozens (w.heap.size + 1) 0 (by omega)).trans z4
    have y5 := (g2.frozens (w.heap.size + 1 + 1) 0 (by omega)).trans z5
    have hx64 := h64 x (by rw [hx]; simp)
    have hcall := Lib.hid (prove_any be la lc s x W hx64 (HEV.out.below (C := W0.heap.size) (by have := Kept.size kW; omega) (Nat.le_refl _) g2))
    have HX := Lib.hid hx
    have HG1 := Lib.hid g1
    have HG2 := Lib.hid g2
    clear hx g1 g2 hit kW
    cases hq : proveB s x with
    | true =>
      rw [hq] at hcall
      have HQ := Lib.hid hq
      clear hq
      gi_wp2_with (refine ⟨(trivial : Fence.wide.fn 66), (rfl : Fence.wide.depth = none), ?_⟩; refine (CallsIn.inRound l (callsIn_wide.2 hcall.out)).mono ?_; clear hcall; rintro e W2 ⟨rfl, rfl⟩)
      refine ⟨(keptT_setCell _ _ _ _).imp (fun q e => .inl e) |>.trans ((keptT_setCell _ _ _ _).imp (fun q e => .inr e)), rfl, x, by rw [HX.out]; exact find_snoc HG1.out HQ.out, by go_simp, by go_simp, ?_⟩
      exact (Kept.toT HG2.out _).trans ((keptT_setCell _ _ _ _).imp (fun q e => .inl e) |>.trans ((keptT_setCell _ _ _ _).imp (fun q e => .inr e)))
    | false =>
      rw [hq] at hcall
      have HQ := Lib.hid hq
      clear hq
      gi_wp2_with (refine ⟨(trivial : Fence.wide.fn 66), (rfl : Fence.wide.depth = none), ?_⟩; refine (CallsIn.inRound l (callsIn_wide.2 hcall.out)).mono ?_; clear hcall; rintro e W2 ⟨rfl, rfl⟩)
      exact ⟨KeptT.refl _, by rw [List.all_append, HG1.out]; simp [HQ.out], HG2.out⟩
  case done =>
    rintro D W hD ⟨g1, g2⟩ hK
    have e4 := (g2.cells (w.heap.size + 1) 0 (by omega)).trans c4
    have e5 := (g2.cells (w.heap.size + 1 + 1) 0 (by omega)).trans c5
    have y4 := (g2.frozens (w.heap.size + 1) 0 (by omega)).trans z4
    have y5 := (g2.frozens (w.heap.size + 1 + 1) 0 (by omega)).trans z5
    have hnone : (setsL n).find? (proveB s) = none := List.find?_eq_none.2 (fun y hy => by have := List.all_eq_true.1 g1 y hy; simpa using this)
    have HN := Lib.hid hnone
    have HG2 := Lib.hid g2
    have HK := Lib.hid hK
    clear g1 g2 hit hnone hK
    gi_wp2
    go_wp2
    obtain ⟨W2, hW2⟩ : ∃ W2, W2 = (W.setCell ⟨w.heap.size + 1, 0, none⟩ (.int .i64 0)).setCell ⟨w.heap.size + 1 + 1, 0, none⟩ (.bool false) := ⟨_, rfl⟩
    have hkT : KeptT (fun k => k = w.heap.size + 1 ∨ k = w.heap.size + 1 + 1) W W2 := by
      rw [hW2]; exact (keptT_setCell _ _ _ _).imp (fun q e => .inl e) |>.trans ((keptT_setCell _ _ _ _).imp (fun q e => .inr e))
    have hK2 : W2.heap[D]? = some (.deferred (some [])) := (hkT.block D (Array.getElem?_eq_some_iff.1 HK.out).1 (by omega)).trans HK.out
    have r4 : (W2.putObj D (.deferred none)).cell? ⟨w.heap.size + 1, 0, none⟩ = some (.int .i64 0) := by rw [putCell (by omega), hW2]; go_simp
    have r5 : (W2.putObj D (.deferred none)).cell? ⟨w.heap.size + 1 + 1, 0, none⟩ = some (.bool false) := by rw [putCell (by omega), hW2]; go_simp
    have kF : Kept w (W2.putObj D (.deferred none)) := Below.trans (hkT.toKept (Kept.step0 kW HG2.out) (fun i e => by omega)) (below_put W2 D (.deferred none) (by omega))
    rw [← hW2]
    change LeavesInM _ _ _ _ _ _ _ _ _
    refine ⟨by simp, .inl ⟨_, _, rfl, run_takeDeferred hK2, ?_⟩⟩
    refine ⟨.tuple #[.int .i64 0, .bool false], by simp [results, Try.results64, go_sem, r4, r5], by rw [HN.out]; rfl, kF⟩
  case stop =>
    rintro D c W hD ⟨rfl, x, g1, g2, g3, g5⟩ hK
    have hDl := (Array.getElem?_eq_some_iff.1 hK).1
    have r4 : (W.putObj D (.deferred none)).cell? ⟨w.heap.size + 1, 0, none⟩ = some (.int .i64 (x : Nat)) := by rw [putCell (by omega)]; exact g2
    have r5 : (W.putObj D (.deferred none)).cell? ⟨w.heap.size + 1 + 1, 0, none⟩ = some (.bool true) := by rw [putCell (by omega)]; exact g3
    have kF : Kept w (W.putObj D (.deferred none)) := Below.trans (g5.toKept kW (fun i e => by omega)) (below_put W D (.deferred none) (by omega))
    refine wpIn_ret ?_
    change LeavesInM _ _ _ _ _ _ _ _ _
    refine ⟨by simp, .inl ⟨_, _, rfl, run_takeDeferred hK, ?_⟩⟩
    refine ⟨.tuple #[.int .i64 (x : Nat), .bool true], by simp [results, Try.results64, go_sem, r4, r5], by rw [g1]; rfl, kF⟩
end Go.Proofs.Ytkjciobphbcknaa
