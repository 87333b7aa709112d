/- Package soil: the longest stretch. -/
import Derived.Test.YtfmbnobkenngaaaGX
import Derived.Test.YtfmbnobkenngaaaHC
import Derived.Test.YtfmbnobkenngaaaET
namespace Go.Proofs.Ytfmbnobkenngaaa
open Go.RowKit En

abbrev MixesAt (w : World) (a : Option Addr) (l : List MixD) : Prop := RowsAt w a 6 (l.map mixC)
abbrev LS := Int × Int × Nat
def innerF (s : Nat → Bool) (fr : Nat) : Nat → Nat → LS → LS × Bool
  | 0, _, st => (st, false)
  | d + 1, to, st => if s to then innerF s fr d (to + 1) (if st.2.2 ≤ to - fr then ((fr : Int), (to : Int), to - fr + 1) else st) else (st, true)
def outF (s : Nat → Bool) (n : Nat) : Nat → Nat → LS → LS
  | 0, _, st => st
  | d + 1, fr, st => if (innerF s fr (n - fr) fr st).2 then outF s n d (fr + 1) (innerF s fr (n - fr) fr st).1 else (innerF s fr (n - fr) fr st).1
def longF (s : Nat → Bool) (n : Nat) : LS := outF s n n 0 (0, 0, 0)
theorem innerF_end {s : Nat → Bool} {fr n to : Nat} {st : LS} (h : ¬ to < n) : innerF s fr (n - to) to st = (st, false) := by rw [show n - to = 0 by omega]; rfl
theorem innerF_stop {s : Nat → Bool} {fr n to : Nat} {st : LS} (h : to < n) (hs : s to = false) : innerF s fr (n - to) to st = (st, true) := by
  rw [show n - to = (n - (to + 1)) + 1 by omega, innerF, hs]; rfl
theorem innerF_new {s : Nat → Bool} {fr n to : Nat} {st : LS} (h : to < n) (hs : s to = true) (hc : st.2.2 ≤ to - fr) : innerF s fr (n - to) to st = innerF s fr (n - (to + 1)) (to + 1) ((fr : Int), (to : Int), to - fr + 1) := by
  rw [show n - to = (n - (to + 1)) + 1 by omega, innerF, hs, if_pos rfl, if_pos hc]
theorem innerF_old {s : Nat → Bool} {fr n to : Nat} {st : LS} (h : to < n) (hs : s to = true) (hc : ¬ st.2.2 ≤ to - fr) : innerF s fr (n - to) to st = innerF s fr (n - (to + 1)) (to + 1) st := by
  rw [show n - to = (n - (to + 1)) + 1 by omega, innerF, hs, if_pos rfl, if_neg hc]
theorem outF_go {s : Nat → Bool} {n fr : Nat} {st st' : LS} (h : fr < n) (hi : innerF s fr (n - fr) fr st = (st', true)) : outF s n (n - fr) fr st = outF s n (n - (fr + 1)) (fr + 1) st' := by
  obtain ⟨d, hd⟩ : ∃ d, d = n - (fr + 1) := ⟨_, rfl⟩
  rw [← hd, show n - fr = d + 1 by omega, outF, hi]; rfl
theorem outF_stop {s : Nat → Bool} {n fr : Nat} {st st' : LS} (h : fr < n) (hi : innerF s fr (n - fr) fr st = (st', false)) : outF s n (n - fr) fr st = st' := by
  obtain ⟨d, hd⟩ : ∃ d, d = n - (fr + 1) := ⟨_, rfl⟩
  rw [show n - fr = d + 1 by omega, outF, hi]; rfl
def sureB (L : List MixD) (c : Nat) (i : Nat) : Bool := decide (classesM (L.getD i noMix) = 2 ^ c)
theorem nat_ne (x y : Nat) : decide (((x : Nat) : Int) ≠ (y : Int)) = !decide (x = y) := by
  by_cases h : x = y
  · subst h; simp
  · have : ¬ ((x : Int) = (y : Int)) := by omega
    simp [h, this]
set_option maxRecDepth 100000 in
set_option maxHeartbeats 4000000 in
theorem longestK (g : GroundD) (L : List MixD) (c b o cM pl pc : Nat) (a1 a2 hs : Value) (pa : Option Addr) (w : World) (hg : ValidG g) (hc4 : c < 4) (hL : L.length = placesN g) (h20 : ∀ m ∈ L, In20M m) (hb : b < w.heap.size) (hM : ∀ i m, L[i]? = some m → ∀ j v, (mixC m)[j]? = some v → w.cell? ⟨b, o + i * 6 + j, none⟩ = some v) : Gives Try.prog 62 [.agg [.int .i64 g.long, a1, a2, .slice pa pl pc, hs, .slice (some ⟨b, o, none⟩) L.length cM].toArray, .int .i64 (c : Int)] w (.tuple #[.agg [.int .i64 (longF (sureB L c) (placesN g)).1, .int .i64 (longF (sureB L c) (placesN g)).2.1].toArray, .bool (decide ((0 : Int) < (((longF (sureB L c) (placesN g)).2.2 : Nat) : Int)))]) := by
  have hlong := hg.long
  have hpl : placesN g ≤ 41 := by unfold placesN; omega
  refine .mk <| enter (n := 44) Try.func62 rfl rfl rfl (by repeat (first | exact Fill.nil | apply Fill.cons)) ?_
  refine cw_seq ?_
  refine cw_region ?_
  refine lstep rfl rfl rfl (run_boxN (.tmp rfl)) ?_
  intro b2 _
  refine lstep rfl rfl rfl (run_box1 (.tmp rfl) rfl) ?_
  intro b3 _
  refine lstep rfl rfl rfl (run_alloc zr28) ?_
  intro b4 _
  refine lstepB rfl rfl rfl (run_assign .const) ?_
  refine lnil ?_
  refine xw_then ?_
  refine cw_scope ?_
  refine cw_seq ?_
  refine cw_region ?_
  refine lstep rfl rfl rfl (run_alloc zr3) ?_
  intro b6 _
  refine lstep0 rfl rfl (run_store1 (.tmp rfl) .const rfl sz3 (by repeat (first | exact Upd.here | apply Upd.there)) (by repeat (first | exact Put.done | apply Put.put | apply Put.skip))) ?_
  refine lnil ?_
  refine xw_then ?_
  refine cw_seq ?_
  refine cw_label ?_
  refine xw_then ?_
  refine cw_seq ?_
  refine cw_seq ?_
  refine cw_region ?_
  refine lstepB rfl rfl rfl (run_loadN (.tmp rfl) kd78 sz78 (by repeat (first | exact List.Mem.head _ | apply List.Mem.tail)) (by repeat (first | exact Sub.done | apply Sub.take | apply Sub.skip))) ?_
  refine lcallN rfl cb90 (.cons (.tmp rfl) (.cons .const .nil)) (F := fun (s : Nat × Nat) lo w' => lo ≤ s.1 ∧ lo ≤ s.2 ∧ w'.cell? ⟨s.1, 0, none⟩ = some (.int .i64 g.long) ∧ w'.cell? ⟨s.2, 0, none⟩ = some (.bool false)) (fun w _ => alongK g.long false _ _ _ _ _ w) ?_
  rintro ⟨z1, z2⟩ lo w1 ⟨a1', a2', c1, c2⟩ hlo hsz hsz2 h1
  dsimp only at a1' a2' c1 c2 ⊢
  have l1 : z1 < w1.heap.size := World.block_lt_of_cell? w1 _ c1
  have l2 : z2 < w1.heap.size := World.block_lt_of_cell? w1 _ c2
  refine lnil ?_
  refine xw_then ?_
  refine cw_block ?_
  have nb1 := h1.not_blk hb (fun h => h)
  refine cw_range (f := 105) (xs := alongL g.long false) (Cap := fun c => c = z1 ∨ c = z2) (S := LS) (fun s => [(b6, Obj.cells [.int .i64 ((s.2.2 : Nat) : Int)].toArray 3 (0, 0)), (b4, Obj.cells [.int .i64 s.1, .int .i64 s.2.1].toArray 28 (0, 0)), (b3, Obj.cells [.int .i64 (c : Int)].toArray 3 (0, 0)), (b2, Obj.cells [.int .i64 g.long, a1, a2, .slice pa pl pc, hs, .slice (some ⟨b, o, none⟩) L.length cM].toArray 78 (0, 0))])
    (fun k s => outF (sureB L c) (placesN g) (placesN g - k) k s = longF (sureB L c) (placesN g) ∧ s.2.2 ≤ placesN g) (0, 0, 0)
    cb105 (.tmp rfl) rfl (fun w hS => along1_iter g.long false z1 z2 w (by have := hg.long; omega) (hS.old_cell (fun h => absurd (hlo _ h) (by omega)) c1) (hS.old_cell (fun h => absurd (hlo _ h) (by omega)) c2))
    (fun c hc => by rcases hc with rfl | rfl; exact ⟨l1, fun h => absurd (hlo _ h) (by omega)⟩; exact ⟨l2, fun h => absurd (hlo _ h) (by omega)⟩) ⟨rfl, Nat.zero_le _⟩ (by repeat (first | exact Pick.nil | (apply Pick.cons; focus (repeat (first | exact Del.here | apply Del.there))))) ?_ ?_
  ·
    intro LL D fn tm k st x w2 hx hF h2
    have hk : k < placesN g := by have := (List.getElem?_eq_some_iff.1 hx).1; rwa [alongL_length] at this
    rw [alongL_at hk] at hx
    simp only [Bool.false_eq_true, if_false] at hx
    cases hx
    obtain ⟨hF, hsz⟩ := hF
    have nb2 := h2.not_blk (Nat.lt_of_lt_of_le hb h1.size) nb1
    have hc2 : ∀ i m, L[i]? = some m → ∀ j v, (mixC m)[j]? = some v → w2.cell? ⟨b, o + i * 6 + j, none⟩ = some v := fun i m hi j v hj => h2.old_cell nb1 (h1.old_cell (fun h => h) (hM i m hi j v hj))
    refine cw_region ?_
    refine lstepB rfl rfl rfl (run_assign (.tmp rfl)) ?_
    refine lnil ?_
    refine xw_begin rfl ?_
    refine cw_block ?_
    refine cw_seq ?_
    refine cw_seq ?_
    refine cw_region ?_
    refine lstepB rfl rfl rfl (run_move (.tmp rfl)) ?_
    refine lstepB rfl rfl rfl (run_assign (.tmp rfl)) ?_
    refine lnil ?_
    refine xw_then ?_
    refine cw_block ?_
    refine cw_loop (S := Nat × LS) (fun z => [(8, .int .i64 ((z.1 : Nat) : Int))]) [(2, _), (3, _), (4, _), (6, _), (7, _)] (fun z => [(LL, _), (D, _)] ++ [(b6, Obj.cells [.int .i64 ((z.2.2.2 : Nat) : Int)].toArray 3 (0, 0)), (b4, Obj.cells [.int .i64 z.2.1, .int .i64 z.2.2.1].toArray 28 (0, 0)), (b3, Obj.cells [.int .i64 (c : Int)].toArray 3 (0, 0)), (b2, Obj.cells [.int .i64 g.long, a1, a2, .slice pa pl pc, hs, .slice (some ⟨b, o, none⟩) L.length cM].toArray 78 (0, 0))]) (fun z => innerF (sureB L c) k (placesN g - z.1) z.1 z.2 = innerF (sureB L c) k (placesN g - k) k st ∧ k ≤ z.1 ∧ z.2.2.2 ≤ placesN g ∧ z.1 ≤ placesN g) (fun z => placesN g - z.1) (k, st) ⟨rfl, Nat.le_refl _, hsz, by show k ≤ _; omega⟩ (by repeat (first | exact Less.nil | refine Less.cons rfl ?_)) (by repeat (first | exact Pick.nil | (apply Pick.cons; focus (repeat (first | exact Del.here | apply Del.there))))) ?_
    intro z hz
    obtain ⟨to, s1⟩ := z
    obtain ⟨hz1, hz2, hz3, hz4⟩ := hz
    dsimp only at hz1 hz2 hz3 hz4 ⊢
    refine cw_seq ?_
    refine cw_seq ?_
    refine cw_region ?_
    refine lstepB rfl rfl rfl (run_move (.tmp rfl)) ?_
    refine lstepB rfl rfl rfl (run_fieldAddr (.tmp rfl) fa78_0 (by first | exact Nat.zero_add _ | exact rfl)) ?_
    refine lstepB rfl rfl rfl (run_fieldAddr (.tmp rfl) fa24_0 (by first | exact Nat.zero_add _ | exact rfl)) ?_
    refine lstepB rfl rfl rfl (run_load1 (.tmp rfl) kd3 (by repeat (first | exact List.Mem.head _ | apply List.Mem.tail)) (by exact rfl)) ?_
    refine lstepB rfl rfl rfl (run_leq (.tmp rfl) (.tmp rfl) rfl) ?_
    refine lnil ?_
    refine xw_then ?_
    refine cw_cond_p (.tmp rfl) (fun hl => ?_) (fun hl => ?_)
    ·
      have hto : to < placesN g := by unfold placesN; omega
      have hgm : L[to]? = some (L.getD to noMix) := by rw [List.getD_eq_getElem?_getD, List.getElem?_eq_getElem (by omega)]; rfl
      have hsm := getD_in20 h20 to
      refine cw_skip ?_
      refine xw_then ?_
      refine cw_seq ?_
      refine cw_block ?_
      refine cw_seq ?_
      refine cw_seq ?_
      refine cw_chain2 (σ := [0, 1, 2, 3, 4, 5, 6, 7, 8]) [⟨0, [], [], [], 0⟩, ⟨0, [5], [], [], 1⟩, ⟨0, [], [], [], 0⟩, ⟨0, [], [], [], 7⟩, ⟨0, [], [], [], 15⟩, ⟨0, [], [], [], 31⟩, ⟨0, [4], [], [], 0⟩, ⟨0, [], [], [], 64⟩, ⟨0, [], [], [], 255⟩] [(0, _), (1, _), (2, _), (3, _), (4, _), (5, _)] (by kernel_rfl) (by kernel_rfl) rfl ?_
      refine .det (B := []) rfl rfl (.inl rfl) .nil .nil rfl (RunB.lr (run_fieldAddr (.tmp rfl) fa78_2 (by first | exact Nat.zero_add _ | exact rfl))) ?_
      refine .det (B := []) rfl rfl (.inl rfl) (.cons rfl .nil) .nil rfl (RunB.lr (run_load1 (.tmp rfl) kd76 (by repeat (first | exact List.Mem.head _ | apply List.Mem.tail)) (by exact rfl))) ?_
      refine .det (B := []) rfl rfl (.inl rfl) .nil .nil rfl (RunB.lr (run_move (.tmp rfl))) ?_
      refine .det (B := []) rfl rfl (.inl rfl) .nil .nil rfl (RunB.lr (run_indexAddr (i := to) (off' := o + to * 6) (.tmp rfl) (.tmp rfl) el76 (by omega) rfl)) ?_
      refine .det (B := []) rfl rfl (.inl rfl) .nil .nil rfl (RunB.lr (run_loadN_at (l := mixC (L.getD to noMix)) (.tmp rfl) kd85 sz85 rfl (fun w' hS j v hj => hS.old_cell nb2 (hc2 to _ hgm j v hj)))) ?_
      refine .det (B := []) rfl rfl (.inl rfl) .nil .nil rfl (RunB.lr (run_call1 cb56 (.cons (.tmp rfl) .nil) (fun w _ => classesK _ hsm.sm w))) ?_
      refine .det (B := []) rfl rfl (.inl rfl) (.cons rfl .nil) .nil rfl (RunB.lr (run_load1 (.tmp rfl) kd3 (by repeat (first | exact List.Mem.head _ | apply List.Mem.tail)) (by exact rfl))) ?_
      refine .det (B := []) rfl rfl (.inl rfl) .nil .nil rfl (RunB.lr (run_shl (c' := ((2 ^ c : Nat) : Int)) .const (.tmp rfl) (by omega) (shl4 ⟨c, hc4⟩))) ?_
      refine .det (B := []) rfl rfl (.inl rfl) .nil .nil rfl (RunB.lr (run_neq (p := !(sureB L c) to) (.tmp rfl) (.tmp rfl) (nat_ne _ _))) ?_
      refine chain_nil (ts := [0, 1, 2, 3, 4, 5]) (.cons rfl (.cons rfl (.cons rfl (.cons rfl (.cons rfl (.cons rfl .nil)))))) (by decide) ?_
      refine xw_then ?_
      refine cw_cond (.tmp rfl) (fun hc3 => ?_) (fun hc3 => ?_)
      ·
        have hs : sureB L c to = false := by simpa using hc3
        have hR := hz1.symm.trans (innerF_stop hto hs)
        refine cw_exit ?_
        refine xw_then_exit ?_
        refine xw_in_other rfl ?_
        refine xw_then_exit ?_
        refine xw_then_exit ?_
        refine xw_in_other rfl ?_
        refine xw_then_exit ?_
        refine xw_in_exit ?_
        exact xw_rnext s1 ⟨(outF_go hk hR).symm.trans hF, hz3⟩ (by repeat (first | exact Pick.nil | (apply Pick.cons; focus (repeat (first | exact Del.here | apply Del.there)))))
      ·
        have hs : sureB L c to = true := by simpa using hc3
        refine cw_skip ?_
        refine xw_then ?_
        refine cw_seq ?_
        refine cw_region ?_
        refine lstepB rfl rfl rfl (run_move (.tmp rfl)) ?_
        refine lstepB rfl rfl rfl (run_move (.tmp rfl)) ?_
        refine lstepB rfl rfl rfl (run_sub (c := ((to - k : Nat) : Int)) (.tmp rfl) (.tmp rfl) (by rw [IntWalk.i64_in _ (by omega)]; omega)) ?_
        refine lstepB rfl rfl rfl (run_load1 (.tmp rfl) kd3 (by repeat (first | exact List.Mem.head _ | apply List.Mem.tail)) (by exact rfl)) ?_
        refine lstepB rfl rfl rfl (run_geq (.tmp rfl) (.tmp rfl) rfl) ?_
        refine lnil ?_
        refine xw_then ?_
        refine cw_cond_p (.tmp rfl) (fun hc4' => ?_) (fun hc4' => ?_)
        ·
          refine cw_region ?_
          refine lstepB rfl rfl rfl (run_move (.tmp rfl)) ?_
          refine lstepB rfl rfl rfl (run_move (.tmp rfl)) ?_
          refine lstepB rfl rfl rfl (run_build_at (.cons (.tmp rfl) (.cons (.tmp rfl) .nil)) (fun w => bd28_0_1 w)) ?_
          refine lstepB rfl rfl rfl (run_move (.tmp rfl)) ?_
          refine lstepB rfl rfl rfl (run_move (.tmp rfl)) ?_
          refine lstepB rfl rfl rfl (run_sub (c := ((to - k : Nat) : Int)) (.tmp rfl) (.tmp rfl) (by rw [IntWalk.i64_in _ (by omega)]; omega)) ?_
          refine lstepB rfl rfl rfl (run_add (c := ((to - k + 1 : Nat) : Int)) (.tmp rfl) .const (by rw [IntWalk.i64_in _ (by omega)]; omega)) ?_
          refine lstep0 rfl rfl (run_storeN (.tmp rfl) (.tmp rfl) rfl sz28 rfl (by repeat (first | exact Upd.here | apply Upd.there)) (by repeat (first | exact Put.done | apply Put.put | apply Put.skip))) ?_
          refine lstep0 rfl rfl (run_store1 (.tmp rfl) (.tmp rfl) rfl sz3 (by repeat (first | exact Upd.here | apply Upd.there)) (by repeat (first | exact Put.done | apply Put.put | apply Put.skip))) ?_
          refine lnil ?_
          refine xw_in ?_
          refine xw_then ?_
          refine cw_region ?_
          refine lstepB rfl rfl rfl (run_move (.tmp rfl)) ?_
          refine lstepB rfl rfl rfl (run_add (c := ((to + 1 : Nat) : Int)) (.tmp rfl) .const (by rw [IntWalk.i64_in _ (by omega)]; omega)) ?_
          refine lstepB rfl rfl rfl (run_assign (.tmp rfl)) ?_
          refine lnil ?_
          exact xw_round (to + 1, ((k : Int), (to : Int), to - k + 1)) ⟨(innerF_new (st := s1) hto hs (by omega)).symm.trans hz1, by omega, by show to - k + 1 ≤ _; omega, by omega⟩ (by show placesN g - (to + 1) < placesN g - to; omega) (by repeat (first | exact Less.nil | refine Less.cons rfl ?_)) (by repeat (first | exact Pick.nil | (apply Pick.cons; focus (repeat (first | exact Del.here | apply Del.there)))))
        ·
          refine cw_skip ?_
          refine xw_in ?_
          refine xw_then ?_
          refine cw_region ?_
          refine lstepB rfl rfl rfl (run_move (.tmp rfl)) ?_
          refine lstepB rfl rfl rfl (run_add (c := ((to + 1 : Nat) : Int)) (.tmp rfl) .const (by rw [IntWalk.i64_in _ (by omega)]; omega)) ?_
          refine lstepB rfl rfl rfl (run_assign (.tmp rfl)) ?_
          refine lnil ?_
          exact xw_round (to + 1, s1) ⟨(innerF_old (st := s1) hto hs (by omega)).symm.trans hz1, by omega, hz3, by omega⟩ (by show placesN g - (to + 1) < placesN g - to; omega) (by repeat (first | exact Less.nil | refine Less.cons rfl ?_)) (by repeat (first | exact Pick.nil | (apply Pick.cons; focus (repeat (first | exact Del.here | apply Del.there)))))
    ·
      have hto : ¬ to < placesN g := by unfold placesN; omega
      have hR := hz1.symm.trans (innerF_end hto)
      refine cw_exit ?_
      refine xw_then_exit ?_
      refine xw_then_exit ?_
      refine xw_in_exit ?_
      refine xw_then ?_
      refine cw_exit ?_
      refine xw_in_other rfl ?_
      refine xw_rexit (H' := [(b6, Obj.cells [.int .i64 ((s1.2.2 : Nat) : Int)].toArray 3 (0, 0)), (b4, Obj.cells [.int .i64 s1.1, .int .i64 s1.2.1].toArray 28 (0, 0)), (b3, Obj.cells [.int .i64 (c : Int)].toArray 3 (0, 0)), (b2, Obj.cells [.int .i64 g.long, a1, a2, .slice pa pl pc, hs, .slice (some ⟨b, o, none⟩) L.length cM].toArray 78 (0, 0))]) (by repeat (first | exact Pick.nil | (apply Pick.cons; focus (repeat (first | exact Del.here | apply Del.there))))) ?_
      have hfin : s1 = longF (sureB L c) (placesN g) := (outF_stop hk hR).symm.trans hF
      refine xw_in_exit ?_
      refine xw_then ?_
      refine cw_seq ?_
      refine cw_chain2 (σ := [0, 1, 2, 3, 4]) [⟨0, [2], [], [], 0⟩, ⟨0, [1], [], [], 0⟩, ⟨0, [], [], [], 2⟩, ⟨0, [], [2], [2], 1⟩, ⟨0, [], [], [], 15⟩] [(0, _), (1, _), (2, _), (3, _), (4, _)] (by kernel_rfl) (by kernel_rfl) rfl ?_
      refine .det (B := []) rfl rfl (.inl rfl) (.cons rfl .nil) .nil rfl (RunB.lr (run_loadN (.tmp rfl) kd28 sz28 (by repeat (first | exact List.Mem.head _ | apply List.Mem.tail)) (by repeat (first | exact Sub.done | apply Sub.take | apply Sub.skip)))) ?_
      refine .det (B := []) rfl rfl (.inl rfl) (.cons rfl .nil) .nil rfl (RunB.lr (run_load1 (.tmp rfl) kd3 (by repeat (first | exact List.Mem.head _ | apply List.Mem.tail)) (by exact rfl))) ?_
      refine .det (B := []) rfl rfl (.inl rfl) .nil .nil rfl (RunB.lr (run_gtr (.tmp rfl) .const rfl)) ?_
      refine .det (B := [(2, (_, _))]) rfl rfl (.inl rfl) .nil (.cons rfl .nil) rfl (lr_storeN (.tmp rfl) (.tmp rfl) rfl sz28 rfl (by repeat (first | exact Put.done | apply Put.put | apply Put.skip))) ?_
      refine .det (B := []) rfl rfl (.inl rfl) .nil .nil rfl (RunB.lr (run_assign (.tmp rfl))) ?_
      refine chain_nil (ts := [0, 1, 2, 3, 4]) (.cons rfl (.cons rfl (.cons rfl (.cons rfl (.cons rfl .nil))))) (by decide) ?_
      refine xw_then ?_
      refine cw_ret ?_
      refine xw_scope_ret ?_
      refine xw_pick (H' := (D, dfr) :: [(b4, _)]) (by repeat (first | exact Pick.nil | (apply Pick.cons; focus (repeat (first | exact Del.here | apply Del.there))))) ?_
      exact xw_retC2D Try.results62 rfl rfl kd28 sz28 (by repeat (first | exact List.Mem.head _ | apply List.Mem.tail)) (by repeat (first | exact Sub.done | apply Sub.take | apply Sub.skip)) (fun w hS => ⟨by rw [← hfin], (h1.join0 hS).kept⟩)
  ·
    intro D st hF
    rw [alongL_length] at hF
    obtain ⟨hF, _⟩ := hF
    have hfin : st = longF (sureB L c) (placesN g) := by
      rw [show placesN g - (g.long + 1).toNat = 0 by unfold placesN; omega] at hF
      exact hF
    refine xw_in ?_
    refine xw_then ?_
    refine cw_seq ?_
    refine cw_chain2 (σ := [0, 1, 2, 3, 4]) [⟨0, [2], [], [], 0⟩, ⟨0, [1], [], [], 0⟩, ⟨0, [], [], [], 2⟩, ⟨0, [], [2], [2], 1⟩, ⟨0, [], [], [], 15⟩] [(0, _), (1, _), (2, _), (3, _), (4, _)] (by kernel_rfl) (by kernel_rfl) rfl ?_
    refine .det (B := []) rfl rfl (.inl rfl) (.cons rfl .nil) .nil rfl (RunB.lr (run_loadN (.tmp rfl) kd28 sz28 (by repeat (first | exact List.Mem.head _ | apply List.Mem.tail)) (by repeat (first | exact Sub.done | apply Sub.take | apply Sub.skip)))) ?_
    refine .det (B := []) rfl rfl (.inl rfl) (.cons rfl .nil) .nil rfl (RunB.lr (run_load1 (.tmp rfl) kd3 (by repeat (first | exact List.Mem.head _ | apply List.Mem.tail)) (by exact rfl))) ?_
    refine .det (B := []) rfl rfl (.inl rfl) .nil .nil rfl (RunB.lr (run_gtr (.tmp rfl) .const rfl)) ?_
    refine .det (B := [(2, (_, _))]) rfl rfl (.inl rfl) .nil (.cons rfl .nil) rfl (lr_storeN (.tmp rfl) (.tmp rfl) rfl sz28 rfl (by repeat (first | exact Put.done | apply Put.put | apply Put.skip))) ?_
    refine .det (B := []) rfl rfl (.inl rfl) .nil .nil rfl (RunB.lr (run_assign (.tmp rfl))) ?_
    refine chain_nil (ts := [0, 1, 2, 3, 4]) (.cons rfl (.cons rfl (.cons rfl (.cons rfl (.cons rfl .nil))))) (by decide) ?_
    refine xw_then ?_
    refine cw_ret ?_
    refine xw_scope_ret ?_
    refine xw_pick (H' := (D, dfr) :: [(b4, _)]) (by repeat (first | exact Pick.nil | (apply Pick.cons; focus (repeat (first | exact Del.here | apply Del.there))))) ?_
    exact xw_retC2D Try.results62 rfl rfl kd28 sz28 (by repeat (first | exact List.Mem.head _ | apply List.Mem.tail)) (by repeat (first | exact Sub.done | apply Sub.take | apply Sub.skip)) (fun w hS => ⟨by rw [← hfin], (h1.join0 hS).kept⟩)
end Go.Proofs.Ytfmbnobkenngaaa
