/- Furrow: the document's own All, hull, Bend, At. -/
import Derived.Test.YtjdeplehhmhpcaaGY
namespace Go.Proofs.Ytjdeplehhmhpcaa
open Go.RowKit En

theorem below2 {a b c : World} (h : Below a.heap.size a b) (k : Below b.heap.size b c) : Below a.heap.size a c :=
  ⟨k.os.trans h.os, k.tape.trans h.tape, k.output.trans h.output, Nat.le_trans h.size k.size, fun x hx => (k.block x (Nat.lt_of_lt_of_le hx h.size)).trans (h.block x hx)⟩
theorem below_blk {w w1 w' : World} {H R : Heap} (h0 : St w NoT H w1) (hS : St w1 (blk H) R w') : Below w.heap.size w w' :=
  ⟨hS.os.trans h0.os, hS.tape.trans h0.tape, hS.output.trans h0.output, Nat.le_trans h0.size hS.size, fun b hb => by
    rw [hS.old b (Nat.lt_of_lt_of_le hb h0.size) (fun ⟨x, hx, e⟩ => by
      rcases (h0.own x hx).2 with h | h
      · omega
      · exact h), h0.old b hb (fun h => h)]⟩
/-- All ways of a furrow, in memory, behind lo. -/
structure AllAt (lo : Nat) (w : World) (g : Nat × Nat × List Value) (Ls : List (List Int)) : Prop where
  low : lo ≤ g.1
  cap : Ls.length ≤ g.2.1
  at_ : ∀ (i : Nat) (t : List Int), Ls[i]? = some t → ∃ (a : Option Addr) (c : Nat), w.cell? ⟨g.1, i, none⟩ = some (.slice a t.length c) ∧ IntsAt w a t ∧ Low lo a
theorem AllAt.kept {lo : Nat} {w w' : World} {g : Nat × Nat × List Value} {Ls : List (List Int)} (h : AllAt lo w g Ls) (hb : Below w.heap.size w w') : AllAt lo w' g Ls := ⟨h.low, h.cap, fun i t hi => by
  obtain ⟨a, c, h1, h2, h3⟩ := h.at_ i t hi
  exact ⟨a, c, cell_kept' h1 hb, h2.kept hb, h3⟩⟩
theorem allAt_of {lo : Nat} {w : World} {g : Nat × Nat × List Value} {Ls : List (List Int)} (h : GoodO lo w (some g) Ls) (hl : lo ≤ g.1) : AllAt lo w g Ls := by
  obtain ⟨h1, es, h2, h3, h4⟩ := h
  refine ⟨hl, h2.1, fun i t hi => ?_⟩
  obtain ⟨v, hv, a, c, rfl, h5, _, h6⟩ := h4 i t hi
  have := h2.get hv
  exact ⟨a, c, by simp [World.cell?, h1, this], h5, h6⟩
theorem low_not {lo b : Nat} {H : Heap} (h : ∀ x, blk H x → x < lo) (hb : lo ≤ b) : ¬ blk H b := fun hx => by have := h b hx; omega
/-- What is read of a way behind the call. -/
theorem AllAt.ints {lo : Nat} {w1 w2 : World} {H : Heap} {R : Heap} {a : Option Addr} {t : List Int} (hp : IntsAt w1 a t) (ha : Low lo a) (h : ∀ x, blk H x → x < lo) (hS : St w1 (blk H) R w2) : IntsAt w2 a t := rowsAt_old hp hS fun b off e => low_not h (ha b off e)
abbrev lsF (f : FurrowD) : List (List Int) := allF f.offs f.offs.length []
theorem lsF_len {f : FurrowD} (hw3 : ∀ s ∈ f.offs, s.hi - s.lo ≤ 3) (h6 : f.offs.length ≤ 6) : (lsF f).length ≤ 4096 := by
  have h1 := allF_len hw3 f.offs.length [] (by simp)
  have h2 : 4 ^ f.offs.length ≤ 4 ^ 6 := Nat.pow_le_pow_right (by omega) h6
  exact Nat.le_trans h1 h2
theorem lsF_inn {f : FurrowD} {i : Nat} {t : List Int} (h : (lsF f)[i]? = some t) : Inn f.offs t := mem_all.1 (List.mem_of_getElem? h)
theorem valid12 {f : FurrowD} (hv : ValidF f) : ∀ s ∈ f.offs, -12 ≤ s.lo ∧ s.lo ≤ s.hi ∧ s.hi ≤ 12 := fun s hs => by
  obtain ⟨k, hk, rfl⟩ := List.getElem_of_mem hs
  have h1 := (hv.st hk).1
  rw [List.getD_eq_getElem?_getD, List.getElem?_eq_getElem hk] at h1
  simp only [Option.getD_some] at h1
  omega
set_option maxRecDepth 100000 in
set_option maxHeartbeats 4000000 in
theorem allWaysK (f : FurrowD) (oa wa da : Option Addr) (oc wc dc : Nat) (hv : ValidF f) (hw3 : ∀ s ∈ f.offs, s.hi - s.lo ≤ 3) (h6 : f.offs.length ≤ 6) (w : World) (hm : Lens f) (hf : FurrowAt w f oa wa da) : CallsF Try.prog 46 (([furrowV f oa wa da oc wc dc] : List Value)).toArray w fun e w' => ∃ g, AllAt w.heap.size w' g (lsF f) ∧ e = .returned (outV (some g) (lsF f).length) ∧ Below w.heap.size w w' := by
  refine enter (n := 6) Try.func46 rfl rfl rfl (by repeat (first | exact Fill.nil | apply Fill.cons)) ?_
  refine cw_seq ?_
  refine cw_region ?_
  refine lstep rfl rfl rfl (run_boxN (.tmp rfl)) ?_
  intro b1 _
  refine lstepB rfl rfl rfl (run_assign .const) ?_
  refine lnil ?_
  refine xw_then ?_
  refine cw_seq ?_
  refine cw_region ?_
  refine lstepB rfl rfl rfl (run_fieldAddr (.tmp rfl) fa24_0 (by first | exact Nat.zero_add _ | exact rfl)) ?_
  refine lstepB rfl rfl rfl (run_load1 (.tmp rfl) kd22 (by repeat (first | exact List.Mem.head _ | apply List.Mem.tail)) (by exact rfl)) ?_
  have h12 := valid12 hv
  refine lcallW rfl cb84 (.cons (.tmp rfl) (.cons .const (.cons .const (.cons .const .nil)))) (G := fun (g : Nat × Nat × List Value) w2 w1 => WaysG w.heap.size w2 w1 none g (lsF f) ∧ w.heap.size ≤ w2.heap.size ∧ Below w.heap.size w w2) (rv := fun g => outV (some g) (lsF f).length) (fun w2 hS => (waysK hv.fine h12 (by omega) w.heap.size f.offs.length [] (by simp) (fun x hx => by cases hx) oa oc none 0 none [] w2 hS.size (hf.kept hS.kept).offs (fun h0 b off e => ⟨by obtain ⟨b2, o2, e2, h2, _⟩ := (hf.kept hS.kept).offs.span h0; rw [e] at e2; cases e2; exact h2, fun h => h⟩) (fun i r h => by simp at h) (fun b off e => by cases e) (fun b off e => by cases e) rfl (by have h4 : (allF f.offs f.offs.length []).length ≤ 4096 := lsF_len hw3 h6; simp only [List.length_nil, Nat.zero_add]; omega)).mono fun e w1 ⟨g, h1, h2⟩ => ⟨g, ⟨h1, hS.size, hS.kept⟩, h2⟩) (fun _ => NoT) (fun _ => []) (fun g w2 w1 _ _ => ⟨rfl, rfl, rfl, Nat.le_refl _, fun _ _ _ => rfl, fun _ hx => (List.not_mem_nil hx).elim, .nil⟩) ?_
  intro g w2 w1 hS ⟨hG, hsz, hbe⟩
  refine lstepB rfl rfl rfl (run_assign (.tmp rfl)) ?_
  refine lnil ?_
  refine xw_then ?_
  refine cw_ret ?_
  refine xw_ret1 Try.results46 rfl (fun w3 hS3 => ⟨g, (allAt_of hG.good (hG.new.elim (fun h => h.elim) (fun h => Nat.le_trans hsz h))).kept hS3.kept, rfl, below2 (below2 hbe hG.ch.kept) hS3.kept⟩)
set_option maxRecDepth 100000 in
set_option maxHeartbeats 4000000 in
theorem rinnerK (f : FurrowD) (oa wa da : Option Addr) (oc wc dc : Nat) (st : Int) (w : World) (hm : Lens f) (hf : FurrowAt w f oa wa da) : Gives Try.prog 51 [furrowV f oa wa da oc wc dc, .int .i64 st] w (.bool (innerB f.offs.length st)) := by
  have hmm := hm.all
  unfold innerB
  by_cases h : 0 < st
  ·
    refine .mk <| enter (n := 15) Try.func51 rfl rfl rfl (by repeat (first | exact Fill.nil | apply Fill.cons)) ?_
    refine cw_seq ?_
    refine cw_region ?_
    refine lstep rfl rfl rfl (run_boxN (.tmp rfl)) ?_
    intro b2 _
    refine lstepB rfl rfl rfl (run_assign .const) ?_
    refine lnil ?_
    refine xw_then ?_
    refine cw_seq ?_
    refine cw_region ?_
    refine lstepB rfl rfl rfl (run_move (.tmp rfl)) ?_
    refine lstepB rfl rfl rfl (run_gtr (.tmp rfl) .const (decide_eq_true (by omega))) ?_
    refine lstepB rfl rfl rfl (run_move (.tmp rfl)) ?_
    refine lyes rfl rfl rfl rfl ?_
    refine gstepB rfl rfl (run_move (.tmp rfl)) ?_
    refine lyes rfl rfl rfl rfl ?_
    refine gstepB rfl rfl (run_fieldAddr (.tmp rfl) fa24_0 (by first | exact Nat.zero_add _ | exact rfl)) ?_
    refine lyes rfl rfl rfl rfl ?_
    refine gstepB rfl rfl (run_load1 (.tmp rfl) kd22 (by repeat (first | exact List.Mem.head _ | apply List.Mem.tail)) (by exact rfl)) ?_
    refine lyes rfl rfl rfl rfl ?_
    refine gstepB rfl rfl (run_len (.tmp rfl) sl22) ?_
    refine lyes rfl rfl rfl rfl ?_
    refine gstepB rfl rfl (run_sub (.tmp rfl) .const (by first | exact IntWalk.i64_in _ (by omega) | exact rfl)) ?_
    refine lyes rfl rfl rfl rfl ?_
    refine gstepB rfl rfl (run_lss (.tmp rfl) (.tmp rfl) rfl) ?_
    refine lstepB rfl rfl rfl (by first | exact run_pick_true (.tmp rfl) (.tmp rfl) | exact run_pick_false (.tmp rfl) .const) ?_
    refine lstepB rfl rfl rfl (run_assign (.tmp rfl)) ?_
    refine lnil ?_
    refine xw_then ?_
    refine cw_ret ?_
    refine xw_ret1 Try.results51 rfl (fun w hS => ⟨by rw [decide_eq_true h]; rfl, hS.kept⟩)
  ·
    refine .mk <| enter (n := 15) Try.func51 rfl rfl rfl (by repeat (first | exact Fill.nil | apply Fill.cons)) ?_
    refine cw_seq ?_
    refine cw_region ?_
    refine lstep rfl rfl rfl (run_boxN (.tmp rfl)) ?_
    intro b2 _
    refine lstepB rfl rfl rfl (run_assign .const) ?_
    refine lnil ?_
    refine xw_then ?_
    refine cw_seq ?_
    refine cw_region ?_
    refine lstepB rfl rfl rfl (run_move (.tmp rfl)) ?_
    refine lstepB rfl rfl rfl (run_gtr (.tmp rfl) .const (decide_eq_false (by omega))) ?_
    refine lstepB rfl rfl rfl (run_move (.tmp rfl)) ?_
    refine lskip rfl rfl rfl rfl rfl rfl rfl ?_
    refine lskip rfl rfl rfl rfl rfl rfl rfl ?_
    refine lskip rfl rfl rfl rfl rfl rfl rfl ?_
    refine lskip rfl rfl rfl rfl rfl rfl rfl ?_
    refine lskip rfl rfl rfl rfl rfl rfl rfl ?_
    refine lskip rfl rfl rfl rfl rfl rfl rfl ?_
    refine lstepB rfl rfl rfl (by first | exact run_pick_true (.tmp rfl) (.tmp rfl) | exact run_pick_false (.tmp rfl) .const) ?_
    refine lstepB rfl rfl rfl (run_assign (.tmp rfl)) ?_
    refine lnil ?_
    refine xw_then ?_
    refine cw_ret ?_
    refine xw_ret1 Try.results51 rfl (fun w hS => ⟨by rw [decide_eq_false h]; rfl, hS.kept⟩)
def hullS (s : SpanD) (n : Int) (first : Bool) : SpanD := if first then ⟨n, n⟩ else ⟨min s.lo n, max s.hi n⟩
def hullN (ms : Nat → Int) : Nat → SpanD
  | 0 => ⟨0, 0⟩
  | k + 1 => hullS (hullN ms k) (ms k) (decide (((k : Nat) : Int) = 0))
theorem hullN_spec {ms : Nat → Int} : ∀ n : Nat, (∀ k, k < n + 1 → (hullN ms (n + 1)).lo ≤ ms k ∧ ms k ≤ (hullN ms (n + 1)).hi) ∧ (∃ k, k < n + 1 ∧ ms k = (hullN ms (n + 1)).lo) ∧ ∃ k, k < n + 1 ∧ ms k = (hullN ms (n + 1)).hi
  | 0 => by
    have e : hullN ms 1 = ⟨ms 0, ms 0⟩ := rfl
    rw [e]
    refine ⟨fun k hk => ?_, ⟨0, by omega, rfl⟩, 0, by omega, rfl⟩
    obtain rfl : k = 0 := by omega
    exact ⟨Int.le_refl _, Int.le_refl _⟩
  | n + 1 => by
    obtain ⟨h1, ⟨a, ha, ha2⟩, b, hb, hb2⟩ := hullN_spec (ms := ms) n
    have e : hullN ms (n + 1 + 1) = ⟨min (hullN ms (n + 1)).lo (ms (n + 1)), max (hullN ms (n + 1)).hi (ms (n + 1))⟩ := by
      show hullS _ _ _ = _
      rw [decide_eq_false (by omega)]; rfl
    rw [e]
    simp only
    refine ⟨fun k hk => ?_, ?_, ?_⟩
    · rcases Nat.lt_or_ge k (n + 1) with h | h
      · have := h1 k h; omega
      · obtain rfl : k = n + 1 := by omega
        omega
    · by_cases c : (hullN ms (n + 1)).lo ≤ ms (n + 1)
      · exact ⟨a, by omega, by omega⟩
      · exact ⟨n + 1, by omega, by omega⟩
    · by_cases c : ms (n + 1) ≤ (hullN ms (n + 1)).hi
      · exact ⟨b, by omega, by omega⟩
      · exact ⟨n + 1, by omega, by omega⟩
theorem hull_eq {Ls : List (List Int)} {g : List Int → Int} {s : SpanD} (hn : 0 < Ls.length) (h1 : ∀ t ∈ Ls, s.lo ≤ g t ∧ g t ≤ s.hi) (h2 : ∃ t ∈ Ls, g t = s.lo) (h3 : ∃ t ∈ Ls, g t = s.hi) : hullN (fun i => g (Ls.getD i [])) Ls.length = s := by
  obtain ⟨n, hn2⟩ : ∃ n, Ls.length = n + 1 := ⟨Ls.length - 1, by omega⟩
  obtain ⟨a1, ⟨a, ha, ha2⟩, b, hb, hb2⟩ := hullN_spec (ms := fun i => g (Ls.getD i [])) n
  rw [hn2]
  have hmem : ∀ k, k < n + 1 → Ls.getD k [] ∈ Ls := fun k hk => by
    rw [List.getD_eq_getElem?_getD, List.getElem?_eq_getElem (by omega)]; exact List.getElem_mem _
  have hidx : ∀ t ∈ Ls, ∃ k, k < n + 1 ∧ Ls.getD k [] = t := fun t ht => by
    obtain ⟨k, hk, e⟩ := List.getElem_of_mem ht
    exact ⟨k, by omega, by rw [List.getD_eq_getElem?_getD, List.getElem?_eq_getElem hk]; exact e⟩
  obtain ⟨t, ht, et⟩ := h2
  obtain ⟨u, hu, eu⟩ := h3
  obtain ⟨i, hi, rfl⟩ := hidx t ht
  obtain ⟨j, hj, rfl⟩ := hidx u hu
  have q1 := a1 i hi
  have q2 := a1 j hj
  have q3 := h1 _ (hmem a ha)
  have q4 := h1 _ (hmem b hb)
  cases hx : hullN (fun i => g (Ls.getD i [])) (n + 1) with | mk x y =>
  rw [hx] at q1 q2 ha2 hb2
  simp only at q1 q2 ha2 hb2
  cases s with | mk z v =>
  simp only at et eu q3 q4
  rw [show x = z by omega, show y = v by omega]
set_option maxRecDepth 100000 in
set_option maxHeartbeats 4000000 in
theorem hullK (s : SpanD) (n : Int) (first : Bool) (w : World) : Gives Try.prog 47 [.agg (spanC s).toArray, .int .i64 n, .bool first] w (.agg (spanC (hullS s n first)).toArray) := by
  cases first
  ·
    refine .mk <| enter (n := 20) Try.func47 rfl rfl rfl (by repeat (first | exact Fill.nil | apply Fill.cons)) ?_
    refine cw_seq ?_
    refine cw_region ?_
    refine lstep rfl rfl rfl (run_boxN (.tmp rfl)) ?_
    intro b3 _
    refine lstep rfl rfl rfl (run_alloc zr28) ?_
    intro b6 _
    refine lnil ?_
    refine xw_then ?_
    refine cw_seq ?_
    refine cw_seq ?_
    refine cw_region ?_
    refine lstepB rfl rfl rfl (run_move (.tmp rfl)) ?_
    refine lnil ?_
    refine xw_then ?_
    refine cw_cond_false (.tmp rfl) ?_
    refine cw_skip ?_
    refine xw_then ?_
    refine cw_seq ?_
    refine cw_region ?_
    refine lstepB rfl rfl rfl (run_fieldAddr (.tmp rfl) fa28_0 (by first | exact Nat.zero_add _ | exact rfl)) ?_
    refine lstepB rfl rfl rfl (run_load1 (.tmp rfl) kd3 (by repeat (first | exact List.Mem.head _ | apply List.Mem.tail)) (by exact rfl)) ?_
    refine lstepB rfl rfl rfl (run_move (.tmp rfl)) ?_
    refine lstepB rfl rfl rfl (En.run_min2 (.tmp rfl) (.tmp rfl)) ?_
    refine lstepB rfl rfl rfl (run_fieldAddr (.tmp rfl) fa28_1 (by first | exact Nat.zero_add _ | exact rfl)) ?_
    refine lstepB rfl rfl rfl (run_load1 (.tmp rfl) kd3 (by repeat (first | exact List.Mem.head _ | apply List.Mem.tail)) (by exact rfl)) ?_
    refine lstepB rfl rfl rfl (run_move (.tmp rfl)) ?_
    refine lstepB rfl rfl rfl (En.run_max2 (.tmp rfl) (.tmp rfl)) ?_
    refine lstepB rfl rfl rfl (run_build_at (.cons (.tmp rfl) (.cons (.tmp rfl) .nil)) (fun w => bd28_0_1 w)) ?_
    refine lstep0 rfl rfl (run_storeN (.tmp rfl) (.tmp rfl) rfl sz28 rfl (by repeat (first | exact Upd.here | apply Upd.there)) (by repeat (first | exact Put.done | apply Put.put | apply Put.skip))) ?_
    refine lnil ?_
    refine xw_then ?_
    refine cw_ret ?_
    exact xw_retC1 rfl rfl kd28 sz28 (by repeat (first | exact List.Mem.head _ | apply List.Mem.tail)) (by repeat (first | exact Sub.done | apply Sub.take | apply Sub.skip)) (fun w hS => ⟨rfl, hS.kept⟩)
  ·
    refine .mk <| enter (n := 20) Try.func47 rfl rfl rfl (by repeat (first | exact Fill.nil | apply Fill.cons)) ?_
    refine cw_seq ?_
    refine cw_region ?_
    refine lstep rfl rfl rfl (run_boxN (.tmp rfl)) ?_
    intro b3 _
    refine lstep rfl rfl rfl (run_alloc zr28) ?_
    intro b6 _
    refine lnil ?_
    refine xw_then ?_
    refine cw_seq ?_
    refine cw_seq ?_
    refine cw_region ?_
    refine lstepB rfl rfl rfl (run_move (.tmp rfl)) ?_
    refine lnil ?_
    refine xw_then ?_
    refine cw_cond_true (.tmp rfl) ?_
    refine cw_seq ?_
    refine cw_region ?_
    refine lstepB rfl rfl rfl (run_move (.tmp rfl)) ?_
    refine lstepB rfl rfl rfl (run_move (.tmp rfl)) ?_
    refine lstepB rfl rfl rfl (run_build_at (.cons (.tmp rfl) (.cons (.tmp rfl) .nil)) (fun w => bd28_0_1 w)) ?_
    refine lstep0 rfl rfl (run_storeN (.tmp rfl) (.tmp rfl) rfl sz28 rfl (by repeat (first | exact Upd.here | apply Upd.there)) (by repeat (first | exact Put.done | apply Put.put | apply Put.skip))) ?_
    refine lnil ?_
    refine xw_then ?_
    refine cw_ret ?_
    refine xw_then_ret ?_
    exact xw_retC1 rfl rfl kd28 sz28 (by repeat (first | exact List.Mem.head _ | apply List.Mem.tail)) (by repeat (first | exact Sub.done | apply Sub.take | apply Sub.skip)) (fun w hS => ⟨rfl, hS.kept⟩)
set_option maxRecDepth 100000 in
set_option maxHeartbeats 4000000 in
theorem refBendK (f : FurrowD) (oa wa da : Option Addr) (oc wc dc : Nat) (hwv : validB f = true → (∀ s ∈ f.offs, s.hi - s.lo ≤ 3) ∧ f.offs.length ≤ 6) (w : World) (hm : Lens f) (hf : FurrowAt w f oa wa da) : Gives Try.prog 15 [furrowV f oa wa da oc wc dc] w (.tuple #[spanV (bendR f).1, .int .i64 (bendR f).2]) := by
  unfold bendR
  cases hv : validB f
  ·
    refine .mk <| enter (n := 30) Try.func15 rfl rfl rfl (by repeat (first | exact Fill.nil | apply Fill.cons)) ?_
    refine cw_seq ?_
    refine cw_region ?_
    refine lstep rfl rfl rfl (run_boxN (.tmp rfl)) ?_
    intro b1 _
    refine lstep rfl rfl rfl (run_alloc zr28) ?_
    intro b2 _
    refine lstepB rfl rfl rfl (run_assign .const) ?_
    refine lnil ?_
    refine xw_then ?_
    refine cw_seq ?_
    refine cw_seq ?_
    refine cw_region ?_
    refine lstepB rfl rfl rfl (run_loadN (.tmp rfl) kd24 sz24 (by repeat (first | exact List.Mem.head _ | apply List.Mem.tail)) (by repeat (first | exact Sub.done | apply Sub.take | apply Sub.skip))) ?_
    refine lstepB rfl rfl rfl (run_call1 cb35 (.cons (.tmp rfl) .nil) (fun w2 hS => (rFurrowK f oa wa da oc wc dc w2 hm (hf.kept hS.kept)).as (congrArg Value.bool hv))) ?_
    refine lstepB rfl rfl rfl (run_not (.tmp rfl) (by first | exact Bool.not_true | exact Bool.not_false | exact rfl)) ?_
    refine lnil ?_
    refine xw_then ?_
    refine cw_cond_true (.tmp rfl) ?_
    refine cw_seq ?_
    refine cw_region ?_
    refine lstepB rfl rfl rfl (run_build_at .nil (fun w => bd28_ w)) ?_
    refine lstep0 rfl rfl (run_storeN (.tmp rfl) (.tmp rfl) rfl sz28 rfl (by repeat (first | exact Upd.here | apply Upd.there)) (by repeat (first | exact Put.done | apply Put.put | apply Put.skip))) ?_
    refine lstepB rfl rfl rfl (run_assign .const) ?_
    refine lnil ?_
    refine xw_then ?_
    refine cw_ret ?_
    refine xw_then_ret ?_
    exact xw_retC2 rfl rfl rfl kd28 sz28 (by repeat (first | exact List.Mem.head _ | apply List.Mem.tail)) (by repeat (first | exact Sub.done | apply Sub.take | apply Sub.skip)) (fun w hS => ⟨rfl, hS.kept⟩)
  ·
    have hvf := validF hv
    obtain ⟨hw3, h6⟩ := hwv hv
    obtain ⟨z1, z2, z3⟩ := bendT_spec hvf.fine
    have heq : hullN (fun i => mostT ((lsF f).getD i [])) (lsF f).length = bendT f.offs := hull_eq (g := mostT) (allF_some hvf.fine f.offs.length [] (by simp)) (fun t ht => z1 t (mem_all.1 ht)) (by obtain ⟨t, h1, h2⟩ := z2; exact ⟨t, mem_all.2 h1, h2⟩) (by obtain ⟨t, h1, h2⟩ := z3; exact ⟨t, mem_all.2 h1, h2⟩)
    have hfine := hvf.fine
    have hpos := allF_some hfine f.offs.length [] (by simp)
    refine .mk <| enter (n := 30) Try.func15 rfl rfl rfl (by repeat (first | exact Fill.nil | apply Fill.cons)) ?_
    refine cw_seq ?_
    refine cw_region ?_
    refine lstep rfl rfl rfl (run_boxN (.tmp rfl)) ?_
    intro b1 _
    refine lstep rfl rfl rfl (run_alloc zr28) ?_
    intro b2 _
    refine lstepB rfl rfl rfl (run_assign .const) ?_
    refine lnil ?_
    refine xw_then ?_
    refine cw_seq ?_
    refine cw_seq ?_
    refine cw_region ?_
    refine lstepB rfl rfl rfl (run_loadN (.tmp rfl) kd24 sz24 (by repeat (first | exact List.Mem.head _ | apply List.Mem.tail)) (by repeat (first | exact Sub.done | apply Sub.take | apply Sub.skip))) ?_
    refine lstepB rfl rfl rfl (run_call1 cb35 (.cons (.tmp rfl) .nil) (fun w2 hS => (rFurrowK f oa wa da oc wc dc w2 hm (hf.kept hS.kept)).as (congrArg Value.bool hv))) ?_
    refine lstepB rfl rfl rfl (run_not (.tmp rfl) (by first | exact Bool.not_true | exact Bool.not_false | exact rfl)) ?_
    refine lnil ?_
    refine xw_then ?_
    refine cw_cond_false (.tmp rfl) ?_
    refine cw_skip ?_
    refine xw_then ?_
    refine cw_seq ?_
    refine cw_region ?_
    refine lstepB rfl rfl rfl (run_loadN (.tmp rfl) kd24 sz24 (by repeat (first | exact List.Mem.head _ | apply List.Mem.tail)) (by repeat (first | exact Sub.done | apply Sub.take | apply Sub.skip))) ?_
    refine lcallN rfl cb46 (.cons (.tmp rfl) .nil) (F := fun (g : Nat × Nat × List Value) lo w' => AllAt lo w' g (lsF f)) (rv := fun g => outV (some g) (lsF f).length) (fun w2 hS => allWaysK f oa wa da oc wc dc hvf hw3 h6 w2 hm (hf.kept hS.kept)) ?_
    rintro g lo w1 hA hlo hs0 hs1 hS0
    dsimp only [outV]
    have hllen := lsF_len hw3 h6
    refine lstepB rfl rfl rfl (run_assign (.tmp rfl)) ?_
    refine lnil ?_
    refine xw_then ?_
    refine cw_seq ?_
    refine cw_region ?_
    refine lstepB rfl rfl rfl (run_build_at .nil (fun w => bd28_ w)) ?_
    refine lstep rfl rfl rfl (run_alloc zr28) ?_
    intro b5 _
    refine lstep0 rfl rfl (run_storeN (.tmp rfl) (.tmp rfl) rfl sz28 rfl (by repeat (first | exact Upd.here | apply Upd.there)) (by repeat (first | exact Put.done | apply Put.put | apply Put.skip))) ?_
    refine lnil ?_
    refine xw_then ?_
    refine cw_seq ?_
    refine cw_seq ?_
    refine cw_region ?_
    refine lstepB rfl rfl rfl (run_assign .const) ?_
    refine lnil ?_
    refine xw_then ?_
    refine cw_block ?_
    refine cw_loop (S := Nat) (fun i => [(6, .int .i64 (i : Int))]) [(1, _), (2, _), (4, _), (5, _)] (fun i => (b5, Obj.cells (spanC (hullN (fun i => mostT ((lsF f).getD i [])) i)).toArray 28 (0, 0)) :: (b2, _) :: (b1, Obj.cells (furrowC f oa wa da oc wc dc).toArray 24 (0, 0)) :: []) (fun i => i ≤ (lsF f).length) (fun i => (lsF f).length - i) 0 (Nat.zero_le _) (by repeat (first | exact Less.nil | refine Less.cons rfl ?_)) (by repeat (first | exact Pick.nil | (apply Pick.cons; focus (repeat (first | exact Del.here | apply Del.there))))) ?_
    intro i hi
    refine cw_seq ?_
    refine cw_seq ?_
    refine cw_region ?_
    refine lstepB rfl rfl rfl (run_move (.tmp rfl)) ?_
    refine lstepB rfl rfl rfl (run_move (.tmp rfl)) ?_
    refine lstepB rfl rfl rfl (run_len (.tmp rfl) sl73) ?_
    refine lstepB rfl rfl rfl (run_lss (.tmp rfl) (.tmp rfl) rfl) ?_
    refine lnil ?_
    refine xw_then ?_
    refine cw_cond_p (.tmp rfl) (fun hl => ?_) (fun hl => ?_)
    ·
      have hil : i < (lsF f).length := by omega
      obtain ⟨t, ht⟩ : ∃ t, t = (lsF f).getD i [] := ⟨_, rfl⟩
      have hti : (lsF f)[i]? = some t := by rw [ht, List.getD_eq_getElem?_getD, List.getElem?_eq_getElem hil]; rfl
      have htI := lsF_inn hti
      have hsm := inn_small hvf htI
      have htl := htI.1
      obtain ⟨a, c, hcell, hints, hlow⟩ := hA.at_ i t hti
      have hcap := hA.cap
      refine cw_skip ?_
      refine xw_then ?_
      refine cw_seq ?_
      refine cw_block ?_
      refine cw_chain2 (σ := [0, 1, 2, 3, 4, 5, 6, 7, 8, 9]) [⟨0, [0], [], [], 0⟩, ⟨0, [], [], [], 0⟩, ⟨0, [], [], [], 0⟩, ⟨0, [], [], [], 6⟩, ⟨0, [], [], [], 14⟩, ⟨0, [], [], [], 30⟩, ⟨0, [], [], [], 0⟩, ⟨0, [], [], [], 64⟩, ⟨0, [], [], [], 255⟩, ⟨0, [], [0], [0], 511⟩] [(0, _), (1, _), (2, _)] (by kernel_rfl) (by kernel_rfl) rfl ?_
      refine .det (B := []) rfl rfl (.inl rfl) (.cons rfl .nil) .nil rfl (RunB.lr (run_loadN (.tmp rfl) kd28 sz28 (by repeat (first | exact List.Mem.head _ | apply List.Mem.tail)) (by repeat (first | exact Sub.done | apply Sub.take | apply Sub.skip)))) ?_
      refine .det (B := []) rfl rfl (.inl rfl) .nil .nil rfl (RunB.lr (run_move (.tmp rfl))) ?_
      refine .det (B := []) rfl rfl (.inl rfl) .nil .nil rfl (RunB.lr (run_move (.tmp rfl))) ?_
      refine .det (B := []) rfl rfl (.inl rfl) .nil .nil rfl (RunB.lr (run_indexAddr (i := i) (off' := i) (.tmp rfl) (.tmp rfl) el73 (by omega) (by rw [Nat.mul_one, Nat.zero_add]))) ?_
      refine .det (B := []) rfl rfl (.inl rfl) .nil .nil rfl (RunB.lr (run_load1_at (v := .slice a t.length c) (.tmp rfl) kd33 (fun w' hS => hS.old_cell (low_not hlo hA.low) hcell))) ?_
      refine .det (B := []) rfl rfl (.inl rfl) .nil .nil rfl (RunB.lr (run_call1 cb32 (.cons (.tmp rfl) .nil) (fun w2 hS => rmostK t (by omega) hsm a c w2 (AllAt.ints hints hlow hlo hS)))) ?_
      refine .det (B := []) rfl rfl (.inl rfl) .nil .nil rfl (RunB.lr (run_move (.tmp rfl))) ?_
      refine .det (B := []) rfl rfl (.inl rfl) .nil .nil rfl (RunB.lr (run_eql (.tmp rfl) .const rfl)) ?_
      refine .det (B := []) rfl rfl (.inl rfl) .nil .nil rfl (RunB.lr (run_call1 cb47 (.cons (.tmp rfl) (.cons (.tmp rfl) (.cons (.tmp rfl) .nil))) (fun w2 _ => hullK _ _ _ w2))) ?_
      refine .det (B := [(0, (_, _))]) rfl rfl (.inl rfl) .nil (.cons rfl .nil) rfl (lr_storeN (.tmp rfl) (.tmp rfl) rfl sz28 rfl (by repeat (first | exact Put.done | apply Put.put | apply Put.skip))) ?_
      refine chain_nil (ts := [0, 1, 2]) (.cons rfl (.cons rfl (.cons rfl .nil))) (by decide) ?_
      refine xw_in ?_
      refine xw_then ?_
      refine cw_region ?_
      refine lstepB rfl rfl rfl (run_move (.tmp rfl)) ?_
      refine lstepB rfl rfl rfl (run_add (.tmp rfl) .const (by first | exact IntWalk.i64_in _ (by omega) | exact rfl)) ?_
      refine lstepB rfl rfl rfl (run_assign (.tmp rfl)) ?_
      refine lnil ?_
      have hcellE : hullS (hullN (fun i => mostT ((lsF f).getD i [])) i) (mostT t) (decide (((i : Nat) : Int) = 0)) = hullN (fun i => mostT ((lsF f).getD i [])) (i + 1) := by rw [ht]; rfl
      rw [hcellE]
      exact xw_round (i + 1) (by show i + 1 ≤ _; omega) (by show (lsF f).length - (i + 1) < (lsF f).length - i; omega) (by repeat (first | exact Less.nil | refine Less.cons rfl ?_)) (by repeat (first | exact Pick.nil | (apply Pick.cons; focus (repeat (first | exact Del.here | apply Del.there)))))
    ·
      obtain rfl : i = (lsF f).length := by omega
      have hE : hullN (fun i => mostT ((lsF f).getD i [])) (lsF f).length = bendT f.offs := heq
      rw [hE]
      refine cw_exit ?_
      refine xw_then_exit ?_
      refine xw_then_exit ?_
      refine xw_in_exit ?_
      refine xw_then ?_
      refine cw_seq ?_
      refine cw_region ?_
      refine lstepB rfl rfl rfl (run_loadN (.tmp rfl) kd28 sz28 (by repeat (first | exact List.Mem.head _ | apply List.Mem.tail)) (by repeat (first | exact Sub.done | apply Sub.take | apply Sub.skip))) ?_
      refine lstep0 rfl rfl (run_storeN (.tmp rfl) (.tmp rfl) rfl sz28 rfl (by repeat (first | exact Upd.here | apply Upd.there)) (by repeat (first | exact Put.done | apply Put.put | apply Put.skip))) ?_
      refine lstepB rfl rfl rfl (run_assign .const) ?_
      refine lnil ?_
      refine xw_then ?_
      refine cw_ret ?_
      exact xw_retC2 rfl rfl rfl kd28 sz28 (by repeat (first | exact List.Mem.head _ | apply List.Mem.tail)) (by repeat (first | exact Sub.done | apply Sub.take | apply Sub.skip)) (fun w hS => ⟨rfl, below_blk hS0 hS⟩)
set_option maxRecDepth 100000 in
set_option maxHeartbeats 4000000 in
theorem refAtK (f : FurrowD) (oa wa da : Option Addr) (oc wc dc : Nat) (st : Int) (hwv : validB f = true → (∀ s ∈ f.offs, s.hi - s.lo ≤ 3) ∧ f.offs.length ≤ 6) (w : World) (hm : Lens f) (hf : FurrowAt w f oa wa da) : Gives Try.prog 17 [furrowV f oa wa da oc wc dc, .int .i64 st] w (.tuple #[spanV (atR f st).1, .int .i64 (atR f st).2]) := by
  unfold atR
  cases hv : validB f
  ·
    refine .mk <| enter (n := 38) Try.func17 rfl rfl rfl (by repeat (first | exact Fill.nil | apply Fill.cons)) ?_
    refine cw_seq ?_
    refine cw_region ?_
    refine lstep rfl rfl rfl (run_boxN (.tmp rfl)) ?_
    intro b2 _
    refine lstep rfl rfl rfl (run_alloc zr28) ?_
    intro b4 _
    refine lstepB rfl rfl rfl (run_assign .const) ?_
    refine lnil ?_
    refine xw_then ?_
    refine cw_seq ?_
    refine cw_seq ?_
    refine cw_region ?_
    refine lstepB rfl rfl rfl (run_loadN (.tmp rfl) kd24 sz24 (by repeat (first | exact List.Mem.head _ | apply List.Mem.tail)) (by repeat (first | exact Sub.done | apply Sub.take | apply Sub.skip))) ?_
    refine lstepB rfl rfl rfl (run_call1 cb35 (.cons (.tmp rfl) .nil) (fun w2 hS => (rFurrowK f oa wa da oc wc dc w2 hm (hf.kept hS.kept)).as (congrArg Value.bool hv))) ?_
    refine lstepB rfl rfl rfl (run_not (.tmp rfl) (by first | exact Bool.not_true | exact Bool.not_false | exact rfl)) ?_
    refine lnil ?_
    refine xw_then ?_
    refine cw_cond_true (.tmp rfl) ?_
    refine cw_seq ?_
    refine cw_region ?_
    refine lstepB rfl rfl rfl (run_build_at .nil (fun w => bd28_ w)) ?_
    refine lstep0 rfl rfl (run_storeN (.tmp rfl) (.tmp rfl) rfl sz28 rfl (by repeat (first | exact Upd.here | apply Upd.there)) (by repeat (first | exact Put.done | apply Put.put | apply Put.skip))) ?_
    refine lstepB rfl rfl rfl (run_assign .const) ?_
    refine lnil ?_
    refine xw_then ?_
    refine cw_ret ?_
    refine xw_then_ret ?_
    exact xw_retC2 rfl rfl rfl kd28 sz28 (by repeat (first | exact List.Mem.head _ | apply List.Mem.tail)) (by repeat (first | exact Sub.done | apply Sub.take | apply Sub.skip)) (fun w hS => ⟨rfl, hS.kept⟩)
  ·
    have hvf := validF hv
    obtain ⟨hw3, h6⟩ := hwv hv
    cases hiB : innerB f.offs.length st
    ·
      refine .mk <| enter (n := 38) Try.func17 rfl rfl rfl (by repeat (first | exact Fill.nil | apply Fill.cons)) ?_
      refine cw_seq ?_
      refine cw_region ?_
      refine lstep rfl rfl rfl (run_boxN (.tmp rfl)) ?_
      intro b2 _
      refine lstep rfl rfl rfl (run_alloc zr28) ?_
      intro b4 _
      refine lstepB rfl rfl rfl (run_assign .const) ?_
      refine lnil ?_
      refine xw_then ?_
      refine cw_seq ?_
      refine cw_seq ?_
      refine cw_region ?_
      refine lstepB rfl rfl rfl (run_loadN (.tmp rfl) kd24 sz24 (by repeat (first | exact List.Mem.head _ | apply List.Mem.tail)) (by repeat (first | exact Sub.done | apply Sub.take | apply Sub.skip))) ?_
      refine lstepB rfl rfl rfl (run_call1 cb35 (.cons (.tmp rfl) .nil) (fun w2 hS => (rFurrowK f oa wa da oc wc dc w2 hm (hf.kept hS.kept)).as (congrArg Value.bool hv))) ?_
      refine lstepB rfl rfl rfl (run_not (.tmp rfl) (by first | exact Bool.not_true | exact Bool.not_false | exact rfl)) ?_
      refine lnil ?_
      refine xw_then ?_
      refine cw_cond_false (.tmp rfl) ?_
      refine cw_skip ?_
      refine xw_then ?_
      refine cw_seq ?_
      refine cw_seq ?_
      refine cw_region ?_
      refine lstepB rfl rfl rfl (run_loadN (.tmp rfl) kd24 sz24 (by repeat (first | exact List.Mem.head _ | apply List.Mem.tail)) (by repeat (first | exact Sub.done | apply Sub.take | apply Sub.skip))) ?_
      refine lstepB rfl rfl rfl (run_move (.tmp rfl)) ?_
      refine lstepB rfl rfl rfl (run_call1 cb51 (.cons (.tmp rfl) (.cons (.tmp rfl) .nil)) (fun w2 hS => (rinnerK f oa wa da oc wc dc st w2 hm (hf.kept hS.kept)).as (congrArg Value.bool hiB))) ?_
      refine lstepB rfl rfl rfl (run_not (.tmp rfl) (by first | exact Bool.not_true | exact Bool.not_false | exact rfl)) ?_
      refine lnil ?_
      refine xw_then ?_
      refine cw_cond_true (.tmp rfl) ?_
      refine cw_seq ?_
      refine cw_region ?_
      refine lstepB rfl rfl rfl (run_build_at .nil (fun w => bd28_ w)) ?_
      refine lstep0 rfl rfl (run_storeN (.tmp rfl) (.tmp rfl) rfl sz28 rfl (by repeat (first | exact Upd.here | apply Upd.there)) (by repeat (first | exact Put.done | apply Put.put | apply Put.skip))) ?_
      refine lstepB rfl rfl rfl (run_assign .const) ?_
      refine lnil ?_
      refine xw_then ?_
      refine cw_ret ?_
      refine xw_then_ret ?_
      exact xw_retC2 rfl rfl rfl kd28 sz28 (by repeat (first | exact List.Mem.head _ | apply List.Mem.tail)) (by repeat (first | exact Sub.done | apply Sub.take | apply Sub.skip)) (fun w hS => ⟨rfl, hS.kept⟩)
    ·
      have hiB2 := hiB
      simp only [innerB, Bool.and_eq_true, decide_eq_true_eq] at hiB2
      obtain ⟨k, rfl⟩ : ∃ k : Nat, st = (k : Int) := ⟨st.toNat, by omega⟩
      have hI : Inner f.offs k := ⟨by omega, by omega⟩
      have heq : hullN (fun i => (fun t => bentT t k) ((lsF f).getD i [])) (lsF f).length = bendS f.offs k := hull_eq (g := fun t => bentT t k) (allF_some hvf.fine f.offs.length [] (by simp)) (fun t ht => bendS_at hvf.fine hI (mem_all.1 ht)) (by obtain ⟨t, h1, h2⟩ := bendS_lo hvf.fine hI; exact ⟨t, mem_all.2 h1, h2⟩) (by obtain ⟨t, h1, h2⟩ := bendS_hi hvf.fine hI; exact ⟨t, mem_all.2 h1, h2⟩)
      have hfine := hvf.fine
      have hpos := allF_some hfine f.offs.length [] (by simp)
      refine .mk <| enter (n := 38) Try.func17 rfl rfl rfl (by repeat (first | exact Fill.nil | apply Fill.cons)) ?_
      refine cw_seq ?_
      refine cw_region ?_
      refine lstep rfl rfl rfl (run_boxN (.tmp rfl)) ?_
      intro b2 _
      refine lstep rfl rfl rfl (run_alloc zr28) ?_
      intro b4 _
      refine lstepB rfl rfl rfl (run_assign .const) ?_
      refine lnil ?_
      refine xw_then ?_
      refine cw_seq ?_
      refine cw_seq ?_
      refine cw_region ?_
      refine lstepB rfl rfl rfl (run_loadN (.tmp rfl) kd24 sz24 (by repeat (first | exact List.Mem.head _ | apply List.Mem.tail)) (by repeat (first | exact Sub.done | apply Sub.take | apply Sub.skip))) ?_
      refine lstepB rfl rfl rfl (run_call1 cb35 (.cons (.tmp rfl) .nil) (fun w2 hS => (rFurrowK f oa wa da oc wc dc w2 hm (hf.kept hS.kept)).as (congrArg Value.bool hv))) ?_
      refine lstepB rfl rfl rfl (run_not (.tmp rfl) (by first | exact Bool.not_true | exact Bool.not_false | exact rfl)) ?_
      refine lnil ?_
      refine xw_then ?_
      refine cw_cond_false (.tmp rfl) ?_
      refine cw_skip ?_
      refine xw_then ?_
      refine cw_seq ?_
      refine cw_seq ?_
      refine cw_region ?_
      refine lstepB rfl rfl rfl (run_loadN (.tmp rfl) kd24 sz24 (by repeat (first | exact List.Mem.head _ | apply List.Mem.tail)) (by repeat (first | exact Sub.done | apply Sub.take | apply Sub.skip))) ?_
      refine lstepB rfl rfl rfl (run_move (.tmp rfl)) ?_
      refine lstepB rfl rfl rfl (run_call1 cb51 (.cons (.tmp rfl) (.cons (.tmp rfl) .nil)) (fun w2 hS => (rinnerK f oa wa da oc wc dc ((k : Nat) : Int) w2 hm (hf.kept hS.kept)).as (congrArg Value.bool hiB))) ?_
      refine lstepB rfl rfl rfl (run_not (.tmp rfl) (by first | exact Bool.not_true | exact Bool.not_false | exact rfl)) ?_
      refine lnil ?_
      refine xw_then ?_
      refine cw_cond_false (.tmp rfl) ?_
      refine cw_skip ?_
      refine xw_then ?_
      refine cw_seq ?_
      refine cw_region ?_
      refine lstepB rfl rfl rfl (run_loadN (.tmp rfl) kd24 sz24 (by repeat (first | exact List.Mem.head _ | apply List.Mem.tail)) (by repeat (first | exact Sub.done | apply Sub.take | apply Sub.skip))) ?_
      refine lcallN rfl cb46 (.cons (.tmp rfl) .nil) (F := fun (g : Nat × Nat × List Value) lo w' => AllAt lo w' g (lsF f)) (rv := fun g => outV (some g) (lsF f).length) (fun w2 hS => allWaysK f oa wa da oc wc dc hvf hw3 h6 w2 hm (hf.kept hS.kept)) ?_
      rintro g lo w1 hA hlo hs0 hs1 hS0
      dsimp only [outV]
      have hllen := lsF_len hw3 h6
      refine lstepB rfl rfl rfl (run_assign (.tmp rfl)) ?_
      refine lnil ?_
      refine xw_then ?_
      refine cw_seq ?_
      refine cw_region ?_
      refine lstepB rfl rfl rfl (run_build_at .nil (fun w => bd28_ w)) ?_
      refine lstep rfl rfl rfl (run_alloc zr28) ?_
      intro b7 _
      refine lstep0 rfl rfl (run_storeN (.tmp rfl) (.tmp rfl) rfl sz28 rfl (by repeat (first | exact Upd.here | apply Upd.there)) (by repeat (first | exact Put.done | apply Put.put | apply Put.skip))) ?_
      refine lnil ?_
      refine xw_then ?_
      refine cw_seq ?_
      refine cw_seq ?_
      refine cw_region ?_
      refine lstepB rfl rfl rfl (run_assign .const) ?_
      refine lnil ?_
      refine xw_then ?_
      refine cw_block ?_
      refine cw_loop (S := Nat) (fun i => [(8, .int .i64 (i : Int))]) [(1, _), (2, _), (4, _), (6, _), (7, _)] (fun i => (b7, Obj.cells (spanC (hullN (fun i => (fun t => bentT t k) ((lsF f).getD i [])) i)).toArray 28 (0, 0)) :: (b4, _) :: (b2, Obj.cells (furrowC f oa wa da oc wc dc).toArray 24 (0, 0)) :: []) (fun i => i ≤ (lsF f).length) (fun i => (lsF f).length - i) 0 (Nat.zero_le _) (by repeat (first | exact Less.nil | refine Less.cons rfl ?_)) (by repeat (first | exact Pick.nil | (apply Pick.cons; focus (repeat (first | exact Del.here | apply Del.there))))) ?_
      intro i hi
      refine cw_seq ?_
      refine cw_seq ?_
      refine cw_region ?_
      refine lstepB rfl rfl rfl (run_move (.tmp rfl)) ?_
      refine lstepB rfl rfl rfl (run_move (.tmp rfl)) ?_
      refine lstepB rfl rfl rfl (run_len (.tmp rfl) sl73) ?_
      refine lstepB rfl rfl rfl (run_lss (.tmp rfl) (.tmp rfl) rfl) ?_
      refine lnil ?_
      refine xw_then ?_
      refine cw_cond_p (.tmp rfl) (fun hl => ?_) (fun hl => ?_)
      ·
        have hil : i < (lsF f).length := by omega
        obtain ⟨t, ht⟩ : ∃ t, t = (lsF f).getD i [] := ⟨_, rfl⟩
        have hti : (lsF f)[i]? = some t := by rw [ht, List.getD_eq_getElem?_getD, List.getElem?_eq_getElem hil]; rfl
        have htI := lsF_inn hti
        have hsm := inn_small hvf htI
        have htl := htI.1
        obtain ⟨a, c, hcell, hints, hlow⟩ := hA.at_ i t hti
        have hcap := hA.cap
        refine cw_skip ?_
        refine xw_then ?_
        refine cw_seq ?_
        refine cw_block ?_
        refine cw_chain2 (σ := [0, 1, 2, 3, 4, 5, 6, 7, 8, 9, 10]) [⟨0, [0], [], [], 0⟩, ⟨0, [], [], [], 0⟩, ⟨0, [], [], [], 0⟩, ⟨0, [], [], [], 6⟩, ⟨0, [], [], [], 14⟩, ⟨0, [], [], [], 0⟩, ⟨0, [], [], [], 62⟩, ⟨0, [], [], [], 0⟩, ⟨0, [], [], [], 128⟩, ⟨0, [], [], [], 511⟩, ⟨0, [], [0], [0], 1023⟩] [(0, _), (1, _), (2, _)] (by kernel_rfl) (by kernel_rfl) rfl ?_
        refine .det (B := []) rfl rfl (.inl rfl) (.cons rfl .nil) .nil rfl (RunB.lr (run_loadN (.tmp rfl) kd28 sz28 (by repeat (first | exact List.Mem.head _ | apply List.Mem.tail)) (by repeat (first | exact Sub.done | apply Sub.take | apply Sub.skip)))) ?_
        refine .det (B := []) rfl rfl (.inl rfl) .nil .nil rfl (RunB.lr (run_move (.tmp rfl))) ?_
        refine .det (B := []) rfl rfl (.inl rfl) .nil .nil rfl (RunB.lr (run_move (.tmp rfl))) ?_
        refine .det (B := []) rfl rfl (.inl rfl) .nil .nil rfl (RunB.lr (run_indexAddr (i := i) (off' := i) (.tmp rfl) (.tmp rfl) el73 (by omega) (by rw [Nat.mul_one, Nat.zero_add]))) ?_
        refine .det (B := []) rfl rfl (.inl rfl) .nil .nil rfl (RunB.lr (run_load1_at (v := .slice a t.length c) (.tmp rfl) kd33 (fun w' hS => hS.old_cell (low_not hlo hA.low) hcell))) ?_
        refine .det (B := []) rfl rfl (.inl rfl) .nil .nil rfl (RunB.lr (run_move (.tmp rfl))) ?_
        refine .det (B := []) rfl rfl (.inl rfl) .nil .nil rfl (RunB.lr (run_call1 cb52 (.cons (.tmp rfl) (.cons (.tmp rfl) .nil)) (fun w2 hS => rbendK t k hI.1 (by rw [htl]; exact hI.2) (by omega) hsm a c w2 (AllAt.ints hints hlow hlo hS)))) ?_
        refine .det (B := []) rfl rfl (.inl rfl) .nil .nil rfl (RunB.lr (run_move (.tmp rfl))) ?_
        refine .det (B := []) rfl rfl (.inl rfl) .nil .nil rfl (RunB.lr (run_eql (.tmp rfl) .const rfl)) ?_
        refine .det (B := []) rfl rfl (.inl rfl) .nil .nil rfl (RunB.lr (run_call1 cb47 (.cons (.tmp rfl) (.cons (.tmp rfl) (.cons (.tmp rfl) .nil))) (fun w2 _ => hullK _ _ _ w2))) ?_
        refine .det (B := [(0, (_, _))]) rfl rfl (.inl rfl) .nil (.cons rfl .nil) rfl (lr_storeN (.tmp rfl) (.tmp rfl) rfl sz28 rfl (by repeat (first | exact Put.done | apply Put.put | apply Put.skip))) ?_
        refine chain_nil (ts := [0, 1, 2]) (.cons rfl (.cons rfl (.cons rfl .nil))) (by decide) ?_
        refine xw_in ?_
        refine xw_then ?_
        refine cw_region ?_
        refine lstepB rfl rfl rfl (run_move (.tmp rfl)) ?_
        refine lstepB rfl rfl rfl (run_add (.tmp rfl) .const (by first | exact IntWalk.i64_in _ (by omega) | exact rfl)) ?_
        refine lstepB rfl rfl rfl (run_assign (.tmp rfl)) ?_
        refine lnil ?_
        have hcellE : hullS (hullN (fun i => (fun t => bentT t k) ((lsF f).getD i [])) i) ((fun t => bentT t k) t) (decide (((i : Nat) : Int) = 0)) = hullN (fun i => (fun t => bentT t k) ((lsF f).getD i [])) (i + 1) := by rw [ht]; rfl
        dsimp only at hcellE
        rw [hcellE]
        exact xw_round (i + 1) (by show i + 1 ≤ _; omega) (by show (lsF f).length - (i + 1) < (lsF f).length - i; omega) (by repeat (first | exact Less.nil | refine Less.cons rfl ?_)) (by repeat (first | exact Pick.nil | (apply Pick.cons; focus (repeat (first | exact Del.here | apply Del.there)))))
      ·
        obtain rfl : i = (lsF f).length := by omega
        have hE : hullN (fun i => (fun t => bentT t k) ((lsF f).getD i [])) (lsF f).length = bendS f.offs k := heq
        rw [hE]
        refine cw_exit ?_
        refine xw_then_exit ?_
        refine xw_then_exit ?_
        refine xw_in_exit ?_
        refine xw_then ?_
        refine cw_seq ?_
        refine cw_region ?_
        refine lstepB rfl rfl rfl (run_loadN (.tmp rfl) kd28 sz28 (by repeat (first | exact List.Mem.head _ | apply List.Mem.tail)) (by repeat (first | exact Sub.done | apply Sub.take | apply Sub.skip))) ?_
        refine lstep0 rfl rfl (run_storeN (.tmp rfl) (.tmp rfl) rfl sz28 rfl (by repeat (first | exact Upd.here | apply Upd.there)) (by repeat (first | exact Put.done | apply Put.put | apply Put.skip))) ?_
        refine lstepB rfl rfl rfl (run_assign .const) ?_
        refine lnil ?_
        refine xw_then ?_
        refine cw_ret ?_
        exact xw_retC2 rfl rfl rfl kd28 sz28 (by repeat (first | exact List.Mem.head _ | apply List.Mem.tail)) (by repeat (first | exact Sub.done | apply Sub.take | apply Sub.skip)) (fun w hS => ⟨rfl, below_blk hS0 hS⟩)
end Go.Proofs.Ytjdeplehhmhpcaa
