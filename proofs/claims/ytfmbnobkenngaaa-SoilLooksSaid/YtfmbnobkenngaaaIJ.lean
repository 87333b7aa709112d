/- Soil: the document's own Dig and Odd. -/
import Derived.Test.YtfmbnobkenngaaaIH
namespace Go.Proofs.Ytfmbnobkenngaaa
open Go.RowKit En
theorem bs22_1_0 {x0_0 : Int} {x0_1 : Int} {x0_2 : Int} {x0_3 : Int} {x0_4 : Int} {x0_5 : Int} {x0_6 : Int} {x0_7 : Int} {x0_8 : Int} (w : World) : (Instr.buildSlice 22 1 [(0, .agg #[.int .i64 x0_0, .int .i64 x0_1, .int .i64 x0_2, .int .i64 x0_3, .int .i64 x0_4, .int .i64 x0_5, .int .i64 x0_6, .int .i64 x0_7, .int .i64 x0_8])].toArray).run Try.prog w = .ok (.slice (some ⟨w.heap.size, 0, none⟩) 1 1) (w.alloc (Obj.cells [.int .i64 x0_0, .int .i64 x0_1, .int .i64 x0_2, .int .i64 x0_3, .int .i64 x0_4, .int .i64 x0_5, .int .i64 x0_6, .int .i64 x0_7, .int .i64 x0_8].toArray 55 (0, 0))) := by simp [go_sem]
theorem cb22 : callB Try.prog 22 = true := by kernel_rfl
theorem cb24 : callB Try.prog 24 = true := by kernel_rfl
theorem cb26 : callB Try.prog 26 = true := by kernel_rfl
theorem cb72 : callB Try.prog 72 = true := by kernel_rfl
theorem widF_spec {L : List SpanD} (h0 : ∀ s ∈ L, s.lo ≤ s.hi) : ∀ k, k ≤ L.length → (∀ j s, j < k → L[j]? = some s → s.hi - s.lo ≤ (widF L k).2 ∧ (s.hi - s.lo = (widF L k).2 → (widF L k).1 ≤ (j : Int)) ∧ ((j : Int) = (widF L k).1 → s.hi - s.lo = (widF L k).2)) ∧ (0 < k → 0 ≤ (widF L k).1 ∧ (widF L k).1 < (k : Int)) ∧ (k = 0 → (widF L k).2 = -1)
  | 0, _ => ⟨fun j s h => absurd h (Nat.not_lt_zero j), fun h => absurd h (Nat.lt_irrefl 0), fun _ => rfl⟩
  | k + 1, hk => by
    obtain ⟨i1, i2, i3⟩ := widF_spec h0 k (by omega)
    obtain ⟨s, hs⟩ : ∃ s, L[k]? = some s := ⟨_, List.getElem?_eq_getElem (by omega)⟩
    have hs0 := h0 s (List.mem_of_getElem? hs)
    rw [widF_succ hs]
    by_cases hw : (widF L k).2 < s.hi - s.lo
    · rw [if_pos hw]
      refine ⟨fun j t hj ht => ?_, fun _ => ⟨by simp only; omega, by simp only; omega⟩, fun h => absurd h (by omega)⟩
      rcases Nat.lt_succ_iff_lt_or_eq.1 hj with h | rfl
      · obtain ⟨q1, q2, q3⟩ := i1 j t h ht
        dsimp only
        exact ⟨by omega, fun _ => by omega, fun _ => by omega⟩
      · rw [hs] at ht; cases ht
        dsimp only
        exact ⟨Int.le_refl _, fun _ => Int.le_refl _, fun _ => rfl⟩
    · rw [if_neg hw]
      have hk0 : 0 < k := by
        rcases Nat.eq_zero_or_pos k with h | h
        · have := i3 h; omega
        · exact h
      obtain ⟨j1, j2⟩ := i2 hk0
      refine ⟨fun j t hj ht => ?_, fun _ => ⟨j1, by omega⟩, fun h => absurd h (by omega)⟩
      rcases Nat.lt_succ_iff_lt_or_eq.1 hj with h | rfl
      · exact i1 j t h ht
      · rw [hs] at ht; cases ht
        exact ⟨by omega, fun _ => by omega, fun _ => by omega⟩

theorem chk_nil (g : GroundD) : chkN g true = errN (hardE g []) := by
  unfold chkN hardE checkE
  cases validB g
  · rfl
  · cases lookOk g <;> rfl
theorem hardE_nil {g : GroundD} (h : hardE g [] = none) : validB g = true ∧ lookOk g = true := by
  unfold hardE checkE at h
  cases hv : validB g with
  | false => rw [hv] at h; simp at h
  | true =>
    cases hl : lookOk g with
    | true => exact ⟨rfl, rfl⟩
    | false => rw [hv, hl] at h; simp at h
/-- Where the widest is, so far. -/
def digN (L : List SpanD) (k : Nat) : Nat := (widF L k).1.toNat
theorem digN_step {L : List SpanD} (h0 : ∀ s ∈ L, s.lo ≤ s.hi) {k : Nat} {s b : SpanD} (hs : L[k]? = some s) (hb : L[digN L k]? = some b) : digN L (k + 1) = if b.hi - b.lo < s.hi - s.lo then k else digN L k := by
  have hk := (List.getElem?_eq_some_iff.1 hs).1
  obtain ⟨i1, i2, i3⟩ := widF_spec h0 k (by omega)
  have hsw := h0 s (List.mem_of_getElem? hs)
  have e := widF_succ hs
  by_cases c : k = 0
  · subst c
    have hw := i3 rfl
    rw [hw, if_pos (by omega)] at e
    have h1 : digN L (0 + 1) = 0 := by unfold digN; rw [e]; rfl
    have h2 : digN L 0 = 0 := rfl
    rw [h1, h2]; split <;> rfl
  · obtain ⟨j1, j2⟩ := i2 (by omega)
    have hbw := (i1 (digN L k) b (by unfold digN; omega) hb).2.2 (by unfold digN; omega)
    rw [hbw]
    unfold digN
    rw [e]
    split <;> simp
theorem digN_lt {L : List SpanD} (h0 : ∀ s ∈ L, s.lo ≤ s.hi) {k : Nat} (hk : k ≤ L.length) (hl : 0 < L.length) : digN L k < L.length := by
  obtain ⟨i1, i2, i3⟩ := widF_spec h0 k hk
  by_cases c : k = 0
  · subst c; exact hl
  · obtain ⟨j1, j2⟩ := i2 (by omega)
    unfold digN; omega
theorem digN_done {L : List SpanD} (h0 : ∀ s ∈ L, s.lo ≤ s.hi) (hl : 0 < L.length) {b : SpanD} (hb : L[digN L L.length]? = some b) : widF L L.length = (((digN L L.length : Nat) : Int), b.hi - b.lo) := by
  obtain ⟨i1, i2, _⟩ := widF_spec h0 L.length (Nat.le_refl _)
  obtain ⟨j1, j2⟩ := i2 hl
  have hbw := (i1 (digN L L.length) b (by unfold digN; omega) hb).2.2 (by unfold digN; omega)
  refine Prod.ext ?_ hbw.symm
  show (widF L L.length).1 = ((digN L L.length : Nat) : Int)
  unfold digN; omega
set_option maxRecDepth 100000 in
set_option maxHeartbeats 4000000 in
theorem refDigK (g : GroundD) (pa : Option Addr) (pc : Nat) (hgm : g.pits.length ≤ 1000000) (w : World) (hp : PitsAt w pa g.pits) : Gives Try.prog 24 [.agg [.int .i64 g.long, .int .i64 g.rise, .int .i64 g.change, .slice pa g.pits.length pc].toArray] w (.tuple #[.int .i64 (digS g).1, .int .i64 (digS g).2, .int .i64 (errN (hardE g []))]) := by
 have hck := chk_nil g
 cases he : hardE g []
 case none =>
  obtain ⟨hv, hlk⟩ := hardE_nil he
  have vg := VG.of hv
  have hho := lookOk_hard hlk
  have hlong := vg.v.long
  have hS0 : digS g = widF (hardL g) (hardL g).length := by unfold digS; rw [if_pos he]
  rw [he] at hck
  rw [hS0, show errN none = 0 from rfl]
  have hhl := hardL_length g
  have hpl : placesN g = (hardL g).length := by rw [hhl]; rfl
  have h0 : ∀ s ∈ hardL g, s.lo ≤ s.hi := fun s hs => by
   have := List.all_eq_true.1 hho s hs
   simpa using this
  have h1000 := hardL_in1000 vg.v
  refine .mk <| enter (n := 62) Try.func24 rfl rfl rfl (by repeat (first | exact Fill.nil | apply Fill.cons)) ?_
  refine cw_seq ?_
  refine cw_region ?_
  refine lstep rfl rfl rfl (run_boxN (.tmp rfl)) ?_
  intro b1 _
  refine lstepB rfl rfl rfl (run_assign .const) ?_
  refine lstepB rfl rfl rfl (run_assign .const) ?_
  refine lstepB rfl rfl rfl (run_assign .const) ?_
  refine lnil ?_
  refine xw_then ?_
  refine cw_seq ?_
  refine cw_region ?_
  refine lstepB rfl rfl rfl (run_loadN (.tmp rfl) kd24 sz24 (by repeat (first | exact List.Mem.head _ | apply List.Mem.tail)) (by repeat (first | exact Sub.done | apply Sub.take | apply Sub.skip))) ?_
  refine lstepB rfl rfl rfl (run_call1 cb46 (.cons (.tmp rfl) (.cons .const .nil)) (fun w hS => (checkZK g true pa pc hgm w (hp.kept hS.kept)).as (congrArg (Value.int .i64) hck))) ?_
  refine lstepB rfl rfl rfl (run_assign (.tmp rfl)) ?_
  refine lnil ?_
  refine xw_then ?_
  refine cw_seq ?_
  refine cw_seq ?_
  refine cw_region ?_
  refine lstepB rfl rfl rfl (run_move (.tmp rfl)) ?_
  refine lstepB rfl rfl rfl (run_neq (.tmp rfl) .const (by first | exact decide_eq_true (by omega) | exact decide_eq_false (by omega) | exact rfl)) ?_
  refine lnil ?_
  refine xw_then ?_
  refine cw_cond_false (.tmp rfl) ?_
  refine cw_skip ?_
  refine xw_then ?_
  refine cw_seq ?_
  refine cw_region ?_
  refine lstepB rfl rfl rfl (run_loadN (.tmp rfl) kd24 sz24 (by repeat (first | exact List.Mem.head _ | apply List.Mem.tail)) (by repeat (first | exact Sub.done | apply Sub.take | apply Sub.skip))) ?_
  refine lstep rfl rfl rfl (LR.runs (R := []) (A := []) (lr_gives cb48 (.cons (.tmp rfl) .nil) (fun w2 hS => hardsK g pa pc w2 vg (hp.kept hS.kept))) (by repeat (first | exact Pick.nil | (apply Pick.cons; focus (repeat (first | exact Del.here | apply Del.there))))) (by repeat (first | exact Dels.nil | (apply Dels.cons; focus (repeat (first | exact Del.here | apply Del.there)))))) ?_
  intro q hq
  cases q
  case none =>
   dsimp only at hq
   rw [hho] at hq; cases hq
  case some q =>
   obtain ⟨gH, cH, rH⟩ := q
   dsimp only at hq ⊢
   obtain ⟨_, hH⟩ := hq
   obtain ⟨L, hL⟩ : ∃ L, hardL g = L := ⟨_, rfl⟩
   rw [hL] at hH h0 h1000 hhl hpl ⊢
   have hlp : 0 < L.length := by omega
   refine lstepB rfl rfl rfl (run_move (.tmp rfl)) ?_
   refine lstepB rfl rfl rfl (run_extract (.tmp rfl) rfl) ?_
   refine lstepB rfl rfl rfl (run_extract (.tmp rfl) rfl) ?_
   refine lstepB rfl rfl rfl (run_assign (.tmp rfl)) ?_
   refine lstepB rfl rfl rfl (run_assign (.tmp rfl)) ?_
   refine lnil ?_
   refine xw_then ?_
   refine cw_seq ?_
   refine cw_region ?_
   refine lstepB rfl rfl rfl (run_assign .const) ?_
   refine lnil ?_
   refine xw_then ?_
   refine cw_seq ?_
   refine cw_seq ?_
   refine cw_region ?_
   refine lstepB rfl rfl rfl (run_assign .const) ?_
   refine lnil ?_
   refine xw_then ?_
   refine cw_block ?_
   refine cw_loop (S := Nat) (fun k => [(9, .int .i64 ((k : Nat) : Int)), (8, .int .i64 ((digN L k : Nat) : Int))]) [(1, _), (6, _)] (fun k => [(gH, Obj.cells rH.toArray 28 (0, 0)), (b1, Obj.cells [.int .i64 g.long, .int .i64 g.rise, .int .i64 g.change, .slice pa g.pits.length pc].toArray 24 (0, 0))]) (fun k => k ≤ L.length) (fun k => L.length - k) 0 (Nat.zero_le _) (by repeat (first | exact Less.nil | refine Less.cons rfl ?_)) (by repeat (first | exact Pick.nil | (apply Pick.cons; focus (repeat (first | exact Del.here | apply Del.there))))) ?_
   intro k hk
   refine cw_seq ?_
   refine cw_seq ?_
   refine cw_region ?_
   refine lstepB rfl rfl rfl (run_move (.tmp rfl)) ?_
   refine lstepB rfl rfl rfl (run_fieldAddr (.tmp rfl) fa24_0 (by first | exact Nat.zero_add _ | exact rfl)) ?_
   refine lstepB rfl rfl rfl (run_load1 (.tmp rfl) kd3 (by repeat (first | exact List.Mem.head _ | apply List.Mem.tail)) (by exact rfl)) ?_
   refine lstepB rfl rfl rfl (run_leq (.tmp rfl) (.tmp rfl) rfl) ?_
   refine lnil ?_
   refine xw_then ?_
   refine cw_cond_p (.tmp rfl) (fun hl => ?_) (fun hl => ?_)
   ·
    obtain ⟨s, hs⟩ : ∃ s, L[k]? = some s := ⟨_, List.getElem?_eq_getElem (by omega)⟩
    obtain ⟨b, hb⟩ : ∃ s, L[digN L k]? = some s := ⟨_, List.getElem?_eq_getElem (digN_lt h0 (by omega) hlp)⟩
    have hst := digN_step h0 hs hb
    have q1 := h1000 s (List.mem_of_getElem? hs)
    have q2 := h1000 b (List.mem_of_getElem? hb)
    have hdl := digN_lt h0 (k := k) (by omega) hlp
    simp only [in1000] at q1 q2
    by_cases hc : b.hi - b.lo < s.hi - s.lo
    ·
     rw [if_pos hc] at hst
     refine cw_skip ?_
     refine xw_then ?_
     refine cw_seq ?_
     refine cw_block ?_
     refine cw_seq ?_
     refine cw_chain2 (σ := [0, 1, 2, 3, 4, 5, 6, 7, 8, 9, 10, 11, 12, 13, 14, 15, 16, 17, 18, 19, 20, 21, 22]) [⟨0, [], [], [], 0⟩, ⟨0, [], [], [], 0⟩, ⟨0, [], [], [], 3⟩, ⟨0, [], [], [], 7⟩, ⟨0, [0], [], [], 15⟩, ⟨0, [], [], [], 0⟩, ⟨0, [], [], [], 0⟩, ⟨0, [], [], [], 96⟩, ⟨0, [], [], [], 224⟩, ⟨0, [0], [], [], 480⟩, ⟨0, [], [], [], 1023⟩, ⟨0, [], [], [], 0⟩, ⟨0, [], [], [], 0⟩, ⟨0, [], [], [], 6144⟩, ⟨0, [], [], [], 14336⟩, ⟨0, [0], [], [], 30720⟩, ⟨0, [], [], [], 0⟩, ⟨0, [], [], [], 0⟩, ⟨0, [], [], [], 196608⟩, ⟨0, [], [], [], 458752⟩, ⟨0, [0], [], [], 983040⟩, ⟨0, [], [], [], 2095104⟩, ⟨0, [], [], [], 4194303⟩] [(0, _), (1, _)] (by kernel_rfl) (by kernel_rfl) rfl ?_
     refine .det (B := []) rfl rfl (.inl rfl) .nil .nil rfl (RunB.lr (run_move (.tmp rfl))) ?_
     refine .det (B := []) rfl rfl (.inl rfl) .nil .nil rfl (RunB.lr (run_move (.tmp rfl))) ?_
     refine .det (B := []) rfl rfl (.inl rfl) .nil .nil rfl (RunB.lr (run_indexAddr (i := k) (off' := (k) * 2) (.tmp rfl) (.tmp rfl) el58 (by omega) (Nat.zero_add _))) ?_
     refine .det (B := []) rfl rfl (.inl rfl) .nil .nil rfl (RunB.lr (run_fieldAddr (.tmp rfl) fa28_1 (by first | exact Nat.zero_add _ | exact rfl))) ?_
     refine .det (B := []) rfl rfl (.inl rfl) (.cons rfl .nil) .nil rfl (RunB.lr (run_load1 (v := .int .i64 s.hi) (.tmp rfl) kd3 (by repeat (first | exact List.Mem.head _ | apply List.Mem.tail)) (hH.get (spansC_at L _ s hs).2))) ?_
     refine .det (B := []) rfl rfl (.inl rfl) .nil .nil rfl (RunB.lr (run_move (.tmp rfl))) ?_
     refine .det (B := []) rfl rfl (.inl rfl) .nil .nil rfl (RunB.lr (run_move (.tmp rfl))) ?_
     refine .det (B := []) rfl rfl (.inl rfl) .nil .nil rfl (RunB.lr (run_indexAddr (i := k) (off' := (k) * 2) (.tmp rfl) (.tmp rfl) el58 (by omega) (Nat.zero_add _))) ?_
     refine .det (B := []) rfl rfl (.inl rfl) .nil .nil rfl (RunB.lr (run_fieldAddr (.tmp rfl) fa28_0 (by first | exact Nat.zero_add _ | exact rfl))) ?_
     refine .det (B := []) rfl rfl (.inl rfl) (.cons rfl .nil) .nil rfl (RunB.lr (run_load1 (v := .int .i64 s.lo) (.tmp rfl) kd3 (by repeat (first | exact List.Mem.head _ | apply List.Mem.tail)) (hH.get (spansC_at L _ s hs).1))) ?_
     refine .det (B := []) rfl rfl (.inl rfl) .nil .nil rfl (RunB.lr (run_sub (.tmp rfl) (.tmp rfl) (by first | exact IntWalk.i64_in _ (by omega) | exact rfl))) ?_
     refine .det (B := []) rfl rfl (.inl rfl) .nil .nil rfl (RunB.lr (run_move (.tmp rfl))) ?_
     refine .det (B := []) rfl rfl (.inl rfl) .nil .nil rfl (RunB.lr (run_move (.tmp rfl))) ?_
     refine .det (B := []) rfl rfl (.inl rfl) .nil .nil rfl (RunB.lr (run_indexAddr (i := digN L k) (off' := (digN L k) * 2) (.tmp rfl) (.tmp rfl) el58 (by omega) (Nat.zero_add _))) ?_
     refine .det (B := []) rfl rfl (.inl rfl) .nil .nil rfl (RunB.lr (run_fieldAddr (.tmp rfl) fa28_1 (by first | exact Nat.zero_add _ | exact rfl))) ?_
     refine .det (B := []) rfl rfl (.inl rfl) (.cons rfl .nil) .nil rfl (RunB.lr (run_load1 (v := .int .i64 b.hi) (.tmp rfl) kd3 (by repeat (first | exact List.Mem.head _ | apply List.Mem.tail)) (hH.get (spansC_at L _ b hb).2))) ?_
     refine .det (B := []) rfl rfl (.inl rfl) .nil .nil rfl (RunB.lr (run_move (.tmp rfl))) ?_
     refine .det (B := []) rfl rfl (.inl rfl) .nil .nil rfl (RunB.lr (run_move (.tmp rfl))) ?_
     refine .det (B := []) rfl rfl (.inl rfl) .nil .nil rfl (RunB.lr (run_indexAddr (i := digN L k) (off' := (digN L k) * 2) (.tmp rfl) (.tmp rfl) el58 (by omega) (Nat.zero_add _))) ?_
     refine .det (B := []) rfl rfl (.inl rfl) .nil .nil rfl (RunB.lr (run_fieldAddr (.tmp rfl) fa28_0 (by first | exact Nat.zero_add _ | exact rfl))) ?_
     refine .det (B := []) rfl rfl (.inl rfl) (.cons rfl .nil) .nil rfl (RunB.lr (run_load1 (v := .int .i64 b.lo) (.tmp rfl) kd3 (by repeat (first | exact List.Mem.head _ | apply List.Mem.tail)) (hH.get (spansC_at L _ b hb).1))) ?_
     refine .det (B := []) rfl rfl (.inl rfl) .nil .nil rfl (RunB.lr (run_sub (.tmp rfl) (.tmp rfl) (by first | exact IntWalk.i64_in _ (by omega) | exact rfl))) ?_
     refine .det (B := []) rfl rfl (.inl rfl) .nil .nil rfl (RunB.lr (run_gtr (.tmp rfl) (.tmp rfl) (by first | exact decide_eq_true (by omega) | exact decide_eq_false (by omega) | exact rfl))) ?_
     refine chain_nil (ts := [0, 1]) (.cons rfl (.cons rfl .nil)) (by decide) ?_
     refine xw_then ?_
     refine cw_cond_true (.tmp rfl) ?_
     skip
     have hst2 : ((k : Nat) : Int) = ((digN L (k + 1) : Nat) : Int) := by rw [hst]
     refine cw_region ?_
     refine lstepB rfl rfl rfl (runB_to (run_move (.tmp rfl)) (congrArg (Value.int .i64) hst2)) ?_
     refine lstepB rfl rfl rfl (run_assign (.tmp rfl)) ?_
     refine lnil ?_
     refine xw_in ?_
     refine xw_then ?_
     refine cw_region ?_
     refine lstepB rfl rfl rfl (run_move (.tmp rfl)) ?_
     refine lstepB rfl rfl rfl (run_add (.tmp rfl) .const (by first | exact IntWalk.i64_in _ (by omega) | exact rfl)) ?_
     refine lstepB rfl rfl rfl (run_assign (.tmp rfl)) ?_
     refine lnil ?_
     exact xw_round (k + 1) (by show k + 1 ≤ _; omega) (by show L.length - (k + 1) < L.length - k; omega) (by repeat (first | exact Less.nil | refine Less.cons rfl ?_)) (by repeat (first | exact Pick.nil | (apply Pick.cons; focus (repeat (first | exact Del.here | apply Del.there)))))
    ·
     rw [if_neg hc] at hst
     refine cw_skip ?_
     refine xw_then ?_
     refine cw_seq ?_
     refine cw_block ?_
     refine cw_seq ?_
     refine cw_chain2 (σ := [0, 1, 2, 3, 4, 5, 6, 7, 8, 9, 10, 11, 12, 13, 14, 15, 16, 17, 18, 19, 20, 21, 22]) [⟨0, [], [], [], 0⟩, ⟨0, [], [], [], 0⟩, ⟨0, [], [], [], 3⟩, ⟨0, [], [], [], 7⟩, ⟨0, [0], [], [], 15⟩, ⟨0, [], [], [], 0⟩, ⟨0, [], [], [], 0⟩, ⟨0, [], [], [], 96⟩, ⟨0, [], [], [], 224⟩, ⟨0, [0], [], [], 480⟩, ⟨0, [], [], [], 1023⟩, ⟨0, [], [], [], 0⟩, ⟨0, [], [], [], 0⟩, ⟨0, [], [], [], 6144⟩, ⟨0, [], [], [], 14336⟩, ⟨0, [0], [], [], 30720⟩, ⟨0, [], [], [], 0⟩, ⟨0, [], [], [], 0⟩, ⟨0, [], [], [], 196608⟩, ⟨0, [], [], [], 458752⟩, ⟨0, [0], [], [], 983040⟩, ⟨0, [], [], [], 2095104⟩, ⟨0, [], [], [], 4194303⟩] [(0, _), (1, _)] (by kernel_rfl) (by kernel_rfl) rfl ?_
     refine .det (B := []) rfl rfl (.inl rfl) .nil .nil rfl (RunB.lr (run_move (.tmp rfl))) ?_
     refine .det (B := []) rfl rfl (.inl rfl) .nil .nil rfl (RunB.lr (run_move (.tmp rfl))) ?_
     refine .det (B := []) rfl rfl (.inl rfl) .nil .nil rfl (RunB.lr (run_indexAddr (i := k) (off' := (k) * 2) (.tmp rfl) (.tmp rfl) el58 (by omega) (Nat.zero_add _))) ?_
     refine .det (B := []) rfl rfl (.inl rfl) .nil .nil rfl (RunB.lr (run_fieldAddr (.tmp rfl) fa28_1 (by first | exact Nat.zero_add _ | exact rfl))) ?_
     refine .det (B := []) rfl rfl (.inl rfl) (.cons rfl .nil) .nil rfl (RunB.lr (run_load1 (v := .int .i64 s.hi) (.tmp rfl) kd3 (by repeat (first | exact List.Mem.head _ | apply List.Mem.tail)) (hH.get (spansC_at L _ s hs).2))) ?_
     refine .det (B := []) rfl rfl (.inl rfl) .nil .nil rfl (RunB.lr (run_move (.tmp rfl))) ?_
     refine .det (B := []) rfl rfl (.inl rfl) .nil .nil rfl (RunB.lr (run_move (.tmp rfl))) ?_
     refine .det (B := []) rfl rfl (.inl rfl) .nil .nil rfl (RunB.lr (run_indexAddr (i := k) (off' := (k) * 2) (.tmp rfl) (.tmp rfl) el58 (by omega) (Nat.zero_add _))) ?_
     refine .det (B := []) rfl rfl (.inl rfl) .nil .nil rfl (RunB.lr (run_fieldAddr (.tmp rfl) fa28_0 (by first | exact Nat.zero_add _ | exact rfl))) ?_
     refine .det (B := []) rfl rfl (.inl rfl) (.cons rfl .nil) .nil rfl (RunB.lr (run_load1 (v := .int .i64 s.lo) (.tmp rfl) kd3 (by repeat (first | exact List.Mem.head _ | apply List.Mem.tail)) (hH.get (spansC_at L _ s hs).1))) ?_
     refine .det (B := []) rfl rfl (.inl rfl) .nil .nil rfl (RunB.lr (run_sub (.tmp rfl) (.tmp rfl) (by first | exact IntWalk.i64_in _ (by omega) | exact rfl))) ?_
     refine .det (B := []) rfl rfl (.inl rfl) .nil .nil rfl (RunB.lr (run_move (.tmp rfl))) ?_
     refine .det (B := []) rfl rfl (.inl rfl) .nil .nil rfl (RunB.lr (run_move (.tmp rfl))) ?_
     refine .det (B := []) rfl rfl (.inl rfl) .nil .nil rfl (RunB.lr (run_indexAddr (i := digN L k) (off' := (digN L k) * 2) (.tmp rfl) (.tmp rfl) el58 (by omega) (Nat.zero_add _))) ?_
     refine .det (B := []) rfl rfl (.inl rfl) .nil .nil rfl (RunB.lr (run_fieldAddr (.tmp rfl) fa28_1 (by first | exact Nat.zero_add _ | exact rfl))) ?_
     refine .det (B := []) rfl rfl (.inl rfl) (.cons rfl .nil) .nil rfl (RunB.lr (run_load1 (v := .int .i64 b.hi) (.tmp rfl) kd3 (by repeat (first | exact List.Mem.head _ | apply List.Mem.tail)) (hH.get (spansC_at L _ b hb).2))) ?_
     refine .det (B := []) rfl rfl (.inl rfl) .nil .nil rfl (RunB.lr (run_move (.tmp rfl))) ?_
     refine .det (B := []) rfl rfl (.inl rfl) .nil .nil rfl (RunB.lr (run_move (.tmp rfl))) ?_
     refine .det (B := []) rfl rfl (.inl rfl) .nil .nil rfl (RunB.lr (run_indexAddr (i := digN L k) (off' := (digN L k) * 2) (.tmp rfl) (.tmp rfl) el58 (by omega) (Nat.zero_add _))) ?_
     refine .det (B := []) rfl rfl (.inl rfl) .nil .nil rfl (RunB.lr (run_fieldAddr (.tmp rfl) fa28_0 (by first | exact Nat.zero_add _ | exact rfl))) ?_
     refine .det (B := []) rfl rfl (.inl rfl) (.cons rfl .nil) .nil rfl (RunB.lr (run_load1 (v := .int .i64 b.lo) (.tmp rfl) kd3 (by repeat (first | exact List.Mem.head _ | apply List.Mem.tail)) (hH.get (spansC_at L _ b hb).1))) ?_
     refine .det (B := []) rfl rfl (.inl rfl) .nil .nil rfl (RunB.lr (run_sub (.tmp rfl) (.tmp rfl) (by first | exact IntWalk.i64_in _ (by omega) | exact rfl))) ?_
     refine .det (B := []) rfl rfl (.inl rfl) .nil .nil rfl (RunB.lr (run_gtr (.tmp rfl) (.tmp rfl) (by first | exact decide_eq_true (by omega) | exact decide_eq_false (by omega) | exact rfl))) ?_
     refine chain_nil (ts := [0, 1]) (.cons rfl (.cons rfl .nil)) (by decide) ?_
     refine xw_then ?_
     refine cw_cond_false (.tmp rfl) ?_
     rw [← hst]
     refine cw_skip ?_
     refine xw_in ?_
     refine xw_then ?_
     refine cw_region ?_
     refine lstepB rfl rfl rfl (run_move (.tmp rfl)) ?_
     refine lstepB rfl rfl rfl (run_add (.tmp rfl) .const (by first | exact IntWalk.i64_in _ (by omega) | exact rfl)) ?_
     refine lstepB rfl rfl rfl (run_assign (.tmp rfl)) ?_
     refine lnil ?_
     exact xw_round (k + 1) (by show k + 1 ≤ _; omega) (by show L.length - (k + 1) < L.length - k; omega) (by repeat (first | exact Less.nil | refine Less.cons rfl ?_)) (by repeat (first | exact Pick.nil | (apply Pick.cons; focus (repeat (first | exact Del.here | apply Del.there)))))
   ·
    obtain rfl : k = L.length := by omega
    have hdl := digN_lt h0 (k := L.length) (by omega) hlp
    obtain ⟨b, hb⟩ : ∃ s, L[digN L L.length]? = some s := ⟨_, List.getElem?_eq_getElem hdl⟩
    have q2 := h1000 b (List.mem_of_getElem? hb)
    simp only [in1000] at q2
    have hdn := digN_done h0 hlp hb
    rw [hdn]
    refine cw_exit ?_
    refine xw_then_exit ?_
    refine xw_then_exit ?_
    refine xw_in_exit ?_
    refine xw_then ?_
    refine cw_seq ?_
    refine cw_chain2 (σ := [0, 1, 2, 3, 4, 5, 6, 7, 8, 9, 10, 11, 12, 13, 14]) [⟨0, [], [], [], 0⟩, ⟨0, [], [], [], 0⟩, ⟨0, [], [], [], 0⟩, ⟨0, [], [], [], 6⟩, ⟨0, [], [], [], 14⟩, ⟨0, [0], [], [], 30⟩, ⟨0, [], [], [], 0⟩, ⟨0, [], [], [], 0⟩, ⟨0, [], [], [], 192⟩, ⟨0, [], [], [], 448⟩, ⟨0, [0], [], [], 960⟩, ⟨0, [], [], [], 2046⟩, ⟨0, [], [], [], 1⟩, ⟨0, [], [], [], 8191⟩, ⟨0, [], [], [], 16383⟩] [(0, _), (1, _)] (by kernel_rfl) (by kernel_rfl) rfl ?_
    refine .det (B := []) rfl rfl (.inl rfl) .nil .nil rfl (RunB.lr (run_move (.tmp rfl))) ?_
    refine .det (B := []) rfl rfl (.inl rfl) .nil .nil rfl (RunB.lr (run_move (.tmp rfl))) ?_
    refine .det (B := []) rfl rfl (.inl rfl) .nil .nil rfl (RunB.lr (run_move (.tmp rfl))) ?_
    refine .det (B := []) rfl rfl (.inl rfl) .nil .nil rfl (RunB.lr (run_indexAddr (i := digN L L.length) (off' := (digN L L.length) * 2) (.tmp rfl) (.tmp rfl) el58 (by omega) (Nat.zero_add _))) ?_
    refine .det (B := []) rfl rfl (.inl rfl) .nil .nil rfl (RunB.lr (run_fieldAddr (.tmp rfl) fa28_1 (by first | exact Nat.zero_add _ | exact rfl))) ?_
    refine .det (B := []) rfl rfl (.inl rfl) (.cons rfl .nil) .nil rfl (RunB.lr (run_load1 (v := .int .i64 b.hi) (.tmp rfl) kd3 (by repeat (first | exact List.Mem.head _ | apply List.Mem.tail)) (hH.get (spansC_at L _ b hb).2))) ?_
    refine .det (B := []) rfl rfl (.inl rfl) .nil .nil rfl (RunB.lr (run_move (.tmp rfl))) ?_
    refine .det (B := []) rfl rfl (.inl rfl) .nil .nil rfl (RunB.lr (run_move (.tmp rfl))) ?_
    refine .det (B := []) rfl rfl (.inl rfl) .nil .nil rfl (RunB.lr (run_indexAddr (i := digN L L.length) (off' := (digN L L.length) * 2) (.tmp rfl) (.tmp rfl) el58 (by omega) (Nat.zero_add _))) ?_
    refine .det (B := []) rfl rfl (.inl rfl) .nil .nil rfl (RunB.lr (run_fieldAddr (.tmp rfl) fa28_0 (by first | exact Nat.zero_add _ | exact rfl))) ?_
    refine .det (B := []) rfl rfl (.inl rfl) (.cons rfl .nil) .nil rfl (RunB.lr (run_load1 (v := .int .i64 b.lo) (.tmp rfl) kd3 (by repeat (first | exact List.Mem.head _ | apply List.Mem.tail)) (hH.get (spansC_at L _ b hb).1))) ?_
    refine .det (B := []) rfl rfl (.inl rfl) .nil .nil rfl (RunB.lr (run_sub (.tmp rfl) (.tmp rfl) (by first | exact IntWalk.i64_in _ (by omega) | exact rfl))) ?_
    refine .det (B := []) rfl rfl (.inl rfl) .nil .nil rfl (RunB.lr (run_assign (.tmp rfl))) ?_
    refine .det (B := []) rfl rfl (.inl rfl) .nil .nil rfl (RunB.lr (run_assign (.tmp rfl))) ?_
    refine .det (B := []) rfl rfl (.inl rfl) .nil .nil rfl (RunB.lr (run_assign .const)) ?_
    refine chain_nil (ts := [0, 1]) (.cons rfl (.cons rfl .nil)) (by decide) ?_
    refine xw_then ?_
    refine cw_ret ?_
    refine xw_ret3 Try.results24 rfl rfl rfl (fun w hS => ⟨rfl, hS.kept⟩)
 case some val =>
  have hne := hardE_ne he
  have hS0 : digS g = (0, 0) := by unfold digS; rw [if_neg (by rw [he]; simp)]
  rw [he] at hck
  rw [hS0, show errN (some val) = val from rfl]
  rw [show errN (some val) = val from rfl] at hck
  refine .mk <| enter (n := 62) Try.func24 rfl rfl rfl (by repeat (first | exact Fill.nil | apply Fill.cons)) ?_
  refine cw_seq ?_
  refine cw_region ?_
  refine lstep rfl rfl rfl (run_boxN (.tmp rfl)) ?_
  intro b1 _
  refine lstepB rfl rfl rfl (run_assign .const) ?_
  refine lstepB rfl rfl rfl (run_assign .const) ?_
  refine lstepB rfl rfl rfl (run_assign .const) ?_
  refine lnil ?_
  refine xw_then ?_
  refine cw_seq ?_
  refine cw_region ?_
  refine lstepB rfl rfl rfl (run_loadN (.tmp rfl) kd24 sz24 (by repeat (first | exact List.Mem.head _ | apply List.Mem.tail)) (by repeat (first | exact Sub.done | apply Sub.take | apply Sub.skip))) ?_
  refine lstepB rfl rfl rfl (run_call1 cb46 (.cons (.tmp rfl) (.cons .const .nil)) (fun w hS => (checkZK g true pa pc hgm w (hp.kept hS.kept)).as (congrArg (Value.int .i64) hck))) ?_
  refine lstepB rfl rfl rfl (run_assign (.tmp rfl)) ?_
  refine lnil ?_
  refine xw_then ?_
  refine cw_seq ?_
  refine cw_seq ?_
  refine cw_region ?_
  refine lstepB rfl rfl rfl (run_move (.tmp rfl)) ?_
  refine lstepB rfl rfl rfl (run_neq (p := true) (.tmp rfl) .const (decide_eq_true hne)) ?_
  refine lnil ?_
  refine xw_then ?_
  refine cw_cond_true (.tmp rfl) ?_
  refine cw_seq ?_
  refine cw_region ?_
  refine lstepB rfl rfl rfl (run_move (.tmp rfl)) ?_
  refine lstepB rfl rfl rfl (run_assign .const) ?_
  refine lstepB rfl rfl rfl (run_assign .const) ?_
  refine lstepB rfl rfl rfl (run_assign (.tmp rfl)) ?_
  refine lnil ?_
  refine xw_then ?_
  refine cw_ret ?_
  refine xw_then_ret ?_
  refine xw_ret3 Try.results24 rfl rfl rfl (fun w hS => ⟨rfl, hS.kept⟩)
def woL (l : List PitD) (i : Nat) : Nat → List PitD
  | 0 => []
  | k + 1 => if k = i then woL l i k else woL l i k ++ (match l[k]? with | some p => [p] | none => [])
theorem woL_yes {l : List PitD} {i k : Nat} {p : PitD} (h : l[k]? = some p) (hk : k ≠ i) : woL l i (k + 1) = woL l i k ++ [p] := by rw [woL, if_neg hk, h]
theorem woL_no {l : List PitD} {i k : Nat} (hk : k = i) : woL l i (k + 1) = woL l i k := by rw [woL, if_pos hk]
theorem woL_eq {l : List PitD} {i : Nat} : ∀ k, k ≤ l.length → woL l i k = (if k ≤ i then l.take k else l.take i ++ (l.take k).drop (i + 1))
  | 0, _ => by simp [woL]
  | k + 1, h => by
    have ih := woL_eq (l := l) (i := i) k (by omega)
    obtain ⟨p, hp⟩ : ∃ p, l[k]? = some p := ⟨_, List.getElem?_eq_getElem (by omega)⟩
    have ht : l.take (k + 1) = l.take k ++ [p] := by rw [List.take_add_one, hp]; rfl
    rcases Nat.lt_trichotomy k i with c | c | c
    · rw [woL_yes hp (by omega), ih, if_pos (by omega), if_pos (by omega), ht]
    · subst c
      rw [woL_no rfl, ih, if_pos (Nat.le_refl _), if_neg (by omega)]
      rw [List.drop_of_length_le (by rw [List.length_take]; omega), List.append_nil]
    · rw [woL_yes hp (by omega), ih, if_neg (by omega), if_neg (by omega), ht, List.append_assoc]
      congr 1
      rw [List.drop_append_of_le_length (by rw [List.length_take]; omega)]
theorem woL_done {g : GroundD} {i : Nat} (hi : i < g.pits.length) : woL g.pits i g.pits.length = (withoutG g i).pits := by
  rw [woL_eq _ (Nat.le_refl _), if_neg (by omega), without_pits, List.take_length]
theorem woL_len {l : List PitD} {i : Nat} : ∀ k, (woL l i k).length ≤ k
  | 0 => by simp [woL]
  | k + 1 => by
    have ih := woL_len (l := l) (i := i) k
    unfold woL
    split
    · omega
    · rw [List.length_append]
      split <;> simp <;> omega
set_option maxRecDepth 100000 in
set_option maxHeartbeats 4000000 in
theorem refWithoutK (g : GroundD) (i : Nat) (hi : i < g.pits.length) (pa : Option Addr) (pc : Nat) (hgm : g.pits.length ≤ 1000000) (w : World) (hp : PitsAt w pa g.pits) : CallsF Try.prog 72 (([.agg [.int .i64 g.long, .int .i64 g.rise, .int .i64 g.change, .slice pa g.pits.length pc].toArray, .int .i64 (i : Int)] : List Value)).toArray w fun e w' => ∃ q : Option (Nat × Nat × List Value), (match q with | none => (withoutG g i).pits = [] | some q => InRow 9 (withoutG g i).pits.length q.2.1 q.2.2 (pitsC (withoutG g i).pits)) ∧ e = .returned (.agg [.int .i64 g.long, .int .i64 g.rise, .int .i64 g.change, (match q with | none => .slice none 0 0 | some q => .slice (some ⟨q.1, 0, none⟩) (withoutG g i).pits.length q.2.1)].toArray) ∧ St w NoT (match q with | none => [] | some q => [(q.1, Obj.cells q.2.2.toArray 55 (0, 0))]) w' := by
 refine enter (n := 30) Try.func72 rfl rfl rfl (by repeat (first | exact Fill.nil | apply Fill.cons)) ?_
 refine cw_seq ?_
 refine cw_region ?_
 refine lstep rfl rfl rfl (run_boxN (.tmp rfl)) ?_
 intro b2 _
 refine lstep rfl rfl rfl (run_alloc zr24) ?_
 intro b4 _
 refine lnil ?_
 refine xw_then ?_
 refine cw_seq ?_
 refine cw_region ?_
 refine lstepB rfl rfl rfl (run_loadN (.tmp rfl) kd24 sz24 (by repeat (first | exact List.Mem.head _ | apply List.Mem.tail)) (by repeat (first | exact Sub.done | apply Sub.take | apply Sub.skip))) ?_
 refine lstep rfl rfl rfl (run_alloc zr24) ?_
 intro b5 _
 refine lstep0 rfl rfl (run_storeN (.tmp rfl) (.tmp rfl) rfl sz24 rfl (by repeat (first | exact Upd.here | apply Upd.there)) (by repeat (first | exact Put.done | apply Put.put | apply Put.skip))) ?_
 refine lnil ?_
 refine xw_then ?_
 refine cw_seq ?_
 refine cw_region ?_
 refine lstepB rfl rfl rfl (run_fieldAddr (.tmp rfl) fa24_3 (by first | exact Nat.zero_add _ | exact rfl)) ?_
 refine lstep0 rfl rfl (run_store1 (.tmp rfl) .const rfl sz22 (by repeat (first | exact Upd.here | apply Upd.there)) (by repeat (first | exact Put.done | apply Put.put | apply Put.skip))) ?_
 refine lnil ?_
 refine xw_then ?_
 refine cw_seq ?_
 refine cw_seq ?_
 refine cw_region ?_
 refine lstepB rfl rfl rfl (run_assign .const) ?_
 refine lnil ?_
 refine xw_then ?_
 refine cw_block ?_
 refine cw_loop (S := Nat × Option (Nat × Nat × List Value)) (fun s => [(6, .int .i64 ((s.1 : Nat) : Int))]) [(1, _), (2, _), (4, _), (5, _)] (fun s => (match s.2 with | none => [(b5, Obj.cells [.int .i64 g.long, .int .i64 g.rise, .int .i64 g.change, .slice none 0 0].toArray 24 (0, 0))] | some q => [(q.1, Obj.cells q.2.2.toArray 55 (0, 0)), (b5, Obj.cells [.int .i64 g.long, .int .i64 g.rise, .int .i64 g.change, (.slice (some ⟨q.1, 0, none⟩) (woL g.pits i s.1).length q.2.1)].toArray 24 (0, 0))]) ++ [(b4, Obj.cells [.int .i64 0, .int .i64 0, .int .i64 0, .slice none 0 0].toArray 24 (0, 0)), (b2, Obj.cells [.int .i64 g.long, .int .i64 g.rise, .int .i64 g.change, .slice pa g.pits.length pc].toArray 24 (0, 0))]) (fun s => s.1 ≤ g.pits.length ∧ match s.2 with | none => (woL g.pits i s.1) = [] | some q => InRow 9 (woL g.pits i s.1).length q.2.1 q.2.2 (pitsC (woL g.pits i s.1))) (fun s => g.pits.length - s.1) (0, none) ⟨Nat.zero_le _, rfl⟩ (by repeat (first | exact Less.nil | refine Less.cons rfl ?_)) (by repeat (first | exact Pick.nil | (apply Pick.cons; focus (repeat (first | exact Del.here | apply Del.there))))) ?_
 intro s hs
 obtain ⟨k, o⟩ := s
 obtain ⟨hk, ho⟩ := hs
 dsimp only at hk ho ⊢
 cases o
 case none =>
  dsimp only at ho ⊢
  refine cw_seq ?_
  refine cw_seq ?_
  refine cw_region ?_
  refine lstepB rfl rfl rfl (run_move (.tmp rfl)) ?_
  refine lstepB rfl rfl rfl (run_fieldAddr (.tmp rfl) fa24_3 (by first | exact Nat.zero_add _ | exact rfl)) ?_
  refine lstepB rfl rfl rfl (run_load1 (.tmp rfl) kd22 (by repeat (first | exact List.Mem.head _ | apply List.Mem.tail)) (by exact rfl)) ?_
  refine lstepB rfl rfl rfl (run_len (.tmp rfl) sl22) ?_
  refine lstepB rfl rfl rfl (run_lss (.tmp rfl) (.tmp rfl) rfl) ?_
  refine lnil ?_
  refine xw_then ?_
  refine cw_cond_p (.tmp rfl) (fun hl => ?_) (fun hl => ?_)
  ·
   obtain ⟨p, hpk⟩ : ∃ p, g.pits[k]? = some p := ⟨_, List.getElem?_eq_getElem (by omega)⟩
   obtain ⟨b, o, rfl, hb, hc⟩ := hp.pit (by omega)
   have hwl := woL_len (l := g.pits) (i := i) k
   by_cases hki : k = i
   ·
    have hst := woL_no (l := g.pits) hki
    refine cw_skip ?_
    refine xw_then ?_
    refine cw_seq ?_
    refine cw_block ?_
    refine cw_seq ?_
    refine cw_region ?_
    refine lstepB rfl rfl rfl (run_move (.tmp rfl)) ?_
    refine lstepB rfl rfl rfl (run_move (.tmp rfl)) ?_
    refine lstepB rfl rfl rfl (run_neq (.tmp rfl) (.tmp rfl) (by first | exact decide_eq_true (by omega) | exact decide_eq_false (by omega) | exact rfl)) ?_
    refine lnil ?_
    refine xw_then ?_
    refine cw_cond_false (.tmp rfl) ?_
    refine cw_skip ?_
    refine xw_in ?_
    refine xw_then ?_
    refine cw_region ?_
    refine lstepB rfl rfl rfl (run_move (.tmp rfl)) ?_
    refine lstepB rfl rfl rfl (run_add (.tmp rfl) .const (by first | exact IntWalk.i64_in _ (by omega) | exact rfl)) ?_
    refine lstepB rfl rfl rfl (run_assign (.tmp rfl)) ?_
    refine lnil ?_
    exact xw_round (k + 1, none) ⟨by simp only; omega, hst.trans ho⟩ (by show g.pits.length - (k + 1) < g.pits.length - k; omega) (by repeat (first | exact Less.nil | refine Less.cons rfl ?_)) (by repeat (first | exact Pick.nil | (apply Pick.cons; focus (repeat (first | exact Del.here | apply Del.there)))))
   ·
    have hst := woL_yes hpk hki
    refine cw_skip ?_
    refine xw_then ?_
    refine cw_seq ?_
    refine cw_block ?_
    refine cw_seq ?_
    refine cw_region ?_
    refine lstepB rfl rfl rfl (run_move (.tmp rfl)) ?_
    refine lstepB rfl rfl rfl (run_move (.tmp rfl)) ?_
    refine lstepB rfl rfl rfl (run_neq (.tmp rfl) (.tmp rfl) (by first | exact decide_eq_true (by omega) | exact decide_eq_false (by omega) | exact rfl)) ?_
    refine lnil ?_
    refine xw_then ?_
    refine cw_cond_true (.tmp rfl) ?_
    refine cw_chain2 (σ := [0, 1, 2, 3, 4, 5, 6, 7, 8, 9, 10]) [⟨0, [], [], [], 0⟩, ⟨0, [0], [], [], 1⟩, ⟨0, [], [], [], 0⟩, ⟨0, [2], [], [], 4⟩, ⟨0, [], [], [], 0⟩, ⟨0, [], [], [], 28⟩, ⟨0, [], [], [], 60⟩, ⟨2, [], [], [3], 124⟩, ⟨1, [3], [], [4], 255⟩, ⟨0, [], [], [], 511⟩, ⟨0, [], [0], [0], 1023⟩] [(0, _), (1, _), (2, _)] (by kernel_rfl) (by kernel_rfl) rfl ?_
    refine .det (B := []) rfl rfl (.inl rfl) .nil .nil rfl (RunB.lr (run_fieldAddr (.tmp rfl) fa24_3 (by first | exact Nat.zero_add _ | exact rfl))) ?_
    refine .det (B := []) rfl rfl (.inl rfl) (.cons rfl .nil) .nil rfl (RunB.lr (run_load1 (.tmp rfl) kd22 (by repeat (first | exact List.Mem.head _ | apply List.Mem.tail)) (by exact rfl))) ?_
    refine .det (B := []) rfl rfl (.inl rfl) .nil .nil rfl (RunB.lr (run_fieldAddr (.tmp rfl) fa24_3 (by first | exact Nat.zero_add _ | exact rfl))) ?_
    refine .det (B := []) rfl rfl (.inl rfl) (.cons rfl .nil) .nil rfl (RunB.lr (run_load1 (.tmp rfl) kd22 (by repeat (first | exact List.Mem.head _ | apply List.Mem.tail)) (by exact rfl))) ?_
    refine .det (B := []) rfl rfl (.inl rfl) .nil .nil rfl (RunB.lr (run_move (.tmp rfl))) ?_
    refine .det (B := []) rfl rfl (.inl rfl) .nil .nil rfl (RunB.lr (run_indexAddr (off' := o + k * 9) (.tmp rfl) (.tmp rfl) el22 (by omega) rfl)) ?_
    refine .det (B := []) rfl rfl (.inl rfl) .nil .nil rfl (RunB.lr (run_loadN_at (l := pitC p) (.tmp rfl) kd55 sz55 rfl (fun w' hS j' v hj => hS.old_cell (fun h => h) (hc k p hpk j' v hj)))) ?_
    refine .flo rfl rfl rfl (.lit rfl (.cons (.tmp rfl) .nil) (fun w => bs22_1_0 w)) trivial rfl rfl rfl ?_
    intro b26
    refine .ext (B := fun q => [(4, (q.1, _))]) rfl rfl (.inl rfl) (.cons rfl .nil) .nil (fun _ => rfl) (inrow_some (xs := pitC _) rfl (by decide)) (lr_append_nil ap22 (.tmp rfl) (.tmp rfl) (news := pitC p) rfl (by omega) (by omega) (by decide) (news_own (by repeat (first | exact List.Mem.head _ | apply List.Mem.tail)))) ?_
    rintro ⟨gW, cW, rW⟩ hW
    refine .det (B := []) rfl rfl (.inl rfl) .nil .nil rfl (RunB.lr (run_fieldAddr (.tmp rfl) fa24_3 (by first | exact Nat.zero_add _ | exact rfl))) ?_
    refine .det (B := [(0, (_, _))]) rfl rfl (.inl rfl) .nil (.cons rfl .nil) rfl (lr_store1 (.tmp rfl) (.tmp rfl) rfl sz22 (by repeat (first | exact Put.done | apply Put.put | apply Put.skip))) ?_
    refine chain_nil (ts := [4, 0, 1, 2]) (.cons rfl (.cons rfl (.cons rfl (.cons rfl .nil)))) (by decide) ?_
    dsimp only at hW ⊢
    have hle : 1 = (woL g.pits i (k + 1)).length := by rw [hst, ho]; rfl
    have hW2 : InRow 9 (woL g.pits i (k + 1)).length cW rW (pitsC (woL g.pits i (k + 1))) := by rw [← hle, hst, ho]; exact hW
    rw [(show Value.slice (some ⟨gW, 0, none⟩) 1 cW = Value.slice (some ⟨gW, 0, none⟩) (woL g.pits i (k + 1)).length cW from congrArg (fun n => Value.slice (some ⟨gW, 0, none⟩) n cW) hle)]
    refine xw_in ?_
    refine xw_then ?_
    refine cw_region ?_
    refine lstepB rfl rfl rfl (run_move (.tmp rfl)) ?_
    refine lstepB rfl rfl rfl (run_add (.tmp rfl) .const (by first | exact IntWalk.i64_in _ (by omega) | exact rfl)) ?_
    refine lstepB rfl rfl rfl (run_assign (.tmp rfl)) ?_
    refine lnil ?_
    exact xw_round (k + 1, some (gW, cW, rW)) ⟨by simp only; omega, hW2⟩ (by show g.pits.length - (k + 1) < g.pits.length - k; omega) (by repeat (first | exact Less.nil | refine Less.cons rfl ?_)) (by repeat (first | exact Pick.nil | (apply Pick.cons; focus (repeat (first | exact Del.here | apply Del.there)))))
  ·
   obtain rfl : k = g.pits.length := by omega
   rw [woL_done hi] at ho
   refine cw_exit ?_
   refine xw_then_exit ?_
   refine xw_then_exit ?_
   refine xw_in_exit ?_
   refine xw_then ?_
   refine cw_seq ?_
   refine cw_region ?_
   refine lstepB rfl rfl rfl (run_loadN (.tmp rfl) kd24 sz24 (by repeat (first | exact List.Mem.head _ | apply List.Mem.tail)) (by repeat (first | exact Sub.done | apply Sub.take | apply Sub.skip))) ?_
   refine lstep0 rfl rfl (run_storeN (.tmp rfl) (.tmp rfl) rfl sz24 rfl (by repeat (first | exact Upd.here | apply Upd.there)) (by repeat (first | exact Put.done | apply Put.put | apply Put.skip))) ?_
   refine lnil ?_
   refine xw_then ?_
   refine cw_ret ?_
   exact xw_retC1 rfl rfl kd24 sz24 (by repeat (first | exact List.Mem.head _ | apply List.Mem.tail)) (by repeat (first | exact Sub.done | apply Sub.take | apply Sub.skip)) (fun w hS => ⟨none, ho, rfl, hS.pick (by repeat (first | exact Pick.nil | (apply Pick.cons; focus (repeat (first | exact Del.here | apply Del.there)))))⟩)
 case some q =>
  obtain ⟨gX, cX, rX⟩ := q
  dsimp only at ho ⊢
  refine cw_seq ?_
  refine cw_seq ?_
  refine cw_region ?_
  refine lstepB rfl rfl rfl (run_move (.tmp rfl)) ?_
  refine lstepB rfl rfl rfl (run_fieldAddr (.tmp rfl) fa24_3 (by first | exact Nat.zero_add _ | exact rfl)) ?_
  refine lstepB rfl rfl rfl (run_load1 (.tmp rfl) kd22 (by repeat (first | exact List.Mem.head _ | apply List.Mem.tail)) (by exact rfl)) ?_
  refine lstepB rfl rfl rfl (run_len (.tmp rfl) sl22) ?_
  refine lstepB rfl rfl rfl (run_lss (.tmp rfl) (.tmp rfl) rfl) ?_
  refine lnil ?_
  refine xw_then ?_
  refine cw_cond_p (.tmp rfl) (fun hl => ?_) (fun hl => ?_)
  ·
   obtain ⟨p, hpk⟩ : ∃ p, g.pits[k]? = some p := ⟨_, List.getElem?_eq_getElem (by omega)⟩
   obtain ⟨b, o, rfl, hb, hc⟩ := hp.pit (by omega)
   have hwl := woL_len (l := g.pits) (i := i) k
   by_cases hki : k = i
   ·
    have hst := woL_no (l := g.pits) hki
    refine cw_skip ?_
    refine xw_then ?_
    refine cw_seq ?_
    refine cw_block ?_
    refine cw_seq ?_
    refine cw_region ?_
    refine lstepB rfl rfl rfl (run_move (.tmp rfl)) ?_
    refine lstepB rfl rfl rfl (run_move (.tmp rfl)) ?_
    refine lstepB rfl rfl rfl (run_neq (.tmp rfl) (.tmp rfl) (by first | exact decide_eq_true (by omega) | exact decide_eq_false (by omega) | exact rfl)) ?_
    refine lnil ?_
    refine xw_then ?_
    refine cw_cond_false (.tmp rfl) ?_
    rw [← hst] at ho ⊢
    refine cw_skip ?_
    refine xw_in ?_
    refine xw_then ?_
    refine cw_region ?_
    refine lstepB rfl rfl rfl (run_move (.tmp rfl)) ?_
    refine lstepB rfl rfl rfl (run_add (.tmp rfl) .const (by first | exact IntWalk.i64_in _ (by omega) | exact rfl)) ?_
    refine lstepB rfl rfl rfl (run_assign (.tmp rfl)) ?_
    refine lnil ?_
    exact xw_round (k + 1, some (gX, cX, rX)) ⟨by simp only; omega, ho⟩ (by show g.pits.length - (k + 1) < g.pits.length - k; omega) (by repeat (first | exact Less.nil | refine Less.cons rfl ?_)) (by repeat (first | exact Pick.nil | (apply Pick.cons; focus (repeat (first | exact Del.here | apply Del.there)))))
   ·
    have hst := woL_yes hpk hki
    refine cw_skip ?_
    refine xw_then ?_
    refine cw_seq ?_
    refine cw_block ?_
    refine cw_seq ?_
    refine cw_region ?_
    refine lstepB rfl rfl rfl (run_move (.tmp rfl)) ?_
    refine lstepB rfl rfl rfl (run_move (.tmp rfl)) ?_
    refine lstepB rfl rfl rfl (run_neq (.tmp rfl) (.tmp rfl) (by first | exact decide_eq_true (by omega) | exact decide_eq_false (by omega) | exact rfl)) ?_
    refine lnil ?_
    refine xw_then ?_
    refine cw_cond_true (.tmp rfl) ?_
    refine cw_chain2 (σ := [0, 1, 2, 3, 4, 5, 6, 7, 8, 9, 10]) [⟨0, [], [], [], 0⟩, ⟨0, [1], [], [], 1⟩, ⟨0, [], [], [], 0⟩, ⟨0, [3], [], [], 4⟩, ⟨0, [], [], [], 0⟩, ⟨0, [], [], [], 28⟩, ⟨0, [], [], [], 60⟩, ⟨2, [], [], [4], 124⟩, ⟨1, [4], [0], [0], 255⟩, ⟨0, [], [], [], 511⟩, ⟨0, [], [1], [1], 1023⟩] [(0, _), (1, _), (2, _), (3, _)] (by kernel_rfl) (by kernel_rfl) rfl ?_
    refine .det (B := []) rfl rfl (.inl rfl) .nil .nil rfl (RunB.lr (run_fieldAddr (.tmp rfl) fa24_3 (by first | exact Nat.zero_add _ | exact rfl))) ?_
    refine .det (B := []) rfl rfl (.inl rfl) (.cons rfl .nil) .nil rfl (RunB.lr (run_load1 (.tmp rfl) kd22 (by repeat (first | exact List.Mem.head _ | apply List.Mem.tail)) (by exact rfl))) ?_
    refine .det (B := []) rfl rfl (.inl rfl) .nil .nil rfl (RunB.lr (run_fieldAddr (.tmp rfl) fa24_3 (by first | exact Nat.zero_add _ | exact rfl))) ?_
    refine .det (B := []) rfl rfl (.inl rfl) (.cons rfl .nil) .nil rfl (RunB.lr (run_load1 (.tmp rfl) kd22 (by repeat (first | exact List.Mem.head _ | apply List.Mem.tail)) (by exact rfl))) ?_
    refine .det (B := []) rfl rfl (.inl rfl) .nil .nil rfl (RunB.lr (run_move (.tmp rfl))) ?_
    refine .det (B := []) rfl rfl (.inl rfl) .nil .nil rfl (RunB.lr (run_indexAddr (off' := o + k * 9) (.tmp rfl) (.tmp rfl) el22 (by omega) rfl)) ?_
    refine .det (B := []) rfl rfl (.inl rfl) .nil .nil rfl (RunB.lr (run_loadN_at (l := pitC p) (.tmp rfl) kd55 sz55 rfl (fun w' hS j' v hj => hS.old_cell (fun h => h) (hc k p hpk j' v hj)))) ?_
    refine .flo rfl rfl rfl (.lit rfl (.cons (.tmp rfl) .nil) (fun w => bs22_1_0 w)) trivial rfl rfl rfl ?_
    intro b26
    refine .ext (B := fun q => [(0, (q.1, _))]) rfl rfl (.inl rfl) (.cons rfl .nil) (.cons rfl .nil) (fun _ => rfl) (inrow_some (by rw [List.length_append, pitsC_length]; simp only [List.length_cons, List.length_nil]; omega) (by unfold maxLen; omega)) (lr_append_row ap22 (.tmp rfl) ho (.tmp rfl) (news := pitC p) rfl rfl (by omega) (by unfold maxLen; omega) (news_own (by repeat (first | exact List.Mem.head _ | apply List.Mem.tail)))) ?_
    rintro ⟨gW, cW, rW⟩ hW
    refine .det (B := []) rfl rfl (.inl rfl) .nil .nil rfl (RunB.lr (run_fieldAddr (.tmp rfl) fa24_3 (by first | exact Nat.zero_add _ | exact rfl))) ?_
    refine .det (B := [(1, (_, _))]) rfl rfl (.inl rfl) .nil (.cons rfl .nil) rfl (lr_store1 (.tmp rfl) (.tmp rfl) rfl sz22 (by repeat (first | exact Put.done | apply Put.put | apply Put.skip))) ?_
    refine chain_nil (ts := [0, 1, 2, 3]) (.cons rfl (.cons rfl (.cons rfl (.cons rfl .nil)))) (by decide) ?_
    dsimp only at hW ⊢
    have hle : ((woL g.pits i k).length + 1) = (woL g.pits i (k + 1)).length := by rw [hst, List.length_append]; rfl
    have hW2 : InRow 9 (woL g.pits i (k + 1)).length cW rW (pitsC (woL g.pits i (k + 1))) := by rw [← hle, hst, pitsC_append]; exact hW
    rw [(show Value.slice (some ⟨gW, 0, none⟩) ((woL g.pits i k).length + 1) cW = Value.slice (some ⟨gW, 0, none⟩) (woL g.pits i (k + 1)).length cW from congrArg (fun n => Value.slice (some ⟨gW, 0, none⟩) n cW) hle)]
    refine xw_in ?_
    refine xw_then ?_
    refine cw_region ?_
    refine lstepB rfl rfl rfl (run_move (.tmp rfl)) ?_
    refine lstepB rfl rfl rfl (run_add (.tmp rfl) .const (by first | exact IntWalk.i64_in _ (by omega) | exact rfl)) ?_
    refine lstepB rfl rfl rfl (run_assign (.tmp rfl)) ?_
    refine lnil ?_
    exact xw_round (k + 1, some (gW, cW, rW)) ⟨by simp only; omega, hW2⟩ (by show g.pits.length - (k + 1) < g.pits.length - k; omega) (by repeat (first | exact Less.nil | refine Less.cons rfl ?_)) (by repeat (first | exact Pick.nil | (apply Pick.cons; focus (repeat (first | exact Del.here | apply Del.there)))))
  ·
   obtain rfl : k = g.pits.length := by omega
   rw [woL_done hi] at ho ⊢
   refine cw_exit ?_
   refine xw_then_exit ?_
   refine xw_then_exit ?_
   refine xw_in_exit ?_
   refine xw_then ?_
   refine cw_seq ?_
   refine cw_region ?_
   refine lstepB rfl rfl rfl (run_loadN (.tmp rfl) kd24 sz24 (by repeat (first | exact List.Mem.head _ | apply List.Mem.tail)) (by repeat (first | exact Sub.done | apply Sub.take | apply Sub.skip))) ?_
   refine lstep0 rfl rfl (run_storeN (.tmp rfl) (.tmp rfl) rfl sz24 rfl (by repeat (first | exact Upd.here | apply Upd.there)) (by repeat (first | exact Put.done | apply Put.put | apply Put.skip))) ?_
   refine lnil ?_
   refine xw_then ?_
   refine cw_ret ?_
   exact xw_retC1 rfl rfl kd24 sz24 (by repeat (first | exact List.Mem.head _ | apply List.Mem.tail)) (by repeat (first | exact Sub.done | apply Sub.take | apply Sub.skip)) (fun w hS => ⟨some (gX, cX, rX), ho, rfl, hS.pick (by repeat (first | exact Pick.nil | (apply Pick.cons; focus (repeat (first | exact Del.here | apply Del.there)))))⟩)
end Go.Proofs.Ytfmbnobkenngaaa
