/- Furrow: FurrowStraight's walk. -/
import Derived.Test.YtjdeplehhmhpcaaGD
namespace Go.Proofs.Ytjdeplehhmhpcaa
open Go.RowKit En

/-- Small numbers that lie in memory. -/
structure U8At (w : World) (ba : Option Addr) (m : List Int) : Prop where
  row : ∀ i x, m[i]? = some x → ∃ b o, ba = some ⟨b, o, none⟩ ∧ b < w.heap.size ∧ (0 ≤ x ∧ x ≤ 255) ∧ w.cell? ⟨b, o + i, none⟩ = some (.int .u8 x)
theorem U8At.kept {w w' : World} {ba : Option Addr} {m : List Int} (h : U8At w ba m) (hb : Below w.heap.size w w') : U8At w' ba m := ⟨fun i x hi => by
  obtain ⟨b, o, h1, h2, h3, h4⟩ := h.row i x hi
  exact ⟨b, o, h1, Nat.lt_of_lt_of_le h2 hb.size, h3, cell_kept' h4 hb⟩⟩
theorem freedL_none {l : List SpanD} : freedL l 0 = l := by
  apply List.ext_getElem?
  intro k
  rcases Nat.lt_or_ge k l.length with h | h
  · rw [freedL_at h, getD_some h]; simp [freedS]
  · rw [List.getElem?_eq_none (by rw [freedL_length]; exact h), List.getElem?_eq_none h]
theorem setsL_head (n : Nat) : ∃ r, setsL n = 0 :: r := by
  have h := sets_at (n := n) (i := 0) (j := 0) (Nat.zero_le _) (Nat.two_pow_pos n) (by decide)
  have e : setsU n 0 0 = [] := rfl
  rw [e] at h
  cases hs : setsL n with
  | nil => rw [hs] at h; cases h
  | cons a r =>
    rw [hs] at h
    cases h
    exact ⟨r, rfl⟩
theorem sizeN_le (s : Nat) : sizeN s ≤ 8 := by
  have := List.countP_le_length (p := fun i => s.testBit i) (l := List.range 8)
  simpa [sizeN] using this
theorem sizeN_bound : ∀ n : Fin 9, ∀ s : Fin 256, s.1 < 2 ^ n.1 → sizeN s.1 ≤ n.1 := by decide +kernel
theorem sets_mem {n s : Nat} (hn : n ≤ 8) (hs : s < 2 ^ n) : s ∈ setsL n := by
  have e : 2 ^ n ≤ 2 ^ 8 := Nat.pow_le_pow_right (by omega) hn
  have hb := sizeN_bound ⟨n, by omega⟩ ⟨s, by omega⟩ hs
  exact List.mem_of_getElem? (sets_at hb hs rfl)
/-- With all stations wrong the furrow can be straight. -/
theorem saved_all {l : List SpanD} {most : Int} (hm : 0 ≤ most) : savedB l most (2 ^ l.length - 1) = true := by
  have h : canMost (freedL l (2 ^ l.length - 1)) most = true := canMost_iff.2 ⟨List.replicate l.length 0, ⟨by simp [freedL_length], fun j hj => by
    rw [freedL_length] at hj
    have e1 : (freedL l (2 ^ l.length - 1)).getD j default = ⟨-12, 12⟩ := by
      rw [List.getD_eq_getElem?_getD, freedL_at hj]
      have : (2 ^ l.length - 1).testBit j = true := by rw [Nat.testBit_two_pow_sub_one]; simpa using hj
      simp [freedS, this]
    have e2 : (List.replicate l.length (0 : Int)).getD j 0 = 0 := by rw [List.getD_eq_getElem?_getD, List.getElem?_replicate]; split <;> rfl
    rw [e1, e2]
    exact ⟨by decide, by decide⟩⟩, fun k hk => by
      have e2 : ∀ j, (List.replicate l.length (0 : Int)).getD j 0 = 0 := fun j => by rw [List.getD_eq_getElem?_getD, List.getElem?_replicate]; split <;> rfl
      unfold bentT
      rw [e2, e2, e2]
      exact hm⟩
  exact h
/-- What the stations are that are told to be wrong. -/
theorem wrong_spec {f : FurrowD} (hv : ValidF f) {most : Int} (hm : 0 ≤ most) : ∃ s : Nat, wrongN f most = (s : Int) ∧ s < 2 ^ f.offs.length ∧ savedB f.offs most s = true ∧ ∃ A B, setsL f.offs.length = A ++ s :: B ∧ ∀ x ∈ A, savedB f.offs most x = false := by
  have hn := hv.len
  have hall := saved_all (l := f.offs) hm
  have hmem := sets_mem (s := 2 ^ f.offs.length - 1) hn (by have := Nat.two_pow_pos f.offs.length; omega)
  obtain ⟨s, hs⟩ : ∃ s, (setsL f.offs.length).find? (savedB f.offs most) = some s := by
    rw [← Option.isSome_iff_exists, List.find?_isSome]
    exact ⟨_, hmem, hall⟩
  obtain ⟨h1, A, B, h2, h3⟩ := List.find?_eq_some_iff_append.1 hs
  have hsm : s ∈ setsL f.offs.length := by rw [h2]; simp
  refine ⟨s, ?_, mem_setsU (Nat.zero_le _) hsm, h1, A, B, h2, fun x hx => by simpa using h3 x hx⟩
  unfold wrongN
  rw [List.find?_map]
  have : ((fun x : Int => savedB f.offs most x.toNat) ∘ fun (s : Nat) => (s : Int)) = savedB f.offs most := by funext x; simp
  rw [this, hs]
  rfl
theorem wrong_zero {f : FurrowD} (hv : ValidF f) {most : Int} (hm : 0 ≤ most) : wrongN f most = 0 ↔ (bendT f.offs).lo ≤ most := by
  obtain ⟨s, h1, h2, h3, A, B, h4, h5⟩ := wrong_spec hv hm
  obtain ⟨r, hr⟩ := setsL_head f.offs.length
  have h0 : savedB f.offs most 0 = canMost f.offs most := by unfold savedB; rw [freedL_none]; rfl
  rw [← canMost_bend hv.fine hm, ← h0, h1]
  constructor
  · intro h
    obtain rfl : s = 0 := by omega
    exact h3
  · intro h
    cases A with
    | nil =>
      rw [hr] at h4
      cases h4
      rfl
    | cons a A' =>
      rw [hr] at h4
      cases h4
      have := h5 0 (by simp)
      rw [h] at this
      cases this
theorem leL_at : ∀ {t u : List Int} {k : Nat}, leL t u → t.length = u.length → (∀ j, j < k → t.getD j 0 = u.getD j 0) → t.getD k 0 ≠ u.getD k 0 → t.getD k 0 < u.getD k 0
  | [], [], k, _, _, _, h => absurd rfl h
  | [], _ :: _, _, _, h, _, _ => by simp at h
  | _ :: _, [], _, h, _, _, _ => h.elim
  | x :: t, y :: u, 0, h, hl, _, hne => by
    simp only [List.getD_cons_zero] at hne ⊢
    rcases h with h | ⟨h, _⟩
    · exact h
    · exact absurd h hne
  | x :: t, y :: u, k + 1, h, hl, hj, hne => by
    have h0 := hj 0 (by omega)
    simp only [List.getD_cons_zero] at h0
    simp only [List.getD_cons_succ] at hne ⊢
    rcases h with h | ⟨_, h⟩
    · omega
    · exact leL_at h (by simpa using hl) (fun j hjk => by simpa using hj (j + 1) (by omega)) hne
theorem intsV_get {t : List Int} {k : Nat} (h : k < t.length) : (intsV t)[k]? = some (.int .i64 (t.getD k 0)) := by rw [intsV, List.getElem?_map, getI_some h]; rfl
theorem inn_small {f : FurrowD} (hv : ValidF f) {t : List Int} (ht : Inn f.offs t) : SmallL t := fun x hx => by
  obtain ⟨k, hk, rfl⟩ := List.getElem_of_mem hx
  have h1 := ht.2 k (by rw [← ht.1]; exact hk)
  have h2 := (hv.st (k := k) (by rw [← ht.1]; exact hk)).1
  have e : t.getD k 0 = t[k] := by rw [List.getD_eq_getElem?_getD, List.getElem?_eq_getElem hk]; rfl
  rw [e] at h1
  omega
theorem bendT_in {f : FurrowD} (hv : ValidF f) : 0 ≤ (bendT f.offs).lo ∧ (bendT f.offs).lo ≤ (bendT f.offs).hi ∧ (bendT f.offs).hi ≤ 4000 := by
  obtain ⟨h1, ⟨t, ht, h2⟩, _⟩ := bendT_spec hv.fine
  have := mostT_nonneg t
  have h3 := h1 t ht
  have h4 := (boundsN_in hv.fine (k := f.offs.length - 2) (by omega)).2
  unfold InB at h4
  have : (bendT f.offs).hi = (boundsN f.offs (f.offs.length - 2)).hi := rfl
  omega
set_option maxRecDepth 100000 in
set_option maxHeartbeats 4000000 in
theorem furrowStraight_any (f : FurrowD) (oa wa da : Option Addr) (oc wc dc : Nat) (ba : Option Addr) (m : List Int) (bc : Nat) (w : World) (hbnd : f.offs.length ≤ 9223372036854775807 ∧ f.wids.length ≤ 9223372036854775807 ∧ f.deps.length ≤ 9223372036854775807) (hf : FurrowAt w f oa wa da) (hby : U8At w ba m) (hbm : m.length ≤ 9223372036854775807) : Gives Try.prog 7 [furrowV f oa wa da oc wc dc, .slice ba m.length bc] w (.bool true) := by
  cases hh : heavyB f 8 6
  ·
    have h40 : ¬ 40 < lenM f := fun h => by unfold heavyB at hh; rw [if_pos h] at hh; cases hh
    have hm := lenM_lens h40
    cases hv : validB f
    ·
      refine .mk <| enter (n := 226) Try.func7 rfl rfl rfl (by repeat (first | exact Fill.nil | apply Fill.cons)) ?_
      refine cw_seq ?_
      refine cw_region ?_
      refine lstep rfl rfl rfl (run_boxN (.tmp rfl)) ?_
      intro b2 _
      refine lstepB rfl rfl rfl (run_assign .const) ?_
      refine lnil ?_
      refine xw_then ?_
      refine cw_seq ?_
      refine cw_seq ?_
      refine cw_region ?_
      refine lstepB rfl rfl rfl (run_loadN (.tmp rfl) kd24 sz24 (by repeat (first | exact List.Mem.head _ | apply List.Mem.tail)) (by repeat (first | exact Sub.done | apply Sub.take | apply Sub.skip))) ?_
      refine lstepB rfl rfl rfl (run_call1 cb12 (.cons (.tmp rfl) (.cons .const (.cons .const .nil))) (fun w2 hS => (heavyK f oa wa da oc wc dc 8 6 w2 hbnd (hf.kept hS.kept)).as (congrArg Value.bool hh))) ?_
      refine lnil ?_
      refine xw_then ?_
      refine cw_cond_false (.tmp rfl) ?_
      refine cw_skip ?_
      refine xw_then ?_
      refine cw_seq ?_
      refine cw_region ?_
      refine lstepB rfl rfl rfl (run_loadN (.tmp rfl) kd24 sz24 (by repeat (first | exact List.Mem.head _ | apply List.Mem.tail)) (by repeat (first | exact Sub.done | apply Sub.take | apply Sub.skip))) ?_
      refine lstepB rfl rfl rfl (run_call1 cb18 (.cons (.tmp rfl) .nil) (fun w2 hS => straightQ_bad f oa wa da oc wc dc w2 hm (hf.kept hS.kept) hv)) ?_
      refine lstepB rfl rfl rfl (run_move (.tmp rfl)) ?_
      refine lstepB rfl rfl rfl (run_extract (.tmp rfl) rfl) ?_
      refine lstepB rfl rfl rfl (run_extract (.tmp rfl) rfl) ?_
      refine lstepB rfl rfl rfl (run_assign (.tmp rfl)) ?_
      refine lstepB rfl rfl rfl (run_assign (.tmp rfl)) ?_
      refine lnil ?_
      refine xw_then ?_
      refine cw_seq ?_
      refine cw_region ?_
      refine lstepB rfl rfl rfl (run_loadN (.tmp rfl) kd24 sz24 (by repeat (first | exact List.Mem.head _ | apply List.Mem.tail)) (by repeat (first | exact Sub.done | apply Sub.take | apply Sub.skip))) ?_
      refine lstepB rfl rfl rfl (run_call1 cb14 (.cons (.tmp rfl) .nil) (fun w2 hS => (bendQ f oa wa da oc wc dc w2 hm (hf.kept hS.kept)).as (show _ = Value.tuple #[spanV ⟨0, 0⟩, .int .i64 1] from by rw [show bendR f = (⟨0, 0⟩, 1) by unfold bendR; rw [hv]; rfl]))) ?_
      refine lstepB rfl rfl rfl (run_move (.tmp rfl)) ?_
      refine lstepB rfl rfl rfl (run_extract (.tmp rfl) rfl) ?_
      refine lstepB rfl rfl rfl (run_extract (.tmp rfl) rfl) ?_
      refine lstep rfl rfl rfl (run_alloc zr28) ?_
      intro b7 _
      refine lstep0 rfl rfl (run_storeN (.tmp rfl) (.tmp rfl) rfl sz28 rfl (by repeat (first | exact Upd.here | apply Upd.there)) (by repeat (first | exact Put.done | apply Put.put | apply Put.skip))) ?_
      refine lstepB rfl rfl rfl (run_assign (.tmp rfl)) ?_
      refine lnil ?_
      refine xw_then ?_
      refine cw_seq ?_
      refine cw_seq ?_
      refine cw_region ?_
      refine lstepB rfl rfl rfl (run_move (.tmp rfl)) ?_
      refine lstepB rfl rfl rfl (run_neq (.tmp rfl) .const (by first | exact decide_eq_true (by omega) | exact decide_eq_false (by omega) | exact rfl)) ?_
      refine lstepB rfl rfl rfl (run_move (.tmp rfl)) ?_
      refine lskip rfl rfl rfl rfl rfl rfl rfl ?_
      refine lskip rfl rfl rfl rfl rfl rfl rfl ?_
      refine lskip rfl rfl rfl rfl rfl rfl rfl ?_
      refine lstepB rfl rfl rfl (by first | exact run_pick_true (.tmp rfl) .const | exact run_pick_false (.tmp rfl) (.tmp rfl)) ?_
      refine lnil ?_
      refine xw_then ?_
      refine cw_cond_true (.tmp rfl) ?_
      refine cw_seq ?_
      refine cw_region ?_
      refine lstepB rfl rfl rfl (run_move (.tmp rfl)) ?_
      refine lstepB rfl rfl rfl (run_eql (.tmp rfl) .const (by first | exact decide_eq_true (by omega) | exact decide_eq_false (by omega) | exact rfl)) ?_
      refine lstepB rfl rfl rfl (run_move (.tmp rfl)) ?_
      refine lyes rfl rfl rfl rfl ?_
      refine gstepB rfl rfl (run_move (.tmp rfl)) ?_
      refine lyes rfl rfl rfl rfl ?_
      refine gstepB rfl rfl (run_move (.tmp rfl)) ?_
      refine lyes rfl rfl rfl rfl ?_
      refine gstepB rfl rfl (run_eql (.tmp rfl) (.tmp rfl) (by first | exact decide_eq_true (by omega) | exact decide_eq_false (by omega) | exact rfl)) ?_
      refine lstepB rfl rfl rfl (by first | exact run_pick_true (.tmp rfl) (.tmp rfl) | exact run_pick_false (.tmp rfl) .const) ?_
      refine lstepB rfl rfl rfl (run_move (.tmp rfl)) ?_
      refine lyes rfl rfl rfl rfl ?_
      refine gstepB rfl rfl (run_move (.tmp rfl)) ?_
      refine lyes rfl rfl rfl rfl ?_
      refine gstepB rfl rfl (run_len (.tmp rfl) sl33) ?_
      refine lyes rfl rfl rfl rfl ?_
      refine gstepB rfl rfl (run_eql (.tmp rfl) .const (by first | exact decide_eq_true (by omega) | exact decide_eq_false (by omega) | exact rfl)) ?_
      refine lstepB rfl rfl rfl (by first | exact run_pick_true (.tmp rfl) (.tmp rfl) | exact run_pick_false (.tmp rfl) .const) ?_
      refine lstepB rfl rfl rfl (run_move (.tmp rfl)) ?_
      refine lyes rfl rfl rfl rfl ?_
      refine gstepB rfl rfl (run_loadN (.tmp rfl) kd28 sz28 (by repeat (first | exact List.Mem.head _ | apply List.Mem.tail)) (by repeat (first | exact Sub.done | apply Sub.take | apply Sub.skip))) ?_
      refine lyes rfl rfl rfl rfl ?_
      refine gstepB rfl rfl (run_build_at .nil (fun w => bd28_ w)) ?_
      refine lyes rfl rfl rfl rfl ?_
      refine gstepB rfl rfl (run_eql_agg (.tmp rfl) (.tmp rfl) eg28 (eql28 (by first | exact (show _ = true from by simp only [Bool.and_eq_true, decide_eq_true_eq]; omega) | exact (show _ = false from by simp only [Bool.and_eq_false_iff, decide_eq_false_iff_not]; omega) | exact rfl))) ?_
      refine lstepB rfl rfl rfl (by first | exact run_pick_true (.tmp rfl) (.tmp rfl) | exact run_pick_false (.tmp rfl) .const) ?_
      refine lstepB rfl rfl rfl (run_move (.tmp rfl)) ?_
      refine lyes rfl rfl rfl rfl ?_
      refine gstepB rfl rfl (run_loadN (.tmp rfl) kd24 sz24 (by repeat (first | exact List.Mem.head _ | apply List.Mem.tail)) (by repeat (first | exact Sub.done | apply Sub.take | apply Sub.skip))) ?_
      refine lyes rfl rfl rfl rfl ?_
      refine gstepB rfl rfl (run_call1 cb35 (.cons (.tmp rfl) .nil) (fun w2 hS => (rFurrowK f oa wa da oc wc dc w2 hm (hf.kept hS.kept)).as (congrArg Value.bool hv))) ?_
      refine lyes rfl rfl rfl rfl ?_
      refine gstepB rfl rfl (run_not (.tmp rfl) (by first | exact Bool.not_true | exact Bool.not_false | exact rfl)) ?_
      refine lstepB rfl rfl rfl (by first | exact run_pick_true (.tmp rfl) (.tmp rfl) | exact run_pick_false (.tmp rfl) .const) ?_
      refine lstepB rfl rfl rfl (run_move (.tmp rfl)) ?_
      refine lyes rfl rfl rfl rfl ?_
      refine gstepB rfl rfl (run_call1 cb13 .nil (fun w _ => aliveK w)) ?_
      refine lstepB rfl rfl rfl (by first | exact run_pick_true (.tmp rfl) (.tmp rfl) | exact run_pick_false (.tmp rfl) .const) ?_
      refine lstepB rfl rfl rfl (run_assign (.tmp rfl)) ?_
      refine lnil ?_
      refine xw_then ?_
      refine cw_ret ?_
      refine xw_then_ret ?_
      refine xw_ret1 Try.results7 rfl (fun w hS => ⟨rfl, hS.kept⟩)
    ·
      have hvf := validF hv
      have hn8 := hvf.len
      obtain ⟨t, hway, htI, htm, hfirst⟩ := straight_spec hvf.fine
      have htl := htI.1
      have hts := inn_small hvf htI
      have hbi := bendT_in hvf
      have hlm : lenM f = f.offs.length := by have h1 := hvf.wids; have h2 := hvf.deps; unfold lenM; omega
      refine .mk <| enter (n := 226) Try.func7 rfl rfl rfl (by repeat (first | exact Fill.nil | apply Fill.cons)) ?_
      refine cw_seq ?_
      refine cw_region ?_
      refine lstep rfl rfl rfl (run_boxN (.tmp rfl)) ?_
      intro b2 _
      refine lstepB rfl rfl rfl (run_assign .const) ?_
      refine lnil ?_
      refine xw_then ?_
      refine cw_seq ?_
      refine cw_seq ?_
      refine cw_region ?_
      refine lstepB rfl rfl rfl (run_loadN (.tmp rfl) kd24 sz24 (by repeat (first | exact List.Mem.head _ | apply List.Mem.tail)) (by repeat (first | exact Sub.done | apply Sub.take | apply Sub.skip))) ?_
      refine lstepB rfl rfl rfl (run_call1 cb12 (.cons (.tmp rfl) (.cons .const (.cons .const .nil))) (fun w2 hS => (heavyK f oa wa da oc wc dc 8 6 w2 hbnd (hf.kept hS.kept)).as (congrArg Value.bool hh))) ?_
      refine lnil ?_
      refine xw_then ?_
      refine cw_cond_false (.tmp rfl) ?_
      refine cw_skip ?_
      refine xw_then ?_
      refine cw_seq ?_
      refine cw_region ?_
      refine lstepB rfl rfl rfl (run_loadN (.tmp rfl) kd24 sz24 (by repeat (first | exact List.Mem.head _ | apply List.Mem.tail)) (by repeat (first | exact Sub.done | apply Sub.take | apply Sub.skip))) ?_
      refine lstep rfl rfl rfl (LR.runs (R := []) (A := []) (lr_gives cb18 (.cons (.tmp rfl) .nil) (fun w2 hS => straightQ_ok f oa wa da oc wc dc w2 hm (hf.kept hS.kept) hv)) (by repeat (first | exact Pick.nil | (apply Pick.cons; focus (repeat (first | exact Del.here | apply Del.there))))) (by repeat (first | exact Dels.nil | (apply Dels.cons; focus (repeat (first | exact Del.here | apply Del.there)))))) ?_
      intro ⟨gO, o2⟩ hO
      dsimp only at hO ⊢
      obtain rfl := hO.2 _ hway
      refine lstepB rfl rfl rfl (run_move (.tmp rfl)) ?_
      refine lstepB rfl rfl rfl (run_extract (.tmp rfl) rfl) ?_
      refine lstepB rfl rfl rfl (run_extract (.tmp rfl) rfl) ?_
      refine lstepB rfl rfl rfl (run_assign (.tmp rfl)) ?_
      refine lstepB rfl rfl rfl (run_assign (.tmp rfl)) ?_
      refine lnil ?_
      refine xw_then ?_
      refine cw_seq ?_
      refine cw_region ?_
      refine lstepB rfl rfl rfl (run_loadN (.tmp rfl) kd24 sz24 (by repeat (first | exact List.Mem.head _ | apply List.Mem.tail)) (by repeat (first | exact Sub.done | apply Sub.take | apply Sub.skip))) ?_
      refine lstepB rfl rfl rfl (run_call1 cb14 (.cons (.tmp rfl) .nil) (fun w2 hS => (bendQ f oa wa da oc wc dc w2 hm (hf.kept hS.kept)).as (show _ = Value.tuple #[spanV (bendT f.offs), .int .i64 0] from by rw [show bendR f = (bendT f.offs, 0) by unfold bendR; rw [hv]; rfl]))) ?_
      refine lstepB rfl rfl rfl (run_move (.tmp rfl)) ?_
      refine lstepB rfl rfl rfl (run_extract (.tmp rfl) rfl) ?_
      refine lstepB rfl rfl rfl (run_extract (.tmp rfl) rfl) ?_
      refine lstep rfl rfl rfl (run_alloc zr28) ?_
      intro b7 _
      refine lstep0 rfl rfl (run_storeN (.tmp rfl) (.tmp rfl) rfl sz28 rfl (by repeat (first | exact Upd.here | apply Upd.there)) (by repeat (first | exact Put.done | apply Put.put | apply Put.skip))) ?_
      refine lstepB rfl rfl rfl (run_assign (.tmp rfl)) ?_
      refine lnil ?_
      refine xw_then ?_
      refine cw_seq ?_
      refine cw_seq ?_
      refine cw_region ?_
      refine lstepB rfl rfl rfl (run_move (.tmp rfl)) ?_
      refine lstepB rfl rfl rfl (run_neq (.tmp rfl) .const (by first | exact decide_eq_true (by omega) | exact decide_eq_false (by omega) | exact rfl)) ?_
      refine lstepB rfl rfl rfl (run_move (.tmp rfl)) ?_
      refine lyes rfl rfl rfl rfl ?_
      refine gstepB rfl rfl (run_loadN (.tmp rfl) kd24 sz24 (by repeat (first | exact List.Mem.head _ | apply List.Mem.tail)) (by repeat (first | exact Sub.done | apply Sub.take | apply Sub.skip))) ?_
      refine lyes rfl rfl rfl rfl ?_
      refine gstepB rfl rfl (run_call1 cb35 (.cons (.tmp rfl) .nil) (fun w2 hS => (rFurrowK f oa wa da oc wc dc w2 hm (hf.kept hS.kept)).as (congrArg Value.bool hv))) ?_
      refine lyes rfl rfl rfl rfl ?_
      refine gstepB rfl rfl (run_not (.tmp rfl) (by first | exact Bool.not_true | exact Bool.not_false | exact rfl)) ?_
      refine lstepB rfl rfl rfl (by first | exact run_pick_true (.tmp rfl) .const | exact run_pick_false (.tmp rfl) (.tmp rfl)) ?_
      refine lnil ?_
      refine xw_then ?_
      refine cw_cond_false (.tmp rfl) ?_
      refine cw_skip ?_
      refine xw_then ?_
      refine cw_seq ?_
      refine cw_seq ?_
      rw [← htl]
      refine cw_chain2 (σ := [0, 1, 2, 3, 4, 5, 6, 7, 8, 9, 10, 11, 12, 13, 14, 15, 16, 17, 18, 19, 20, 21, 22, 23, 24, 25, 26, 27, 28]) [⟨0, [], [], [], 0⟩, ⟨0, [], [], [], 1⟩, ⟨0, [], [], [], 3⟩, ⟨0, [], [], [], 7⟩, ⟨0, [], [], [], 15⟩, ⟨0, [], [], [], 7⟩, ⟨0, [2], [], [], 39⟩, ⟨0, [], [], [], 103⟩, ⟨0, [], [], [], 255⟩, ⟨0, [], [], [], 511⟩, ⟨0, [], [], [], 1023⟩, ⟨0, [], [], [], 2047⟩, ⟨0, [1], [], [], 4095⟩, ⟨0, [], [], [], 2047⟩, ⟨0, [0], [], [], 10239⟩, ⟨0, [], [], [], 32767⟩, ⟨0, [], [], [], 65535⟩, ⟨0, [], [], [], 131071⟩, ⟨0, [], [], [], 262143⟩, ⟨0, [0], [], [], 524287⟩, ⟨0, [], [], [], 1048575⟩, ⟨0, [], [], [], 2097151⟩, ⟨0, [], [], [], 4194303⟩, ⟨0, [], [], [], 8388607⟩, ⟨0, [0], [], [], 16777215⟩, ⟨0, [], [], [], 8388607⟩, ⟨0, [0], [], [], 41943039⟩, ⟨0, [], [], [], 134217727⟩, ⟨0, [], [], [], 268435455⟩] [(0, _), (1, _), (2, _)] (by kernel_rfl) (by kernel_rfl) rfl ?_
      refine .det (B := []) rfl rfl (.inl rfl) .nil .nil rfl (RunB.lr (run_move (.tmp rfl))) ?_
      refine .det (B := []) rfl rfl (.inl rfl) .nil .nil rfl (RunB.lr (run_neq (.tmp rfl) .const (decide_eq_false (by omega)))) ?_
      refine .det (B := []) rfl rfl (.inl rfl) .nil .nil rfl (RunB.lr (run_move (.tmp rfl))) ?_
      refine .det (B := []) rfl rfl (.inr ⟨_, _, _, rfl, rfl, rfl⟩) .nil .nil rfl (RunB.lr (run_move (.tmp rfl))) ?_
      refine .det (B := []) rfl rfl (.inr ⟨_, _, _, rfl, rfl, rfl⟩) .nil .nil rfl (RunB.lr (run_len (.tmp rfl) sl33)) ?_
      refine .det (B := []) rfl rfl (.inr ⟨_, _, _, rfl, rfl, rfl⟩) .nil .nil rfl (RunB.lr (run_fieldAddr (.tmp rfl) fa24_0 (by first | exact Nat.zero_add _ | exact rfl))) ?_
      refine .det (B := []) rfl rfl (.inr ⟨_, _, _, rfl, rfl, rfl⟩) (.cons rfl .nil) .nil rfl (RunB.lr (run_load1 (.tmp rfl) kd22 (by repeat (first | exact List.Mem.head _ | apply List.Mem.tail)) (by exact rfl))) ?_
      refine .det (B := []) rfl rfl (.inr ⟨_, _, _, rfl, rfl, rfl⟩) .nil .nil rfl (RunB.lr (run_len (.tmp rfl) sl22)) ?_
      refine .det (B := []) rfl rfl (.inr ⟨_, _, _, rfl, rfl, rfl⟩) .nil .nil rfl (RunB.lr (run_neq (.tmp rfl) (.tmp rfl) (decide_eq_false (by omega)))) ?_
      refine .det (B := []) rfl rfl (.inl rfl) .nil .nil rfl (RunB.lr (by first | exact run_pick_true (.tmp rfl) .const | exact run_pick_false (.tmp rfl) (.tmp rfl))) ?_
      refine .det (B := []) rfl rfl (.inl rfl) .nil .nil rfl (RunB.lr (run_move (.tmp rfl))) ?_
      refine .det (B := []) rfl rfl (.inr ⟨_, _, _, rfl, rfl, rfl⟩) .nil .nil rfl (RunB.lr (run_move (.tmp rfl))) ?_
      refine .det (B := []) rfl rfl (.inr ⟨_, _, _, rfl, rfl, rfl⟩) (.cons rfl .nil) .nil rfl (RunB.lr (run_call1 cb32 (.cons (.tmp rfl) .nil) (fun w2 hS => rmostK o2 (by omega) hts _ _ w2 (intsAt_cells (hS.mem (b := gO) (by repeat (first | exact List.Mem.head _ | apply List.Mem.tail))))))) ?_
      refine .det (B := []) rfl rfl (.inr ⟨_, _, _, rfl, rfl, rfl⟩) .nil .nil rfl (RunB.lr (run_fieldAddr (.tmp rfl) fa28_0 (by first | exact Nat.zero_add _ | exact rfl))) ?_
      refine .det (B := []) rfl rfl (.inr ⟨_, _, _, rfl, rfl, rfl⟩) (.cons rfl .nil) .nil rfl (RunB.lr (run_load1 (.tmp rfl) kd3 (by repeat (first | exact List.Mem.head _ | apply List.Mem.tail)) (by exact rfl))) ?_
      refine .det (B := []) rfl rfl (.inr ⟨_, _, _, rfl, rfl, rfl⟩) .nil .nil rfl (RunB.lr (run_neq (.tmp rfl) (.tmp rfl) (decide_eq_false (by omega)))) ?_
      refine .det (B := []) rfl rfl (.inl rfl) .nil .nil rfl (RunB.lr (by first | exact run_pick_true (.tmp rfl) .const | exact run_pick_false (.tmp rfl) (.tmp rfl))) ?_
      refine .det (B := []) rfl rfl (.inl rfl) .nil .nil rfl (RunB.lr (run_move (.tmp rfl))) ?_
      refine .det (B := []) rfl rfl (.inr ⟨_, _, _, rfl, rfl, rfl⟩) .nil .nil rfl (RunB.lr (run_fieldAddr (.tmp rfl) fa28_0 (by first | exact Nat.zero_add _ | exact rfl))) ?_
      refine .det (B := []) rfl rfl (.inr ⟨_, _, _, rfl, rfl, rfl⟩) (.cons rfl .nil) .nil rfl (RunB.lr (run_load1 (.tmp rfl) kd3 (by repeat (first | exact List.Mem.head _ | apply List.Mem.tail)) (by exact rfl))) ?_
      refine .det (B := []) rfl rfl (.inr ⟨_, _, _, rfl, rfl, rfl⟩) .nil .nil rfl (RunB.lr (run_lss (.tmp rfl) .const (by first | exact decide_eq_true (by omega) | exact decide_eq_false (by omega) | exact rfl))) ?_
      refine .det (B := []) rfl rfl (.inl rfl) .nil .nil rfl (RunB.lr (by first | exact run_pick_true (.tmp rfl) .const | exact run_pick_false (.tmp rfl) (.tmp rfl))) ?_
      refine .det (B := []) rfl rfl (.inl rfl) .nil .nil rfl (RunB.lr (run_move (.tmp rfl))) ?_
      refine .det (B := []) rfl rfl (.inr ⟨_, _, _, rfl, rfl, rfl⟩) .nil .nil rfl (RunB.lr (run_fieldAddr (.tmp rfl) fa28_0 (by first | exact Nat.zero_add _ | exact rfl))) ?_
      refine .det (B := []) rfl rfl (.inr ⟨_, _, _, rfl, rfl, rfl⟩) (.cons rfl .nil) .nil rfl (RunB.lr (run_load1 (.tmp rfl) kd3 (by repeat (first | exact List.Mem.head _ | apply List.Mem.tail)) (by exact rfl))) ?_
      refine .det (B := []) rfl rfl (.inr ⟨_, _, _, rfl, rfl, rfl⟩) .nil .nil rfl (RunB.lr (run_fieldAddr (.tmp rfl) fa28_1 (by first | exact Nat.zero_add _ | exact rfl))) ?_
      refine .det (B := []) rfl rfl (.inr ⟨_, _, _, rfl, rfl, rfl⟩) (.cons rfl .nil) .nil rfl (RunB.lr (run_load1 (.tmp rfl) kd3 (by repeat (first | exact List.Mem.head _ | apply List.Mem.tail)) (by exact rfl))) ?_
      refine .det (B := []) rfl rfl (.inr ⟨_, _, _, rfl, rfl, rfl⟩) .nil .nil rfl (RunB.lr (run_gtr (.tmp rfl) (.tmp rfl) (by first | exact decide_eq_true (by omega) | exact decide_eq_false (by omega) | exact rfl))) ?_
      refine .det (B := []) rfl rfl (.inl rfl) .nil .nil rfl (RunB.lr (by first | exact run_pick_true (.tmp rfl) .const | exact run_pick_false (.tmp rfl) (.tmp rfl))) ?_
      refine chain_nil (ts := [0, 1, 2]) (.cons rfl (.cons rfl (.cons rfl .nil))) (by decide) ?_
      refine xw_then ?_
      refine cw_cond_false (.tmp rfl) ?_
      refine cw_skip ?_
      refine xw_then ?_
      refine cw_seq ?_
      refine cw_region ?_
      refine lstepB rfl rfl rfl (run_move (.tmp rfl)) ?_
      refine lstepB rfl rfl rfl (run_len (.tmp rfl) sl33) ?_
      refine lstep rfl rfl rfl (LR.runs (R := []) (A := []) (lr_makeInts (.tmp rfl) (.tmp rfl) (by omega)) (by repeat (first | exact Pick.nil | (apply Pick.cons; focus (repeat (first | exact Del.here | apply Del.there))))) (by repeat (first | exact Dels.nil | (apply Dels.cons; focus (repeat (first | exact Del.here | apply Del.there)))))) ?_
      intro b94 _
      refine lstepB rfl rfl rfl (run_assign (.tmp rfl)) ?_
      refine lnil ?_
      refine xw_then ?_
      refine cw_seq ?_
      refine cw_seq ?_
      refine cw_region ?_
      refine lstepB rfl rfl rfl (run_move (.tmp rfl)) ?_
      refine lstepB rfl rfl rfl (run_len (.tmp rfl) sl33) ?_
      refine lstepB rfl rfl rfl (run_move .const) ?_
      refine lnil ?_
      refine xw_then ?_
      refine cw_block ?_
      refine cw_loop (S := Nat × List Int) (fun st => [(97, .int .i64 ((st.1 : Nat) : Int))]) [(1, _), (2, _), (5, _), (7, _), (9, _), (95, _), (96, _)] (fun st => (b94, Obj.cells (intsV st.2).toArray 3 (0, 0)) :: (gO, Obj.cells (intsV o2).toArray 3 (0, 0)) :: (b7, Obj.cells (spanC (bendT f.offs)).toArray 28 (0, 0)) :: (b2, Obj.cells (furrowC f oa wa da oc wc dc).toArray 24 (0, 0)) :: []) (fun st => st.1 ≤ o2.length ∧ st.2.length = o2.length ∧ ∀ j, j < st.1 → (f.offs.getD j default).lo ≤ st.2.getD j 0 ∧ st.2.getD j 0 ≤ (f.offs.getD j default).hi) (fun st => o2.length - st.1) (0, List.replicate o2.length 0) ⟨Nat.zero_le _, List.length_replicate, fun j h => absurd h (Nat.not_lt_zero j)⟩ (by repeat (first | exact Less.nil | refine Less.cons rfl ?_)) (by repeat (first | exact Pick.nil | (apply Pick.cons; focus (repeat (first | exact Del.here | apply Del.there))))) ?_
      intro st hs
      obtain ⟨k, s⟩ := st
      obtain ⟨hk, hsl, hsi⟩ := hs
      dsimp only at hk hsl hsi ⊢
      refine cw_seq ?_
      refine cw_region ?_
      refine lstepB rfl rfl rfl (run_lss (.tmp rfl) (.tmp rfl) rfl) ?_
      refine lnil ?_
      refine xw_then ?_
      refine cw_seq ?_
      refine cw_cond_p (.tmp rfl) (fun hl => ?_) (fun hl => ?_)
      ·
        have hkn : k < f.offs.length := by omega
        have hsk := getD_some (l := f.offs) hkn
        obtain ⟨b, o, hoa, hb, hc⟩ := hf.offs.span (by omega)
        subst hoa
        obtain ⟨sp, hsp⟩ : ∃ sp, sp = f.offs.getD k default := ⟨_, rfl⟩
        rw [← hsp] at hsk
        have hst := (hvf.st hkn).1
        rw [← hsp] at hst
        have htk := htI.2 k hkn
        rw [← hsp] at htk
        have hin : insideB (o2.getD k 0) sp = true := by simp only [insideB, Bool.and_eq_true, decide_eq_true_eq]; exact htk
        have hput := put_int s k sp.lo (by omega)
        refine cw_skip ?_
        refine xw_then ?_
        refine cw_seq ?_
        refine cw_block ?_
        refine cw_seq ?_
        refine cw_region ?_
        refine lstepB rfl rfl rfl (run_move (.tmp rfl)) ?_
        refine lstepB rfl rfl rfl (run_indexAddr (i := k) (off' := 0 + k) (.tmp rfl) (.tmp rfl) el33 (by omega) (by rw [Nat.mul_one])) ?_
        refine lstepB rfl rfl rfl (run_load1 (.tmp rfl) kd3 (by repeat (first | exact List.Mem.head _ | apply List.Mem.tail)) (by rw [Nat.zero_add]; exact intsV_get (by omega))) ?_
        refine lstepB rfl rfl rfl (run_assign (.tmp rfl)) ?_
        refine lstepB rfl rfl rfl (run_assign (.tmp rfl)) ?_
        refine lnil ?_
        refine xw_then ?_
        refine cw_seq ?_
        refine cw_seq ?_
        refine cw_region ?_
        refine lstepB rfl rfl rfl (run_move (.tmp rfl)) ?_
        refine lstepB rfl rfl rfl (run_fieldAddr (.tmp rfl) fa24_0 (by first | exact Nat.zero_add _ | exact rfl)) ?_
        refine lstepB rfl rfl rfl (run_load1 (.tmp rfl) kd22 (by repeat (first | exact List.Mem.head _ | apply List.Mem.tail)) (by exact rfl)) ?_
        refine lstepB rfl rfl rfl (run_move (.tmp rfl)) ?_
        refine lstepB rfl rfl rfl (run_indexAddr (i := k) (off' := o + k * 2) (.tmp rfl) (.tmp rfl) el22 (by omega) rfl) ?_
        refine lstepB rfl rfl rfl (run_loadN_at (l := spanC sp) (.tmp rfl) kd28 sz28 rfl (fun w' hS j v hj => hS.old_cell (fun h => h) (hc k sp hsk j v hj))) ?_
        refine lstepB rfl rfl rfl (run_call1 cb33 (.cons (.tmp rfl) (.cons (.tmp rfl) .nil)) (fun w2 _ => (insideK _ sp w2).as (congrArg Value.bool hin))) ?_
        refine lstepB rfl rfl rfl (run_not (.tmp rfl) (by first | exact Bool.not_true | exact Bool.not_false | exact rfl)) ?_
        refine lnil ?_
        refine xw_then ?_
        refine cw_cond_false (.tmp rfl) ?_
        refine cw_skip ?_
        refine xw_then ?_
        refine cw_seq ?_
        refine cw_region ?_
        refine lstepB rfl rfl rfl (run_move (.tmp rfl)) ?_
        refine lstepB rfl rfl rfl (run_move (.tmp rfl)) ?_
        refine lstepB rfl rfl rfl (run_fieldAddr (.tmp rfl) fa24_0 (by first | exact Nat.zero_add _ | exact rfl)) ?_
        refine lstepB rfl rfl rfl (run_load1 (.tmp rfl) kd22 (by repeat (first | exact List.Mem.head _ | apply List.Mem.tail)) (by exact rfl)) ?_
        refine lstepB rfl rfl rfl (run_move (.tmp rfl)) ?_
        refine lstepB rfl rfl rfl (run_indexAddr (i := k) (off' := o + k * 2) (.tmp rfl) (.tmp rfl) el22 (by omega) rfl) ?_
        refine lstepB rfl rfl rfl (run_fieldAddr (.tmp rfl) fa28_0 (by first | exact Nat.zero_add _ | exact rfl)) ?_
        refine lstepB rfl rfl rfl (run_load1_at (.tmp rfl) kd3 (fun w' hS => hS.old_cell (fun h => h) (hc k sp hsk 0 _ rfl))) ?_
        refine lstepB rfl rfl rfl (run_indexAddr (i := k) (off' := k) (.tmp rfl) (.tmp rfl) el33 (by omega) (by rw [Nat.mul_one, Nat.zero_add])) ?_
        refine lstep0 rfl rfl (run_store1 (.tmp rfl) (.tmp rfl) rfl sz3 (by repeat (first | exact Upd.here | apply Upd.there)) hput) ?_
        refine lnil ?_
        refine xw_then ?_
        refine cw_seq ?_
        refine cw_region ?_
        refine lstepB rfl rfl rfl (run_move (.tmp rfl)) ?_
        refine lstepB rfl rfl rfl (run_len (.tmp rfl) sl52) ?_
        refine lstepB rfl rfl rfl (run_gtr (.tmp rfl) .const rfl) ?_
        refine lnil ?_
        refine xw_then ?_
        refine cw_cond_p (.tmp rfl) (fun hm0 => ?_) (fun hm0 => ?_)
        ·
          obtain ⟨x, hx⟩ : ∃ x, m[k % m.length]? = some x := ⟨_, List.getElem?_eq_getElem (Nat.mod_lt _ (by omega))⟩
          obtain ⟨pb, po, rfl, hpb, hx1, hx2⟩ := hby.row _ x hx
          have hr0 := Int.emod_nonneg x (show sp.hi - sp.lo + 1 ≠ 0 by omega)
          have hr1 := Int.emod_lt_of_pos x (show 0 < sp.hi - sp.lo + 1 by omega)
          have hput2 := put_int (s.set k sp.lo) k (sp.lo + x % (sp.hi - sp.lo + 1)) (by rw [List.length_set]; omega)
          have hml : k % m.length < m.length := Nat.mod_lt _ (by omega)
          refine cw_chain2 (σ := [0, 1, 2, 3, 4, 5, 6, 7, 8, 9, 10, 11, 12, 13, 14, 15, 16, 17, 18, 19, 20, 21, 22, 23, 24, 25, 26, 27, 28, 29]) [⟨0, [], [], [], 0⟩, ⟨0, [], [], [], 0⟩, ⟨0, [], [], [], 3⟩, ⟨0, [0], [], [], 7⟩, ⟨0, [], [], [], 0⟩, ⟨0, [], [], [], 0⟩, ⟨0, [], [], [], 0⟩, ⟨0, [], [], [], 64⟩, ⟨0, [], [], [], 224⟩, ⟨0, [], [], [], 496⟩, ⟨0, [], [], [], 1008⟩, ⟨0, [], [], [], 2032⟩, ⟨0, [], [], [], 0⟩, ⟨0, [3], [], [], 4096⟩, ⟨0, [], [], [], 0⟩, ⟨0, [], [], [], 28672⟩, ⟨0, [], [], [], 61440⟩, ⟨0, [], [], [], 126976⟩, ⟨0, [], [], [], 0⟩, ⟨0, [3], [], [], 262144⟩, ⟨0, [], [], [], 0⟩, ⟨0, [], [], [], 1835008⟩, ⟨0, [], [], [], 3932160⟩, ⟨0, [], [], [], 8126464⟩, ⟨0, [], [], [], 16773120⟩, ⟨0, [], [], [], 33550336⟩, ⟨0, [], [], [], 67108848⟩, ⟨0, [], [], [], 134217727⟩, ⟨0, [], [], [], 268435455⟩, ⟨0, [], [0], [0], 536870911⟩] [(0, _), (1, _), (2, _), (3, _)] (by kernel_rfl) (by kernel_rfl) rfl ?_
          refine .det (B := []) rfl rfl (.inl rfl) .nil .nil rfl (RunB.lr (run_move (.tmp rfl))) ?_
          refine .det (B := []) rfl rfl (.inl rfl) .nil .nil rfl (RunB.lr (run_move (.tmp rfl))) ?_
          refine .det (B := []) rfl rfl (.inl rfl) .nil .nil rfl (RunB.lr (run_indexAddr (i := k) (off' := k) (.tmp rfl) (.tmp rfl) el33 (by omega) (by rw [Nat.mul_one, Nat.zero_add]))) ?_
          refine .det (B := []) rfl rfl (.inl rfl) (.cons rfl .nil) .nil rfl (RunB.lr (run_load1 (v := .int .i64 sp.lo) (.tmp rfl) kd3 (by repeat (first | exact List.Mem.head _ | apply List.Mem.tail)) (by have e := intsV_get (t := s.set k sp.lo) (k := k) (by rw [List.length_set]; omega); rw [getD_set (by omega), if_pos rfl] at e; exact e))) ?_
          refine .det (B := []) rfl rfl (.inl rfl) .nil .nil rfl (RunB.lr (run_move (.tmp rfl))) ?_
          refine .det (B := []) rfl rfl (.inl rfl) .nil .nil rfl (RunB.lr (run_move (.tmp rfl))) ?_
          refine .det (B := []) rfl rfl (.inl rfl) .nil .nil rfl (RunB.lr (run_move (.tmp rfl))) ?_
          refine .det (B := []) rfl rfl (.inl rfl) .nil .nil rfl (RunB.lr (run_len (.tmp rfl) sl52)) ?_
          refine .det (B := []) rfl rfl (.inl rfl) .nil .nil rfl (RunB.lr (run_rem_nat (a := k) (b := m.length) (.tmp rfl) (.tmp rfl) (by omega))) ?_
          refine .det (B := []) rfl rfl (.inl rfl) .nil .nil rfl (RunB.lr (run_indexAddr (i := k % m.length) (off' := po + k % m.length) (.tmp rfl) (.tmp rfl) el52 (by omega) (by rw [Nat.mul_one]))) ?_
          refine .det (B := []) rfl rfl (.inl rfl) .nil .nil rfl (RunB.lr (run_load1_at (v := .int .u8 x) (.tmp rfl) kd5 (fun w' hS => hS.old_cell (fun h => h) hx2))) ?_
          refine .det (B := []) rfl rfl (.inl rfl) .nil .nil rfl (RunB.lr (run_convert_at (.tmp rfl) (fun w => cv5_3 (c := x) (IntWalk.i64_in _ (by omega)) w))) ?_
          refine .det (B := []) rfl rfl (.inl rfl) .nil .nil rfl (RunB.lr (run_fieldAddr (.tmp rfl) fa24_0 (by first | exact Nat.zero_add _ | exact rfl))) ?_
          refine .det (B := []) rfl rfl (.inl rfl) (.cons rfl .nil) .nil rfl (RunB.lr (run_load1 (.tmp rfl) kd22 (by repeat (first | exact List.Mem.head _ | apply List.Mem.tail)) (by exact rfl))) ?_
          refine .det (B := []) rfl rfl (.inl rfl) .nil .nil rfl (RunB.lr (run_move (.tmp rfl))) ?_
          refine .det (B := []) rfl rfl (.inl rfl) .nil .nil rfl (RunB.lr (run_indexAddr (i := k) (off' := o + k * 2) (.tmp rfl) (.tmp rfl) el22 (by omega) rfl)) ?_
          refine .det (B := []) rfl rfl (.inl rfl) .nil .nil rfl (RunB.lr (run_fieldAddr (.tmp rfl) fa28_1 (by first | exact Nat.zero_add _ | exact rfl))) ?_
          refine .det (B := []) rfl rfl (.inl rfl) .nil .nil rfl (RunB.lr (run_load1_at (.tmp rfl) kd3 (fun w' hS => hS.old_cell (fun h => h) (hc k sp hsk 1 _ rfl)))) ?_
          refine .det (B := []) rfl rfl (.inl rfl) .nil .nil rfl (RunB.lr (run_fieldAddr (.tmp rfl) fa24_0 (by first | exact Nat.zero_add _ | exact rfl))) ?_
          refine .det (B := []) rfl rfl (.inl rfl) (.cons rfl .nil) .nil rfl (RunB.lr (run_load1 (.tmp rfl) kd22 (by repeat (first | exact List.Mem.head _ | apply List.Mem.tail)) (by exact rfl))) ?_
          refine .det (B := []) rfl rfl (.inl rfl) .nil .nil rfl (RunB.lr (run_move (.tmp rfl))) ?_
          refine .det (B := []) rfl rfl (.inl rfl) .nil .nil rfl (RunB.lr (run_indexAddr (i := k) (off' := o + k * 2) (.tmp rfl) (.tmp rfl) el22 (by omega) rfl)) ?_
          refine .det (B := []) rfl rfl (.inl rfl) .nil .nil rfl (RunB.lr (run_fieldAddr (.tmp rfl) fa28_0 (by first | exact Nat.zero_add _ | exact rfl))) ?_
          refine .det (B := []) rfl rfl (.inl rfl) .nil .nil rfl (RunB.lr (run_load1_at (.tmp rfl) kd3 (fun w' hS => hS.old_cell (fun h => h) (hc k sp hsk 0 _ rfl)))) ?_
          refine .det (B := []) rfl rfl (.inl rfl) .nil .nil rfl (RunB.lr (run_sub (.tmp rfl) (.tmp rfl) (by first | exact IntWalk.i64_in _ (by omega) | exact rfl))) ?_
          refine .det (B := []) rfl rfl (.inl rfl) .nil .nil rfl (RunB.lr (run_add (.tmp rfl) .const (by first | exact IntWalk.i64_in _ (by omega) | exact rfl))) ?_
          refine .det (B := []) rfl rfl (.inl rfl) .nil .nil rfl (RunB.lr (run_rem (.tmp rfl) (.tmp rfl) (by omega) (by omega))) ?_
          refine .det (B := []) rfl rfl (.inl rfl) .nil .nil rfl (RunB.lr (run_add (.tmp rfl) (.tmp rfl) (by first | exact IntWalk.i64_in _ (by omega) | exact rfl))) ?_
          refine .det (B := []) rfl rfl (.inl rfl) .nil .nil rfl (RunB.lr (run_indexAddr (i := k) (off' := k) (.tmp rfl) (.tmp rfl) el33 (by omega) (by rw [Nat.mul_one, Nat.zero_add]))) ?_
          refine .det (B := [(0, (_, _))]) rfl rfl (.inl rfl) .nil (.cons rfl .nil) rfl (lr_store1 (.tmp rfl) (.tmp rfl) rfl sz3 hput2) ?_
          refine chain_nil (ts := [0, 1, 2, 3]) (.cons rfl (.cons rfl (.cons rfl (.cons rfl .nil)))) (by decide) ?_
          refine xw_in ?_
          refine xw_then ?_
          refine cw_region ?_
          refine lstepB rfl rfl rfl (run_add (.tmp rfl) .const (by first | exact IntWalk.i64_in _ (by omega) | exact rfl)) ?_
          refine lstepB rfl rfl rfl (run_move (.tmp rfl)) ?_
          refine lnil ?_
          exact xw_round (k + 1, (s.set k sp.lo).set k (sp.lo + x % (sp.hi - sp.lo + 1))) ⟨by simp only; omega, by simp only [List.length_set]; exact hsl, fun j hj => by
                                                  rw [getD_set (by rw [List.length_set]; omega), getD_set (by omega)]
                                                  split
                                                  · subst_vars; omega
                                                  · exact hsi j (by omega)⟩ (by show o2.length - (k + 1) < o2.length - k; omega) (by repeat (first | exact Less.nil | refine Less.cons rfl ?_)) (by repeat (first | exact Pick.nil | (apply Pick.cons; focus (repeat (first | exact Del.here | apply Del.there)))))
        ·
          refine cw_skip ?_
          refine xw_in ?_
          refine xw_then ?_
          refine cw_region ?_
          refine lstepB rfl rfl rfl (run_add (.tmp rfl) .const (by first | exact IntWalk.i64_in _ (by omega) | exact rfl)) ?_
          refine lstepB rfl rfl rfl (run_move (.tmp rfl)) ?_
          refine lnil ?_
          exact xw_round (k + 1, s.set k sp.lo) ⟨by simp only; omega, by simp only [List.length_set]; exact hsl, fun j hj => by
                                                  rw [getD_set (by omega)]
                                                  split
                                                  · subst_vars; omega
                                                  · exact hsi j (by omega)⟩ (by show o2.length - (k + 1) < o2.length - k; omega) (by repeat (first | exact Less.nil | refine Less.cons rfl ?_)) (by repeat (first | exact Pick.nil | (apply Pick.cons; focus (repeat (first | exact Del.here | apply Del.there)))))
      ·
        obtain rfl : k = o2.length := by omega
        have hsI : Inn f.offs s := ⟨by omega, fun j hj => hsi j (by omega)⟩
        have hss := inn_small hvf hsI
        have hmb := (bendT_spec hvf.fine).1 s hsI
        refine cw_exit ?_
        refine xw_then_exit ?_
        refine xw_then_exit ?_
        refine xw_in_exit ?_
        refine xw_then ?_
        refine cw_seq ?_
        refine cw_region ?_
        refine lstepB rfl rfl rfl (run_loadN (.tmp rfl) kd24 sz24 (by repeat (first | exact List.Mem.head _ | apply List.Mem.tail)) (by repeat (first | exact Sub.done | apply Sub.take | apply Sub.skip))) ?_
        refine lstepB rfl rfl rfl (run_fieldAddr (.tmp rfl) fa28_0 (by first | exact Nat.zero_add _ | exact rfl)) ?_
        refine lstepB rfl rfl rfl (run_load1 (.tmp rfl) kd3 (by repeat (first | exact List.Mem.head _ | apply List.Mem.tail)) (by exact rfl)) ?_
        refine lstepB rfl rfl rfl (run_call1 cb23 (.cons (.tmp rfl) (.cons (.tmp rfl) .nil)) (fun w2 hS => (wrongQ f oa wa da oc wc dc (bendT f.offs).lo w2 hm (hf.kept hS.kept)).as (show _ = Value.tuple #[.int .i64 0, .int .i64 0] from by rw [show wrongR f (bendT f.offs).lo = (0, 0) by unfold wrongR; rw [hv, if_pos rfl, if_pos hbi.1, (wrong_zero hvf hbi.1).2 (Int.le_refl _)]]))) ?_
        refine lstepB rfl rfl rfl (run_move (.tmp rfl)) ?_
        refine lstepB rfl rfl rfl (run_extract (.tmp rfl) rfl) ?_
        refine lstepB rfl rfl rfl (run_extract (.tmp rfl) rfl) ?_
        refine lstepB rfl rfl rfl (run_assign (.tmp rfl)) ?_
        refine lstepB rfl rfl rfl (run_assign (.tmp rfl)) ?_
        refine lnil ?_
        refine xw_then ?_
        refine cw_seq ?_
        refine cw_seq ?_
        refine cw_region ?_
        refine lstepB rfl rfl rfl (run_move (.tmp rfl)) ?_
        refine lstepB rfl rfl rfl (run_neq (.tmp rfl) .const (by first | exact decide_eq_true (by omega) | exact decide_eq_false (by omega) | exact rfl)) ?_
        refine lstepB rfl rfl rfl (run_move (.tmp rfl)) ?_
        refine lyes rfl rfl rfl rfl ?_
        refine gstepB rfl rfl (run_move (.tmp rfl)) ?_
        refine lyes rfl rfl rfl rfl ?_
        refine gstepB rfl rfl (run_neq (.tmp rfl) .const (by first | exact decide_eq_true (by omega) | exact decide_eq_false (by omega) | exact rfl)) ?_
        refine lstepB rfl rfl rfl (by first | exact run_pick_true (.tmp rfl) .const | exact run_pick_false (.tmp rfl) (.tmp rfl)) ?_
        refine lnil ?_
        refine xw_then ?_
        refine cw_cond_false (.tmp rfl) ?_
        by_cases hlo : 0 < (bendT f.offs).lo
        ·
          by_cases h6 : o2.length < 6
          ·
            refine cw_skip ?_
            refine xw_then ?_
            refine cw_seq ?_
            refine cw_seq ?_
            refine cw_region ?_
            refine lstepB rfl rfl rfl (run_fieldAddr (.tmp rfl) fa28_0 (by first | exact Nat.zero_add _ | exact rfl)) ?_
            refine lstepB rfl rfl rfl (run_load1 (.tmp rfl) kd3 (by repeat (first | exact List.Mem.head _ | apply List.Mem.tail)) (by exact rfl)) ?_
            refine lstepB rfl rfl rfl (run_gtr (.tmp rfl) .const (by first | exact decide_eq_true (by omega) | exact decide_eq_false (by omega) | exact rfl)) ?_
            refine lstepB rfl rfl rfl (run_move (.tmp rfl)) ?_
            refine lyes rfl rfl rfl rfl ?_
            refine gstepB rfl rfl (run_move (.tmp rfl)) ?_
            refine lyes rfl rfl rfl rfl ?_
            refine gstepB rfl rfl (run_len (.tmp rfl) sl33) ?_
            refine lyes rfl rfl rfl rfl ?_
            refine gstepB rfl rfl (run_lss (.tmp rfl) .const (by first | exact decide_eq_true (by omega) | exact decide_eq_false (by omega) | exact rfl)) ?_
            refine lstepB rfl rfl rfl (by first | exact run_pick_true (.tmp rfl) (.tmp rfl) | exact run_pick_false (.tmp rfl) .const) ?_
            refine lnil ?_
            refine xw_then ?_
            refine cw_cond_true (.tmp rfl) ?_
            have hw1 : wrongN f ((bendT f.offs).lo - 1) ≠ 0 := fun h => by have := (wrong_zero hvf (by omega)).1 h; omega
            have hwR : wrongR f ((bendT f.offs).lo - 1) = (wrongN f ((bendT f.offs).lo - 1), 0) := by unfold wrongR; rw [hv, if_pos rfl, if_pos (by omega)]
            refine cw_seq ?_
            refine cw_region ?_
            refine lstepB rfl rfl rfl (run_loadN (.tmp rfl) kd24 sz24 (by repeat (first | exact List.Mem.head _ | apply List.Mem.tail)) (by repeat (first | exact Sub.done | apply Sub.take | apply Sub.skip))) ?_
            refine lstepB rfl rfl rfl (run_fieldAddr (.tmp rfl) fa28_0 (by first | exact Nat.zero_add _ | exact rfl)) ?_
            refine lstepB rfl rfl rfl (run_load1 (.tmp rfl) kd3 (by repeat (first | exact List.Mem.head _ | apply List.Mem.tail)) (by exact rfl)) ?_
            refine lstepB rfl rfl rfl (run_sub (.tmp rfl) .const (by first | exact IntWalk.i64_in _ (by omega) | exact rfl)) ?_
            refine lstepB rfl rfl rfl (run_call1 cb23 (.cons (.tmp rfl) (.cons (.tmp rfl) .nil)) (fun w2 hS => (wrongQ f oa wa da oc wc dc ((bendT f.offs).lo - 1) w2 hm (hf.kept hS.kept)).as (show _ = Value.tuple #[.int .i64 (wrongN f ((bendT f.offs).lo - 1)), .int .i64 0] from by rw [hwR]))) ?_
            refine lstepB rfl rfl rfl (run_move (.tmp rfl)) ?_
            refine lstepB rfl rfl rfl (run_extract (.tmp rfl) rfl) ?_
            refine lstepB rfl rfl rfl (run_extract (.tmp rfl) rfl) ?_
            refine lstepB rfl rfl rfl (run_assign (.tmp rfl)) ?_
            refine lstepB rfl rfl rfl (run_assign (.tmp rfl)) ?_
            refine lnil ?_
            refine xw_then ?_
            refine cw_seq ?_
            refine cw_region ?_
            refine lstepB rfl rfl rfl (run_move (.tmp rfl)) ?_
            refine lstepB rfl rfl rfl (run_eql (.tmp rfl) .const (decide_eq_false hw1)) ?_
            refine lstepB rfl rfl rfl (run_move (.tmp rfl)) ?_
            refine lyes rfl rfl rfl rfl ?_
            refine gstepB rfl rfl (run_move (.tmp rfl)) ?_
            refine lyes rfl rfl rfl rfl ?_
            refine gstepB rfl rfl (run_neq (.tmp rfl) .const (by first | exact decide_eq_true (by omega) | exact decide_eq_false (by omega) | exact rfl)) ?_
            refine lstepB rfl rfl rfl (by first | exact run_pick_true (.tmp rfl) .const | exact run_pick_false (.tmp rfl) (.tmp rfl)) ?_
            refine lnil ?_
            refine xw_then ?_
            refine cw_cond_false (.tmp rfl) ?_
            refine cw_skip ?_
            refine xw_then ?_
            refine cw_seq ?_
            refine cw_region ?_
            refine lstepB rfl rfl rfl (run_move (.tmp rfl)) ?_
            refine lstepB rfl rfl rfl (run_call1 cb32 (.cons (.tmp rfl) .nil) (fun w2 hS => by have h0 := rmostK s (by omega) hss (some ⟨b94, 0, none⟩) o2.length w2 (intsAt_cells (hS.mem (b := b94) (by repeat (first | exact List.Mem.head _ | apply List.Mem.tail)))); rw [hsl] at h0; exact h0)) ?_
            have hin2 : insideB (mostT s) (bendT f.offs) = true := by simp only [insideB, Bool.and_eq_true, decide_eq_true_eq]; exact hmb
            refine lstepB rfl rfl rfl (run_assign (.tmp rfl)) ?_
            refine lnil ?_
            refine xw_then ?_
            refine cw_seq ?_
            refine cw_seq ?_
            refine cw_region ?_
            refine lstepB rfl rfl rfl (run_move (.tmp rfl)) ?_
            refine lstepB rfl rfl rfl (run_loadN (.tmp rfl) kd28 sz28 (by repeat (first | exact List.Mem.head _ | apply List.Mem.tail)) (by repeat (first | exact Sub.done | apply Sub.take | apply Sub.skip))) ?_
            refine lstepB rfl rfl rfl (run_call1 cb33 (.cons (.tmp rfl) (.cons (.tmp rfl) .nil)) (fun w2 _ => (insideK _ _ w2).as (congrArg Value.bool hin2))) ?_
            refine lstepB rfl rfl rfl (run_not (.tmp rfl) (by first | exact Bool.not_true | exact Bool.not_false | exact rfl)) ?_
            refine lnil ?_
            refine xw_then ?_
            refine cw_cond_false (.tmp rfl) ?_
            refine cw_skip ?_
            refine xw_then ?_
            refine cw_seq ?_
            refine cw_seq ?_
            refine cw_region ?_
            refine lstepB rfl rfl rfl (run_move (.tmp rfl)) ?_
            refine lstepB rfl rfl rfl (run_fieldAddr (.tmp rfl) fa28_0 (by first | exact Nat.zero_add _ | exact rfl)) ?_
            refine lstepB rfl rfl rfl (run_load1 (.tmp rfl) kd3 (by repeat (first | exact List.Mem.head _ | apply List.Mem.tail)) (by exact rfl)) ?_
            refine lstepB rfl rfl rfl (run_gtr (.tmp rfl) (.tmp rfl) rfl) ?_
            refine lnil ?_
            refine xw_then ?_
            refine cw_cond_p (.tmp rfl) (fun hgt => ?_) (fun hgt => ?_)
            ·
              refine cw_seq ?_
              refine cw_region ?_
              refine lstepB rfl rfl rfl (run_call1 cb13 .nil (fun w _ => aliveK w)) ?_
              refine lstepB rfl rfl rfl (run_assign (.tmp rfl)) ?_
              refine lnil ?_
              refine xw_then ?_
              refine cw_ret ?_
              refine xw_then_ret ?_
              refine xw_ret1 Try.results7 rfl (fun w hS => ⟨rfl, hS.kept⟩)
            ·
              have hleL := hfirst s hsI (by omega)
              refine cw_skip ?_
              refine xw_then ?_
              refine cw_seq ?_
              refine cw_seq ?_
              refine cw_region ?_
              refine lstepB rfl rfl rfl (run_move (.tmp rfl)) ?_
              refine lstepB rfl rfl rfl (run_len (.tmp rfl) sl33) ?_
              refine lstepB rfl rfl rfl (run_move .const) ?_
              refine lnil ?_
              refine xw_then ?_
              refine cw_block ?_
              refine cw_loop (S := Nat) (fun j => [(200, .int .i64 (j : Int))]) [(5, _), (9, _), (198, _), (199, _)] (fun j => (b94, Obj.cells (intsV s).toArray 3 (0, 0)) :: (gO, Obj.cells (intsV o2).toArray 3 (0, 0)) :: []) (fun j => j ≤ o2.length ∧ ∀ i, i < j → o2.getD i 0 = s.getD i 0) (fun j => o2.length - j) 0 ⟨Nat.zero_le _, fun i h => absurd h (Nat.not_lt_zero i)⟩ (by repeat (first | exact Less.nil | refine Less.cons rfl ?_)) (by repeat (first | exact Pick.nil | (apply Pick.cons; focus (repeat (first | exact Del.here | apply Del.there))))) ?_
              intro j hjj
              obtain ⟨hj, heq⟩ := hjj
              refine cw_seq ?_
              refine cw_region ?_
              refine lstepB rfl rfl rfl (run_lss (.tmp rfl) (.tmp rfl) rfl) ?_
              refine lnil ?_
              refine xw_then ?_
              refine cw_seq ?_
              refine cw_cond_p (.tmp rfl) (fun hl2 => ?_) (fun hl2 => ?_)
              ·
                refine cw_skip ?_
                refine xw_then ?_
                refine cw_seq ?_
                refine cw_block ?_
                refine cw_seq ?_
                refine cw_region ?_
                refine lstepB rfl rfl rfl (run_move (.tmp rfl)) ?_
                refine lstepB rfl rfl rfl (run_assign (.tmp rfl)) ?_
                refine lnil ?_
                refine xw_then ?_
                refine cw_seq ?_
                refine cw_chain2 (σ := [0, 1, 2, 3, 4, 5, 6, 7, 8]) [⟨0, [], [], [], 0⟩, ⟨0, [], [], [], 0⟩, ⟨0, [], [], [], 3⟩, ⟨0, [1], [], [], 7⟩, ⟨0, [], [], [], 0⟩, ⟨0, [], [], [], 0⟩, ⟨0, [], [], [], 48⟩, ⟨0, [0], [], [], 112⟩, ⟨0, [], [], [], 255⟩] [(0, _), (1, _)] (by kernel_rfl) (by kernel_rfl) rfl ?_
                refine .det (B := []) rfl rfl (.inl rfl) .nil .nil rfl (RunB.lr (run_move (.tmp rfl))) ?_
                refine .det (B := []) rfl rfl (.inl rfl) .nil .nil rfl (RunB.lr (run_move (.tmp rfl))) ?_
                refine .det (B := []) rfl rfl (.inl rfl) .nil .nil rfl (RunB.lr (run_indexAddr (i := j) (off' := j) (.tmp rfl) (.tmp rfl) el33 (by omega) (by rw [Nat.mul_one, Nat.zero_add]))) ?_
                refine .det (B := []) rfl rfl (.inl rfl) (.cons rfl .nil) .nil rfl (RunB.lr (run_load1 (.tmp rfl) kd3 (by repeat (first | exact List.Mem.head _ | apply List.Mem.tail)) (intsV_get (by omega)))) ?_
                refine .det (B := []) rfl rfl (.inl rfl) .nil .nil rfl (RunB.lr (run_move (.tmp rfl))) ?_
                refine .det (B := []) rfl rfl (.inl rfl) .nil .nil rfl (RunB.lr (run_move (.tmp rfl))) ?_
                refine .det (B := []) rfl rfl (.inl rfl) .nil .nil rfl (RunB.lr (run_indexAddr (i := j) (off' := j) (.tmp rfl) (.tmp rfl) el33 (by omega) (by rw [Nat.mul_one, Nat.zero_add]))) ?_
                refine .det (B := []) rfl rfl (.inl rfl) (.cons rfl .nil) .nil rfl (RunB.lr (run_load1 (.tmp rfl) kd3 (by repeat (first | exact List.Mem.head _ | apply List.Mem.tail)) (intsV_get (by omega)))) ?_
                refine .det (B := []) rfl rfl (.inl rfl) .nil .nil rfl (RunB.lr (run_neq (.tmp rfl) (.tmp rfl) rfl)) ?_
                refine chain_nil (ts := [0, 1]) (.cons rfl (.cons rfl .nil)) (by decide) ?_
                refine xw_then ?_
                refine cw_cond_p (.tmp rfl) (fun hne => ?_) (fun hne => ?_)
                ·
                  have hlt2 := leL_at hleL (by omega) heq hne
                  refine cw_seq ?_
                  refine cw_chain2 (σ := [0, 1, 2, 3, 4, 5, 6, 7, 8, 9, 10, 11, 12]) [⟨0, [], [], [], 0⟩, ⟨0, [], [], [], 0⟩, ⟨0, [], [], [], 3⟩, ⟨0, [1], [], [], 7⟩, ⟨0, [], [], [], 0⟩, ⟨0, [], [], [], 0⟩, ⟨0, [], [], [], 48⟩, ⟨0, [0], [], [], 112⟩, ⟨0, [], [], [], 255⟩, ⟨0, [], [], [], 511⟩, ⟨0, [], [], [], 1023⟩, ⟨0, [], [], [], 2047⟩, ⟨0, [], [], [], 4095⟩] [(0, _), (1, _)] (by kernel_rfl) (by kernel_rfl) rfl ?_
                  refine .det (B := []) rfl rfl (.inl rfl) .nil .nil rfl (RunB.lr (run_move (.tmp rfl))) ?_
                  refine .det (B := []) rfl rfl (.inl rfl) .nil .nil rfl (RunB.lr (run_move (.tmp rfl))) ?_
                  refine .det (B := []) rfl rfl (.inl rfl) .nil .nil rfl (RunB.lr (run_indexAddr (i := j) (off' := j) (.tmp rfl) (.tmp rfl) el33 (by omega) (by rw [Nat.mul_one, Nat.zero_add]))) ?_
                  refine .det (B := []) rfl rfl (.inl rfl) (.cons rfl .nil) .nil rfl (RunB.lr (run_load1 (.tmp rfl) kd3 (by repeat (first | exact List.Mem.head _ | apply List.Mem.tail)) (intsV_get (by omega)))) ?_
                  refine .det (B := []) rfl rfl (.inl rfl) .nil .nil rfl (RunB.lr (run_move (.tmp rfl))) ?_
                  refine .det (B := []) rfl rfl (.inl rfl) .nil .nil rfl (RunB.lr (run_move (.tmp rfl))) ?_
                  refine .det (B := []) rfl rfl (.inl rfl) .nil .nil rfl (RunB.lr (run_indexAddr (i := j) (off' := j) (.tmp rfl) (.tmp rfl) el33 (by omega) (by rw [Nat.mul_one, Nat.zero_add]))) ?_
                  refine .det (B := []) rfl rfl (.inl rfl) (.cons rfl .nil) .nil rfl (RunB.lr (run_load1 (.tmp rfl) kd3 (by repeat (first | exact List.Mem.head _ | apply List.Mem.tail)) (intsV_get (by omega)))) ?_
                  refine .det (B := []) rfl rfl (.inl rfl) .nil .nil rfl (RunB.lr (run_lss (.tmp rfl) (.tmp rfl) (by first | exact decide_eq_true (by omega) | exact decide_eq_false (by omega) | exact rfl))) ?_
                  refine .det (B := []) rfl rfl (.inl rfl) .nil .nil rfl (RunB.lr (run_move (.tmp rfl))) ?_
                  refine .det (B := []) rfl rfl (.inr ⟨_, _, _, rfl, rfl, rfl⟩) .nil .nil rfl (RunB.lr (run_call1 cb13 .nil (fun w _ => aliveK w))) ?_
                  refine .det (B := []) rfl rfl (.inl rfl) .nil .nil rfl (RunB.lr (by first | exact run_pick_true (.tmp rfl) (.tmp rfl) | exact run_pick_false (.tmp rfl) .const)) ?_
                  refine .det (B := []) rfl rfl (.inl rfl) .nil .nil rfl (RunB.lr (run_assign (.tmp rfl))) ?_
                  refine chain_nil (ts := [0, 1]) (.cons rfl (.cons rfl .nil)) (by decide) ?_
                  refine xw_then ?_
                  refine cw_ret ?_
                  refine xw_in_ret ?_
                  refine xw_then_ret ?_
                  refine xw_then_ret ?_
                  refine xw_in_ret ?_
                  refine xw_then_ret ?_
                  refine xw_ret1 Try.results7 rfl (fun w hS => ⟨rfl, hS.kept⟩)
                ·
                  refine cw_skip ?_
                  refine xw_in ?_
                  refine xw_then ?_
                  refine cw_region ?_
                  refine lstepB rfl rfl rfl (run_add (.tmp rfl) .const (by first | exact IntWalk.i64_in _ (by omega) | exact rfl)) ?_
                  refine lstepB rfl rfl rfl (run_move (.tmp rfl)) ?_
                  refine lnil ?_
                  exact xw_round (j + 1) ⟨by omega, fun i hi => by rcases Nat.lt_succ_iff_lt_or_eq.1 hi with h | rfl; exact heq i h; exact Decidable.not_not.1 hne⟩ (by show o2.length - (j + 1) < o2.length - j; omega) (by repeat (first | exact Less.nil | refine Less.cons rfl ?_)) (by repeat (first | exact Pick.nil | (apply Pick.cons; focus (repeat (first | exact Del.here | apply Del.there)))))
              ·
                refine cw_exit ?_
                refine xw_then_exit ?_
                refine xw_then_exit ?_
                refine xw_in_exit ?_
                refine xw_then ?_
                refine cw_seq ?_
                refine cw_region ?_
                refine lstepB rfl rfl rfl (run_call1 cb13 .nil (fun w _ => aliveK w)) ?_
                refine lstepB rfl rfl rfl (run_assign (.tmp rfl)) ?_
                refine lnil ?_
                refine xw_then ?_
                refine cw_ret ?_
                refine xw_ret1 Try.results7 rfl (fun w hS => ⟨rfl, hS.kept⟩)
          ·
            refine cw_skip ?_
            refine xw_then ?_
            refine cw_seq ?_
            refine cw_seq ?_
            refine cw_region ?_
            refine lstepB rfl rfl rfl (run_fieldAddr (.tmp rfl) fa28_0 (by first | exact Nat.zero_add _ | exact rfl)) ?_
            refine lstepB rfl rfl rfl (run_load1 (.tmp rfl) kd3 (by repeat (first | exact List.Mem.head _ | apply List.Mem.tail)) (by exact rfl)) ?_
            refine lstepB rfl rfl rfl (run_gtr (.tmp rfl) .const (by first | exact decide_eq_true (by omega) | exact decide_eq_false (by omega) | exact rfl)) ?_
            refine lstepB rfl rfl rfl (run_move (.tmp rfl)) ?_
            refine lyes rfl rfl rfl rfl ?_
            refine gstepB rfl rfl (run_move (.tmp rfl)) ?_
            refine lyes rfl rfl rfl rfl ?_
            refine gstepB rfl rfl (run_len (.tmp rfl) sl33) ?_
            refine lyes rfl rfl rfl rfl ?_
            refine gstepB rfl rfl (run_lss (.tmp rfl) .const (by first | exact decide_eq_true (by omega) | exact decide_eq_false (by omega) | exact rfl)) ?_
            refine lstepB rfl rfl rfl (by first | exact run_pick_true (.tmp rfl) (.tmp rfl) | exact run_pick_false (.tmp rfl) .const) ?_
            refine lnil ?_
            refine xw_then ?_
            refine cw_cond_false (.tmp rfl) ?_
            refine cw_skip ?_
            refine xw_then ?_
            refine cw_seq ?_
            refine cw_region ?_
            refine lstepB rfl rfl rfl (run_move (.tmp rfl)) ?_
            refine lstepB rfl rfl rfl (run_call1 cb32 (.cons (.tmp rfl) .nil) (fun w2 hS => by have h0 := rmostK s (by omega) hss (some ⟨b94, 0, none⟩) o2.length w2 (intsAt_cells (hS.mem (b := b94) (by repeat (first | exact List.Mem.head _ | apply List.Mem.tail)))); rw [hsl] at h0; exact h0)) ?_
            have hin2 : insideB (mostT s) (bendT f.offs) = true := by simp only [insideB, Bool.and_eq_true, decide_eq_true_eq]; exact hmb
            refine lstepB rfl rfl rfl (run_assign (.tmp rfl)) ?_
            refine lnil ?_
            refine xw_then ?_
            refine cw_seq ?_
            refine cw_seq ?_
            refine cw_region ?_
            refine lstepB rfl rfl rfl (run_move (.tmp rfl)) ?_
            refine lstepB rfl rfl rfl (run_loadN (.tmp rfl) kd28 sz28 (by repeat (first | exact List.Mem.head _ | apply List.Mem.tail)) (by repeat (first | exact Sub.done | apply Sub.take | apply Sub.skip))) ?_
            refine lstepB rfl rfl rfl (run_call1 cb33 (.cons (.tmp rfl) (.cons (.tmp rfl) .nil)) (fun w2 _ => (insideK _ _ w2).as (congrArg Value.bool hin2))) ?_
            refine lstepB rfl rfl rfl (run_not (.tmp rfl) (by first | exact Bool.not_true | exact Bool.not_false | exact rfl)) ?_
            refine lnil ?_
            refine xw_then ?_
            refine cw_cond_false (.tmp rfl) ?_
            refine cw_skip ?_
            refine xw_then ?_
            refine cw_seq ?_
            refine cw_seq ?_
            refine cw_region ?_
            refine lstepB rfl rfl rfl (run_move (.tmp rfl)) ?_
            refine lstepB rfl rfl rfl (run_fieldAddr (.tmp rfl) fa28_0 (by first | exact Nat.zero_add _ | exact rfl)) ?_
            refine lstepB rfl rfl rfl (run_load1 (.tmp rfl) kd3 (by repeat (first | exact List.Mem.head _ | apply List.Mem.tail)) (by exact rfl)) ?_
            refine lstepB rfl rfl rfl (run_gtr (.tmp rfl) (.tmp rfl) rfl) ?_
            refine lnil ?_
            refine xw_then ?_
            refine cw_cond_p (.tmp rfl) (fun hgt => ?_) (fun hgt => ?_)
            ·
              refine cw_seq ?_
              refine cw_region ?_
              refine lstepB rfl rfl rfl (run_call1 cb13 .nil (fun w _ => aliveK w)) ?_
              refine lstepB rfl rfl rfl (run_assign (.tmp rfl)) ?_
              refine lnil ?_
              refine xw_then ?_
              refine cw_ret ?_
              refine xw_then_ret ?_
              refine xw_ret1 Try.results7 rfl (fun w hS => ⟨rfl, hS.kept⟩)
            ·
              have hleL := hfirst s hsI (by omega)
              refine cw_skip ?_
              refine xw_then ?_
              refine cw_seq ?_
              refine cw_seq ?_
              refine cw_region ?_
              refine lstepB rfl rfl rfl (run_move (.tmp rfl)) ?_
              refine lstepB rfl rfl rfl (run_len (.tmp rfl) sl33) ?_
              refine lstepB rfl rfl rfl (run_move .const) ?_
              refine lnil ?_
              refine xw_then ?_
              refine cw_block ?_
              refine cw_loop (S := Nat) (fun j => [(200, .int .i64 (j : Int))]) [(5, _), (9, _), (198, _), (199, _)] (fun j => (b94, Obj.cells (intsV s).toArray 3 (0, 0)) :: (gO, Obj.cells (intsV o2).toArray 3 (0, 0)) :: []) (fun j => j ≤ o2.length ∧ ∀ i, i < j → o2.getD i 0 = s.getD i 0) (fun j => o2.length - j) 0 ⟨Nat.zero_le _, fun i h => absurd h (Nat.not_lt_zero i)⟩ (by repeat (first | exact Less.nil | refine Less.cons rfl ?_)) (by repeat (first | exact Pick.nil | (apply Pick.cons; focus (repeat (first | exact Del.here | apply Del.there))))) ?_
              intro j hjj
              obtain ⟨hj, heq⟩ := hjj
              refine cw_seq ?_
              refine cw_region ?_
              refine lstepB rfl rfl rfl (run_lss (.tmp rfl) (.tmp rfl) rfl) ?_
              refine lnil ?_
              refine xw_then ?_
              refine cw_seq ?_
              refine cw_cond_p (.tmp rfl) (fun hl2 => ?_) (fun hl2 => ?_)
              ·
                refine cw_skip ?_
                refine xw_then ?_
                refine cw_seq ?_
                refine cw_block ?_
                refine cw_seq ?_
                refine cw_region ?_
                refine lstepB rfl rfl rfl (run_move (.tmp rfl)) ?_
                refine lstepB rfl rfl rfl (run_assign (.tmp rfl)) ?_
                refine lnil ?_
                refine xw_then ?_
                refine cw_seq ?_
                refine cw_chain2 (σ := [0, 1, 2, 3, 4, 5, 6, 7, 8]) [⟨0, [], [], [], 0⟩, ⟨0, [], [], [], 0⟩, ⟨0, [], [], [], 3⟩, ⟨0, [1], [], [], 7⟩, ⟨0, [], [], [], 0⟩, ⟨0, [], [], [], 0⟩, ⟨0, [], [], [], 48⟩, ⟨0, [0], [], [], 112⟩, ⟨0, [], [], [], 255⟩] [(0, _), (1, _)] (by kernel_rfl) (by kernel_rfl) rfl ?_
                refine .det (B := []) rfl rfl (.inl rfl) .nil .nil rfl (RunB.lr (run_move (.tmp rfl))) ?_
                refine .det (B := []) rfl rfl (.inl rfl) .nil .nil rfl (RunB.lr (run_move (.tmp rfl))) ?_
                refine .det (B := []) rfl rfl (.inl rfl) .nil .nil rfl (RunB.lr (run_indexAddr (i := j) (off' := j) (.tmp rfl) (.tmp rfl) el33 (by omega) (by rw [Nat.mul_one, Nat.zero_add]))) ?_
                refine .det (B := []) rfl rfl (.inl rfl) (.cons rfl .nil) .nil rfl (RunB.lr (run_load1 (.tmp rfl) kd3 (by repeat (first | exact List.Mem.head _ | apply List.Mem.tail)) (intsV_get (by omega)))) ?_
                refine .det (B := []) rfl rfl (.inl rfl) .nil .nil rfl (RunB.lr (run_move (.tmp rfl))) ?_
                refine .det (B := []) rfl rfl (.inl rfl) .nil .nil rfl (RunB.lr (run_move (.tmp rfl))) ?_
                refine .det (B := []) rfl rfl (.inl rfl) .nil .nil rfl (RunB.lr (run_indexAddr (i := j) (off' := j) (.tmp rfl) (.tmp rfl) el33 (by omega) (by rw [Nat.mul_one, Nat.zero_add]))) ?_
                refine .det (B := []) rfl rfl (.inl rfl) (.cons rfl .nil) .nil rfl (RunB.lr (run_load1 (.tmp rfl) kd3 (by repeat (first | exact List.Mem.head _ | apply List.Mem.tail)) (intsV_get (by omega)))) ?_
                refine .det (B := []) rfl rfl (.inl rfl) .nil .nil rfl (RunB.lr (run_neq (.tmp rfl) (.tmp rfl) rfl)) ?_
                refine chain_nil (ts := [0, 1]) (.cons rfl (.cons rfl .nil)) (by decide) ?_
                refine xw_then ?_
                refine cw_cond_p (.tmp rfl) (fun hne => ?_) (fun hne => ?_)
                ·
                  have hlt2 := leL_at hleL (by omega) heq hne
                  refine cw_seq ?_
                  refine cw_chain2 (σ := [0, 1, 2, 3, 4, 5, 6, 7, 8, 9, 10, 11, 12]) [⟨0, [], [], [], 0⟩, ⟨0, [], [], [], 0⟩, ⟨0, [], [], [], 3⟩, ⟨0, [1], [], [], 7⟩, ⟨0, [], [], [], 0⟩, ⟨0, [], [], [], 0⟩, ⟨0, [], [], [], 48⟩, ⟨0, [0], [], [], 112⟩, ⟨0, [], [], [], 255⟩, ⟨0, [], [], [], 511⟩, ⟨0, [], [], [], 1023⟩, ⟨0, [], [], [], 2047⟩, ⟨0, [], [], [], 4095⟩] [(0, _), (1, _)] (by kernel_rfl) (by kernel_rfl) rfl ?_
                  refine .det (B := []) rfl rfl (.inl rfl) .nil .nil rfl (RunB.lr (run_move (.tmp rfl))) ?_
                  refine .det (B := []) rfl rfl (.inl rfl) .nil .nil rfl (RunB.lr (run_move (.tmp rfl))) ?_
                  refine .det (B := []) rfl rfl (.inl rfl) .nil .nil rfl (RunB.lr (run_indexAddr (i := j) (off' := j) (.tmp rfl) (.tmp rfl) el33 (by omega) (by rw [Nat.mul_one, Nat.zero_add]))) ?_
                  refine .det (B := []) rfl rfl (.inl rfl) (.cons rfl .nil) .nil rfl (RunB.lr (run_load1 (.tmp rfl) kd3 (by repeat (first | exact List.Mem.head _ | apply List.Mem.tail)) (intsV_get (by omega)))) ?_
                  refine .det (B := []) rfl rfl (.inl rfl) .nil .nil rfl (RunB.lr (run_move (.tmp rfl))) ?_
                  refine .det (B := []) rfl rfl (.inl rfl) .nil .nil rfl (RunB.lr (run_move (.tmp rfl))) ?_
                  refine .det (B := []) rfl rfl (.inl rfl) .nil .nil rfl (RunB.lr (run_indexAddr (i := j) (off' := j) (.tmp rfl) (.tmp rfl) el33 (by omega) (by rw [Nat.mul_one, Nat.zero_add]))) ?_
                  refine .det (B := []) rfl rfl (.inl rfl) (.cons rfl .nil) .nil rfl (RunB.lr (run_load1 (.tmp rfl) kd3 (by repeat (first | exact List.Mem.head _ | apply List.Mem.tail)) (intsV_get (by omega)))) ?_
                  refine .det (B := []) rfl rfl (.inl rfl) .nil .nil rfl (RunB.lr (run_lss (.tmp rfl) (.tmp rfl) (by first | exact decide_eq_true (by omega) | exact decide_eq_false (by omega) | exact rfl))) ?_
                  refine .det (B := []) rfl rfl (.inl rfl) .nil .nil rfl (RunB.lr (run_move (.tmp rfl))) ?_
                  refine .det (B := []) rfl rfl (.inr ⟨_, _, _, rfl, rfl, rfl⟩) .nil .nil rfl (RunB.lr (run_call1 cb13 .nil (fun w _ => aliveK w))) ?_
                  refine .det (B := []) rfl rfl (.inl rfl) .nil .nil rfl (RunB.lr (by first | exact run_pick_true (.tmp rfl) (.tmp rfl) | exact run_pick_false (.tmp rfl) .const)) ?_
                  refine .det (B := []) rfl rfl (.inl rfl) .nil .nil rfl (RunB.lr (run_assign (.tmp rfl))) ?_
                  refine chain_nil (ts := [0, 1]) (.cons rfl (.cons rfl .nil)) (by decide) ?_
                  refine xw_then ?_
                  refine cw_ret ?_
                  refine xw_in_ret ?_
                  refine xw_then_ret ?_
                  refine xw_then_ret ?_
                  refine xw_in_ret ?_
                  refine xw_then_ret ?_
                  refine xw_ret1 Try.results7 rfl (fun w hS => ⟨rfl, hS.kept⟩)
                ·
                  refine cw_skip ?_
                  refine xw_in ?_
                  refine xw_then ?_
                  refine cw_region ?_
                  refine lstepB rfl rfl rfl (run_add (.tmp rfl) .const (by first | exact IntWalk.i64_in _ (by omega) | exact rfl)) ?_
                  refine lstepB rfl rfl rfl (run_move (.tmp rfl)) ?_
                  refine lnil ?_
                  exact xw_round (j + 1) ⟨by omega, fun i hi => by rcases Nat.lt_succ_iff_lt_or_eq.1 hi with h | rfl; exact heq i h; exact Decidable.not_not.1 hne⟩ (by show o2.length - (j + 1) < o2.length - j; omega) (by repeat (first | exact Less.nil | refine Less.cons rfl ?_)) (by repeat (first | exact Pick.nil | (apply Pick.cons; focus (repeat (first | exact Del.here | apply Del.there)))))
              ·
                refine cw_exit ?_
                refine xw_then_exit ?_
                refine xw_then_exit ?_
                refine xw_in_exit ?_
                refine xw_then ?_
                refine cw_seq ?_
                refine cw_region ?_
                refine lstepB rfl rfl rfl (run_call1 cb13 .nil (fun w _ => aliveK w)) ?_
                refine lstepB rfl rfl rfl (run_assign (.tmp rfl)) ?_
                refine lnil ?_
                refine xw_then ?_
                refine cw_ret ?_
                refine xw_ret1 Try.results7 rfl (fun w hS => ⟨rfl, hS.kept⟩)
        ·
          refine cw_skip ?_
          refine xw_then ?_
          refine cw_seq ?_
          refine cw_seq ?_
          refine cw_region ?_
          refine lstepB rfl rfl rfl (run_fieldAddr (.tmp rfl) fa28_0 (by first | exact Nat.zero_add _ | exact rfl)) ?_
          refine lstepB rfl rfl rfl (run_load1 (.tmp rfl) kd3 (by repeat (first | exact List.Mem.head _ | apply List.Mem.tail)) (by exact rfl)) ?_
          refine lstepB rfl rfl rfl (run_gtr (.tmp rfl) .const (by first | exact decide_eq_true (by omega) | exact decide_eq_false (by omega) | exact rfl)) ?_
          refine lstepB rfl rfl rfl (run_move (.tmp rfl)) ?_
          refine lskip rfl rfl rfl rfl rfl rfl rfl ?_
          refine lskip rfl rfl rfl rfl rfl rfl rfl ?_
          refine lskip rfl rfl rfl rfl rfl rfl rfl ?_
          refine lstepB rfl rfl rfl (by first | exact run_pick_true (.tmp rfl) (.tmp rfl) | exact run_pick_false (.tmp rfl) .const) ?_
          refine lnil ?_
          refine xw_then ?_
          refine cw_cond_false (.tmp rfl) ?_
          refine cw_skip ?_
          refine xw_then ?_
          refine cw_seq ?_
          refine cw_region ?_
          refine lstepB rfl rfl rfl (run_move (.tmp rfl)) ?_
          refine lstepB rfl rfl rfl (run_call1 cb32 (.cons (.tmp rfl) .nil) (fun w2 hS => by have h0 := rmostK s (by omega) hss (some ⟨b94, 0, none⟩) o2.length w2 (intsAt_cells (hS.mem (b := b94) (by repeat (first | exact List.Mem.head _ | apply List.Mem.tail)))); rw [hsl] at h0; exact h0)) ?_
          have hin2 : insideB (mostT s) (bendT f.offs) = true := by simp only [insideB, Bool.and_eq_true, decide_eq_true_eq]; exact hmb
          refine lstepB rfl rfl rfl (run_assign (.tmp rfl)) ?_
          refine lnil ?_
          refine xw_then ?_
          refine cw_seq ?_
          refine cw_seq ?_
          refine cw_region ?_
          refine lstepB rfl rfl rfl (run_move (.tmp rfl)) ?_
          refine lstepB rfl rfl rfl (run_loadN (.tmp rfl) kd28 sz28 (by repeat (first | exact List.Mem.head _ | apply List.Mem.tail)) (by repeat (first | exact Sub.done | apply Sub.take | apply Sub.skip))) ?_
          refine lstepB rfl rfl rfl (run_call1 cb33 (.cons (.tmp rfl) (.cons (.tmp rfl) .nil)) (fun w2 _ => (insideK _ _ w2).as (congrArg Value.bool hin2))) ?_
          refine lstepB rfl rfl rfl (run_not (.tmp rfl) (by first | exact Bool.not_true | exact Bool.not_false | exact rfl)) ?_
          refine lnil ?_
          refine xw_then ?_
          refine cw_cond_false (.tmp rfl) ?_
          refine cw_skip ?_
          refine xw_then ?_
          refine cw_seq ?_
          refine cw_seq ?_
          refine cw_region ?_
          refine lstepB rfl rfl rfl (run_move (.tmp rfl)) ?_
          refine lstepB rfl rfl rfl (run_fieldAddr (.tmp rfl) fa28_0 (by first | exact Nat.zero_add _ | exact rfl)) ?_
          refine lstepB rfl rfl rfl (run_load1 (.tmp rfl) kd3 (by repeat (first | exact List.Mem.head _ | apply List.Mem.tail)) (by exact rfl)) ?_
          refine lstepB rfl rfl rfl (run_gtr (.tmp rfl) (.tmp rfl) rfl) ?_
          refine lnil ?_
          refine xw_then ?_
          refine cw_cond_p (.tmp rfl) (fun hgt => ?_) (fun hgt => ?_)
          ·
            refine cw_seq ?_
            refine cw_region ?_
            refine lstepB rfl rfl rfl (run_call1 cb13 .nil (fun w _ => aliveK w)) ?_
            refine lstepB rfl rfl rfl (run_assign (.tmp rfl)) ?_
            refine lnil ?_
            refine xw_then ?_
            refine cw_ret ?_
            refine xw_then_ret ?_
            refine xw_ret1 Try.results7 rfl (fun w hS => ⟨rfl, hS.kept⟩)
          ·
            have hleL := hfirst s hsI (by omega)
            refine cw_skip ?_
            refine xw_then ?_
            refine cw_seq ?_
            refine cw_seq ?_
            refine cw_region ?_
            refine lstepB rfl rfl rfl (run_move (.tmp rfl)) ?_
            refine lstepB rfl rfl rfl (run_len (.tmp rfl) sl33) ?_
            refine lstepB rfl rfl rfl (run_move .const) ?_
            refine lnil ?_
            refine xw_then ?_
            refine cw_block ?_
            refine cw_loop (S := Nat) (fun j => [(200, .int .i64 (j : Int))]) [(5, _), (9, _), (198, _), (199, _)] (fun j => (b94, Obj.cells (intsV s).toArray 3 (0, 0)) :: (gO, Obj.cells (intsV o2).toArray 3 (0, 0)) :: []) (fun j => j ≤ o2.length ∧ ∀ i, i < j → o2.getD i 0 = s.getD i 0) (fun j => o2.length - j) 0 ⟨Nat.zero_le _, fun i h => absurd h (Nat.not_lt_zero i)⟩ (by repeat (first | exact Less.nil | refine Less.cons rfl ?_)) (by repeat (first | exact Pick.nil | (apply Pick.cons; focus (repeat (first | exact Del.here | apply Del.there))))) ?_
            intro j hjj
            obtain ⟨hj, heq⟩ := hjj
            refine cw_seq ?_
            refine cw_region ?_
            refine lstepB rfl rfl rfl (run_lss (.tmp rfl) (.tmp rfl) rfl) ?_
            refine lnil ?_
            refine xw_then ?_
            refine cw_seq ?_
            refine cw_cond_p (.tmp rfl) (fun hl2 => ?_) (fun hl2 => ?_)
            ·
              refine cw_skip ?_
              refine xw_then ?_
              refine cw_seq ?_
              refine cw_block ?_
              refine cw_seq ?_
              refine cw_region ?_
              refine lstepB rfl rfl rfl (run_move (.tmp rfl)) ?_
              refine lstepB rfl rfl rfl (run_assign (.tmp rfl)) ?_
              refine lnil ?_
              refine xw_then ?_
              refine cw_seq ?_
              refine cw_chain2 (σ := [0, 1, 2, 3, 4, 5, 6, 7, 8]) [⟨0, [], [], [], 0⟩, ⟨0, [], [], [], 0⟩, ⟨0, [], [], [], 3⟩, ⟨0, [1], [], [], 7⟩, ⟨0, [], [], [], 0⟩, ⟨0, [], [], [], 0⟩, ⟨0, [], [], [], 48⟩, ⟨0, [0], [], [], 112⟩, ⟨0, [], [], [], 255⟩] [(0, _), (1, _)] (by kernel_rfl) (by kernel_rfl) rfl ?_
              refine .det (B := []) rfl rfl (.inl rfl) .nil .nil rfl (RunB.lr (run_move (.tmp rfl))) ?_
              refine .det (B := []) rfl rfl (.inl rfl) .nil .nil rfl (RunB.lr (run_move (.tmp rfl))) ?_
              refine .det (B := []) rfl rfl (.inl rfl) .nil .nil rfl (RunB.lr (run_indexAddr (i := j) (off' := j) (.tmp rfl) (.tmp rfl) el33 (by omega) (by rw [Nat.mul_one, Nat.zero_add]))) ?_
              refine .det (B := []) rfl rfl (.inl rfl) (.cons rfl .nil) .nil rfl (RunB.lr (run_load1 (.tmp rfl) kd3 (by repeat (first | exact List.Mem.head _ | apply List.Mem.tail)) (intsV_get (by omega)))) ?_
              refine .det (B := []) rfl rfl (.inl rfl) .nil .nil rfl (RunB.lr (run_move (.tmp rfl))) ?_
              refine .det (B := []) rfl rfl (.inl rfl) .nil .nil rfl (RunB.lr (run_move (.tmp rfl))) ?_
              refine .det (B := []) rfl rfl (.inl rfl) .nil .nil rfl (RunB.lr (run_indexAddr (i := j) (off' := j) (.tmp rfl) (.tmp rfl) el33 (by omega) (by rw [Nat.mul_one, Nat.zero_add]))) ?_
              refine .det (B := []) rfl rfl (.inl rfl) (.cons rfl .nil) .nil rfl (RunB.lr (run_load1 (.tmp rfl) kd3 (by repeat (first | exact List.Mem.head _ | apply List.Mem.tail)) (intsV_get (by omega)))) ?_
              refine .det (B := []) rfl rfl (.inl rfl) .nil .nil rfl (RunB.lr (run_neq (.tmp rfl) (.tmp rfl) rfl)) ?_
              refine chain_nil (ts := [0, 1]) (.cons rfl (.cons rfl .nil)) (by decide) ?_
              refine xw_then ?_
              refine cw_cond_p (.tmp rfl) (fun hne => ?_) (fun hne => ?_)
              ·
                have hlt2 := leL_at hleL (by omega) heq hne
                refine cw_seq ?_
                refine cw_chain2 (σ := [0, 1, 2, 3, 4, 5, 6, 7, 8, 9, 10, 11, 12]) [⟨0, [], [], [], 0⟩, ⟨0, [], [], [], 0⟩, ⟨0, [], [], [], 3⟩, ⟨0, [1], [], [], 7⟩, ⟨0, [], [], [], 0⟩, ⟨0, [], [], [], 0⟩, ⟨0, [], [], [], 48⟩, ⟨0, [0], [], [], 112⟩, ⟨0, [], [], [], 255⟩, ⟨0, [], [], [], 511⟩, ⟨0, [], [], [], 1023⟩, ⟨0, [], [], [], 2047⟩, ⟨0, [], [], [], 4095⟩] [(0, _), (1, _)] (by kernel_rfl) (by kernel_rfl) rfl ?_
                refine .det (B := []) rfl rfl (.inl rfl) .nil .nil rfl (RunB.lr (run_move (.tmp rfl))) ?_
                refine .det (B := []) rfl rfl (.inl rfl) .nil .nil rfl (RunB.lr (run_move (.tmp rfl))) ?_
                refine .det (B := []) rfl rfl (.inl rfl) .nil .nil rfl (RunB.lr (run_indexAddr (i := j) (off' := j) (.tmp rfl) (.tmp rfl) el33 (by omega) (by rw [Nat.mul_one, Nat.zero_add]))) ?_
                refine .det (B := []) rfl rfl (.inl rfl) (.cons rfl .nil) .nil rfl (RunB.lr (run_load1 (.tmp rfl) kd3 (by repeat (first | exact List.Mem.head _ | apply List.Mem.tail)) (intsV_get (by omega)))) ?_
                refine .det (B := []) rfl rfl (.inl rfl) .nil .nil rfl (RunB.lr (run_move (.tmp rfl))) ?_
                refine .det (B := []) rfl rfl (.inl rfl) .nil .nil rfl (RunB.lr (run_move (.tmp rfl))) ?_
                refine .det (B := []) rfl rfl (.inl rfl) .nil .nil rfl (RunB.lr (run_indexAddr (i := j) (off' := j) (.tmp rfl) (.tmp rfl) el33 (by omega) (by rw [Nat.mul_one, Nat.zero_add]))) ?_
                refine .det (B := []) rfl rfl (.inl rfl) (.cons rfl .nil) .nil rfl (RunB.lr (run_load1 (.tmp rfl) kd3 (by repeat (first | exact List.Mem.head _ | apply List.Mem.tail)) (intsV_get (by omega)))) ?_
                refine .det (B := []) rfl rfl (.inl rfl) .nil .nil rfl (RunB.lr (run_lss (.tmp rfl) (.tmp rfl) (by first | exact decide_eq_true (by omega) | exact decide_eq_false (by omega) | exact rfl))) ?_
                refine .det (B := []) rfl rfl (.inl rfl) .nil .nil rfl (RunB.lr (run_move (.tmp rfl))) ?_
                refine .det (B := []) rfl rfl (.inr ⟨_, _, _, rfl, rfl, rfl⟩) .nil .nil rfl (RunB.lr (run_call1 cb13 .nil (fun w _ => aliveK w))) ?_
                refine .det (B := []) rfl rfl (.inl rfl) .nil .nil rfl (RunB.lr (by first | exact run_pick_true (.tmp rfl) (.tmp rfl) | exact run_pick_false (.tmp rfl) .const)) ?_
                refine .det (B := []) rfl rfl (.inl rfl) .nil .nil rfl (RunB.lr (run_assign (.tmp rfl))) ?_
                refine chain_nil (ts := [0, 1]) (.cons rfl (.cons rfl .nil)) (by decide) ?_
                refine xw_then ?_
                refine cw_ret ?_
                refine xw_in_ret ?_
                refine xw_then_ret ?_
                refine xw_then_ret ?_
                refine xw_in_ret ?_
                refine xw_then_ret ?_
                refine xw_ret1 Try.results7 rfl (fun w hS => ⟨rfl, hS.kept⟩)
              ·
                refine cw_skip ?_
                refine xw_in ?_
                refine xw_then ?_
                refine cw_region ?_
                refine lstepB rfl rfl rfl (run_add (.tmp rfl) .const (by first | exact IntWalk.i64_in _ (by omega) | exact rfl)) ?_
                refine lstepB rfl rfl rfl (run_move (.tmp rfl)) ?_
                refine lnil ?_
                exact xw_round (j + 1) ⟨by omega, fun i hi => by rcases Nat.lt_succ_iff_lt_or_eq.1 hi with h | rfl; exact heq i h; exact Decidable.not_not.1 hne⟩ (by show o2.length - (j + 1) < o2.length - j; omega) (by repeat (first | exact Less.nil | refine Less.cons rfl ?_)) (by repeat (first | exact Pick.nil | (apply Pick.cons; focus (repeat (first | exact Del.here | apply Del.there)))))
            ·
              refine cw_exit ?_
              refine xw_then_exit ?_
              refine xw_then_exit ?_
              refine xw_in_exit ?_
              refine xw_then ?_
              refine cw_seq ?_
              refine cw_region ?_
              refine lstepB rfl rfl rfl (run_call1 cb13 .nil (fun w _ => aliveK w)) ?_
              refine lstepB rfl rfl rfl (run_assign (.tmp rfl)) ?_
              refine lnil ?_
              refine xw_then ?_
              refine cw_ret ?_
              refine xw_ret1 Try.results7 rfl (fun w hS => ⟨rfl, hS.kept⟩)
  ·
    refine .mk <| enter (n := 226) Try.func7 rfl rfl rfl (by repeat (first | exact Fill.nil | apply Fill.cons)) ?_
    refine cw_seq ?_
    refine cw_region ?_
    refine lstep rfl rfl rfl (run_boxN (.tmp rfl)) ?_
    intro b2 _
    refine lstepB rfl rfl rfl (run_assign .const) ?_
    refine lnil ?_
    refine xw_then ?_
    refine cw_seq ?_
    refine cw_seq ?_
    refine cw_region ?_
    refine lstepB rfl rfl rfl (run_loadN (.tmp rfl) kd24 sz24 (by repeat (first | exact List.Mem.head _ | apply List.Mem.tail)) (by repeat (first | exact Sub.done | apply Sub.take | apply Sub.skip))) ?_
    refine lstepB rfl rfl rfl (run_call1 cb12 (.cons (.tmp rfl) (.cons .const (.cons .const .nil))) (fun w2 hS => (heavyK f oa wa da oc wc dc 8 6 w2 hbnd (hf.kept hS.kept)).as (congrArg Value.bool hh))) ?_
    refine lnil ?_
    refine xw_then ?_
    refine cw_cond_true (.tmp rfl) ?_
    refine cw_seq ?_
    refine cw_region ?_
    refine lstepB rfl rfl rfl (run_call1 cb13 .nil (fun w _ => aliveK w)) ?_
    refine lstepB rfl rfl rfl (run_assign (.tmp rfl)) ?_
    refine lnil ?_
    refine xw_then ?_
    refine cw_ret ?_
    refine xw_then_ret ?_
    refine xw_ret1 Try.results7 rfl (fun w hS => ⟨rfl, hS.kept⟩)
end Go.Proofs.Ytjdeplehhmhpcaa
