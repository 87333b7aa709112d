/- Furrow: the document's own list of ways. -/
import Derived.Test.YtjdeplehhmhpcaaGX
namespace Go.Proofs.Ytjdeplehhmhpcaa
open Go.RowKit En

theorem enterO {lo : Nat} {P : Program} {fn : Func} {f : FuncId} {c : Code} {l : List Value} {n : Nat} {E : Env} {w : World} {R : Ending → World → Prop} {o : OutD} {Ls : List (List Int)} (hf : P.funcs[f]? = some fn) (hb : fn.body = some c) (hn : fn.ntmps = n) (hl : Nat.ble l.length n = true) (hE : Fill 0 l E) (ho : GoodO lo w o Ls)
    (k : CW none [] P (bodyPostM (FF P none) 0 P fn R) c n E w (TofO o) (HofO o)) : CallsF P f l.toArray w R := by
  cases o with
  | none => exact enter hf hb hn hl hE k
  | some g => exact enterT hf hb hn hl hE ho.1 k
theorem leaf_good {lo : Nat} {w w' : World} {o : OutD} {Ls : List (List Int)} {es : List Value} {Y cY : Nat} {rY : List Value} {a : Option Addr} {c : Nat} {t : List Int} (hS : St w (TofO o) [(Y, Obj.cells rY.toArray 33 (0, 0))] w') (hent : Entries lo w o es Ls) (hp : IntsAt w a t) (hps : Sep w a o) (hpl : Low lo a) (hY : InRow 1 (Ls.length + 1) cY rY (es ++ [.slice a t.length c])) : WaysG lo w w' o (Y, cY, rY) (Ls ++ [t]) := by
  obtain ⟨h1, h2⟩ := hS.own _ (List.Mem.head _)
  have hnew : TofO o Y ∨ w.heap.size ≤ Y := h2.symm
  have hsep : ∀ {a' : Option Addr}, Sep w a' o → Sep w' a' (some (Y, cY, rY)) := fun {a'} hs b off e => by
    obtain ⟨h3, h4⟩ := hs b off e
    refine ⟨Nat.lt_of_lt_of_le h3 hS.size, fun (e2 : b = Y) => ?_⟩
    rcases hnew with h5 | h5
    · rw [e2] at h4; exact h4 h5
    · omega
  refine ⟨st_weak hS, ⟨h1, es ++ [.slice a t.length c], ?_, ?_, ?_⟩, hnew⟩
  · rw [List.length_append]; exact hY
  · rw [List.length_append, List.length_append, hent.1]; rfl
  · intro i u hi
    rcases Nat.lt_or_ge i Ls.length with h | h
    · rw [List.getElem?_append_left h] at hi
      obtain ⟨v, hv, a', c', e, h3, h4, h5⟩ := hent.2 i u hi
      exact ⟨v, by rw [List.getElem?_append_left (by rw [hent.1]; exact h)]; exact hv, a', c', e, rows_st h3 h4 hS, hsep h4, h5⟩
    · rw [List.getElem?_append_right h] at hi
      have h5 := (List.getElem?_eq_some_iff.1 hi).1
      have h6 : i - Ls.length = 0 := by simp at h5; omega
      rw [h6] at hi
      cases hi
      exact ⟨.slice a t.length c, by rw [List.getElem?_append_right (by rw [hent.1]; exact h), hent.1, h6]; rfl, a, c, rfl, rows_st hp hps hS, hsep hps, hpl⟩
theorem sep_own {w w2 : World} {o : OutD} {Y : Nat} {ob : Obj} {H : Heap} (hS : St w (TofO o) ((Y, ob) :: H) w2) (hH : ∀ x, x ∈ HofO o → x ∈ H) : Sep w2 (some ⟨Y, 0, none⟩) o := fun b off e => by
  cases e
  refine ⟨hS.lt (b := Y) (o := ob) (List.Mem.head _), fun hT => ?_⟩
  cases o with
  | none => exact hT
  | some g => exact (List.pairwise_cons.1 hS.apart).1 _ (hH _ (List.Mem.head _)) hT
theorem low_own {w w2 : World} {o : OutD} {Y lo : Nat} {ob : Obj} {H : Heap} (hS : St w (TofO o) ((Y, ob) :: H) w2) (hH : ∀ x, x ∈ HofO o → x ∈ H) (hlo : lo ≤ w.heap.size) : Low lo (some ⟨Y, 0, none⟩) := fun b off e => by
  have h := (sep_own hS hH Y 0 rfl).2
  cases e
  rcases (hS.own _ (List.Mem.head _)).2 with h2 | h2
  · exact Nat.le_trans hlo h2
  · exact absurd h2 h
theorem bent_small {t : List Int} (h : ∀ x ∈ t, -12 ≤ x ∧ x ≤ 12) (k : Nat) : bentT t k ≤ 1000 := by
  have key : ∀ j, -12 ≤ t.getD j 0 ∧ t.getD j 0 ≤ 12 := fun j => by
    rcases Nat.lt_or_ge j t.length with hj | hj
    · exact h _ (List.mem_of_getElem? (getI_some hj))
    · rw [List.getD_eq_getElem?_getD, List.getElem?_eq_none hj]; exact ⟨by decide, by decide⟩
  have h1 := key (k - 1)
  have h2 := key k
  have h3 := key (k + 1)
  unfold bentT bendI
  omega
set_option maxRecDepth 100000 in
set_option maxHeartbeats 4000000 in
theorem waysK {L : List SpanD} (hfine : FineC L) (h12 : ∀ s ∈ L, -12 ≤ s.lo ∧ s.lo ≤ s.hi ∧ s.hi ≤ 12) (hL : L.length ≤ 100) (lo : Nat) : ∀ (d : Nat) (t : List Int), L.length = t.length + d → (∀ x ∈ t, -12 ≤ x ∧ x ≤ 12) → ∀ (sa : Option Addr) (sc : Nat) (a : Option Addr) (c : Nat) (o : OutD) (Ls : List (List Int)) (w : World), lo ≤ w.heap.size → SpansAt w sa L → (0 < L.length → Sep w sa o) → IntsAt w a t → Sep w a o → Low lo a → GoodO lo w o Ls → Ls.length + (allF L d t).length ≤ 100000 → CallsF Try.prog 84 (([.slice sa L.length sc, .int .i64 1000, .slice a t.length c, outV o Ls.length] : List Value)).toArray w fun e w' => ∃ g, WaysG lo w w' o g (Ls ++ allF L d t) ∧ e = .returned (outV (some g) (Ls ++ allF L d t).length) := by
  intro d
  induction d with
  | zero =>
    intro t hl hts sa sc a c o Ls w hlo hq hqs hp hps hpl hg hmax
    refine enterO (n := 58) (o := o) Try.func84 rfl rfl rfl (by repeat (first | exact Fill.nil | apply Fill.cons)) hg ?_
    refine cw_seq ?_
    refine cw_region ?_
    refine lstepB rfl rfl rfl (run_assign .const) ?_
    refine lnil ?_
    refine xw_then ?_
    refine cw_seq ?_
    refine cw_region ?_
    refine lstepB rfl rfl rfl (run_move (.tmp rfl)) ?_
    refine lstepB rfl rfl rfl (run_len (.tmp rfl) sl33) ?_
    refine lstepB rfl rfl rfl (run_assign (.tmp rfl)) ?_
    refine lnil ?_
    refine xw_then ?_
    refine cw_seq ?_
    refine cw_seq ?_
    refine cw_region ?_
    refine lstepB rfl rfl rfl (run_move (.tmp rfl)) ?_
    refine lstepB rfl rfl rfl (run_move (.tmp rfl)) ?_
    refine lstepB rfl rfl rfl (run_len (.tmp rfl) sl22) ?_
    refine lstepB rfl rfl rfl (run_eql (.tmp rfl) (.tmp rfl) (decide_eq_true (by omega))) ?_
    refine lnil ?_
    refine xw_then ?_
    refine cw_cond_true (.tmp rfl) ?_
    have hl1 : (Ls ++ allF L 0 t).length = Ls.length + 1 := by rw [List.length_append]; rfl
    rw [hl1] at *
    cases o with
    | none =>
      obtain rfl : Ls = [] := hg
      dsimp only [outV, HofO, TofO]
      refine cw_seq ?_
      refine cw_region ?_
      refine lstepB rfl rfl rfl (run_move (.tmp rfl)) ?_
      refine lstepB rfl rfl rfl (run_move (.tmp rfl)) ?_
      refine lstep rfl rfl rfl (LR.runs (lr_buildSlice_at (.cons (.tmp rfl) .nil) (fun w => bs73_1_0 w)) (by repeat (first | exact Pick.nil | (apply Pick.cons; focus (repeat (first | exact Del.here | apply Del.there))))) (by repeat (first | exact Dels.nil | (apply Dels.cons; focus (repeat (first | exact Del.here | apply Del.there)))))) ?_
      intro b20 _
      refine lstep rfl rfl rfl (LR.runs (R := [(b20, _)]) (A := []) (lr_append_nil ap73 (.tmp rfl) (.tmp rfl) (news := [.slice a t.length c]) rfl (by omega) (by omega) (by decide) (news_own (by repeat (first | exact List.Mem.head _ | apply List.Mem.tail)))) (by repeat (first | exact Pick.nil | (apply Pick.cons; focus (repeat (first | exact Del.here | apply Del.there))))) (by repeat (first | exact Dels.nil | (apply Dels.cons; focus (repeat (first | exact Del.here | apply Del.there)))))) ?_
      intro ⟨Y, cY, rY⟩ hY
      dsimp only at hY ⊢
      refine lstepB rfl rfl rfl (run_assign (.tmp rfl)) ?_
      refine lnil ?_
      refine xw_then ?_
      refine cw_ret ?_
      refine xw_then_ret ?_
      refine xw_ret1 Try.results84 rfl (fun w hS => ⟨(Y, cY, rY), leaf_good (o := none) (es := []) (hS.pick (by repeat (first | exact Pick.nil | (apply Pick.cons; focus (repeat (first | exact Del.here | apply Del.there)))))) ⟨rfl, fun i u h => by simp at h⟩ hp hps hpl hY, rfl⟩)
    | some g =>
      obtain ⟨gB, cB, rB⟩ := g
      obtain ⟨hcell, es, hrow, hent⟩ := hg
      dsimp only [outV, HofO, TofO] at *
      refine cw_seq ?_
      refine cw_region ?_
      refine lstepB rfl rfl rfl (run_move (.tmp rfl)) ?_
      refine lstepB rfl rfl rfl (run_move (.tmp rfl)) ?_
      refine lstep rfl rfl rfl (LR.runs (lr_buildSlice_at (.cons (.tmp rfl) .nil) (fun w => bs73_1_0 w)) (by repeat (first | exact Pick.nil | (apply Pick.cons; focus (repeat (first | exact Del.here | apply Del.there))))) (by repeat (first | exact Dels.nil | (apply Dels.cons; focus (repeat (first | exact Del.here | apply Del.there)))))) ?_
      intro b20 _
      refine lstep rfl rfl rfl (LR.runs (R := [(b20, _)]) (A := [(gB, _)]) (lr_append_row ap73 (.tmp rfl) hrow (.tmp rfl) (news := [.slice a t.length c]) rfl rfl (by omega) (by unfold maxLen; omega) (news_own (by repeat (first | exact List.Mem.head _ | apply List.Mem.tail)))) (by repeat (first | exact Pick.nil | (apply Pick.cons; focus (repeat (first | exact Del.here | apply Del.there))))) (by repeat (first | exact Dels.nil | (apply Dels.cons; focus (repeat (first | exact Del.here | apply Del.there)))))) ?_
      intro ⟨Y, cY, rY⟩ hY
      dsimp only at hY ⊢
      refine lstepB rfl rfl rfl (run_assign (.tmp rfl)) ?_
      refine lnil ?_
      refine xw_then ?_
      refine cw_ret ?_
      refine xw_then_ret ?_
      refine xw_ret1 Try.results84 rfl (fun w hS => ⟨(Y, cY, rY), leaf_good (o := some (gB, cB, rB)) (es := es) (hS.pick (by repeat (first | exact Pick.nil | (apply Pick.cons; focus (repeat (first | exact Del.here | apply Del.there)))))) hent hp hps hpl hY, rfl⟩)
  | succ d ih =>
    intro t hl hts sa sc a c o Ls w hlo hq hqs hp hps hpl hg hmax
    have htl : t.length < L.length := by omega
    have hqs := hqs (by omega)
    obtain ⟨bo, oo, hoa, hbo, hco⟩ := hq.span (by omega)
    subst hoa
    obtain ⟨sp, hsp⟩ : ∃ sp, sp = L.getD t.length default := ⟨_, rfl⟩
    have hsk : L[t.length]? = some sp := by rw [hsp]; exact getD_some htl
    have hfi := h12 sp (List.mem_of_getElem? hsk)
    have hall : allF L (d + 1) t = partF L d t sp.lo sp.hi (sp.hi - sp.lo + 1).toNat := by rw [hsp]; exact partF_all.symm
    refine enterO (n := 58) (o := o) Try.func84 rfl rfl rfl (by repeat (first | exact Fill.nil | apply Fill.cons)) hg ?_
    refine cw_seq ?_
    refine cw_region ?_
    refine lstepB rfl rfl rfl (run_assign .const) ?_
    refine lnil ?_
    refine xw_then ?_
    refine cw_seq ?_
    refine cw_region ?_
    refine lstepB rfl rfl rfl (run_move (.tmp rfl)) ?_
    refine lstepB rfl rfl rfl (run_len (.tmp rfl) sl33) ?_
    refine lstepB rfl rfl rfl (run_assign (.tmp rfl)) ?_
    refine lnil ?_
    refine xw_then ?_
    refine cw_seq ?_
    refine cw_seq ?_
    refine cw_region ?_
    refine lstepB rfl rfl rfl (run_move (.tmp rfl)) ?_
    refine lstepB rfl rfl rfl (run_move (.tmp rfl)) ?_
    refine lstepB rfl rfl rfl (run_len (.tmp rfl) sl22) ?_
    refine lstepB rfl rfl rfl (run_eql (.tmp rfl) (.tmp rfl) (decide_eq_false (by omega))) ?_
    refine lnil ?_
    refine xw_then ?_
    refine cw_cond_false (.tmp rfl) ?_
    refine cw_skip ?_
    refine xw_then ?_
    refine cw_seq ?_
    refine cw_seq ?_
    refine cw_region ?_
    refine lstepB rfl rfl rfl (run_move (.tmp rfl)) ?_
    refine lstepB rfl rfl rfl (run_move (.tmp rfl)) ?_
    refine lstepB rfl rfl rfl (run_indexAddr (i := t.length) (off' := oo + t.length * 2) (.tmp rfl) (.tmp rfl) el22 (by omega) rfl) ?_
    refine lstepB rfl rfl rfl (run_fieldAddr (.tmp rfl) fa28_0 (by first | exact Nat.zero_add _ | exact rfl)) ?_
    refine lstepB rfl rfl rfl (run_load1_at (.tmp rfl) kd3 (fun w' hS => hS.old_cell (hqs bo oo rfl).2 (hco t.length sp hsk 0 _ rfl))) ?_
    refine lstepB rfl rfl rfl (run_assign (.tmp rfl)) ?_
    refine lnil ?_
    refine xw_then ?_
    refine cw_block ?_
    have hz : sp.lo = sp.lo + ((0 : Nat) : Int) := by omega
    rw [hz]
    refine cw_loopW (S := Nat × World × OutD × Nat) (fun s => [(10, .int .i64 (sp.lo + (s.1 : Int))), (3, outV s.2.2.1 s.2.2.2)]) [(0, _), (1, _), (2, _), (9, _)] (fun s => s.2.1) (fun s => TofO s.2.2.1) (fun s => HofO s.2.2.1) (fun s => s.1 ≤ (sp.hi - sp.lo + 1).toNat ∧ SpansAt s.2.1 (some ⟨bo, oo, none⟩) L ∧ Sep s.2.1 (some ⟨bo, oo, none⟩) s.2.2.1 ∧ IntsAt s.2.1 a t ∧ Sep s.2.1 a s.2.2.1 ∧ GoodO lo s.2.1 s.2.2.1 (Ls ++ partF L d t sp.lo sp.hi s.1) ∧ s.2.2.2 = (Ls ++ partF L d t sp.lo sp.hi s.1).length ∧ ChainO w s.2.1 o s.2.2.1) (fun s => (sp.hi - sp.lo + 1).toNat - s.1) (0, w, o, Ls.length) ⟨Nat.zero_le _, hq, hqs, hp, hps, by rw [partF_zero, List.append_nil]; exact hg, by rw [partF_zero, List.append_nil], ⟨st_weak (st_own hg), fun b h => .inl h⟩⟩ (by repeat (first | exact Less.nil | refine Less.cons rfl ?_)) (fun _ h => h) ?_
    rintro ⟨j, wj, oj, m⟩ ⟨hj, hqj, hqsj, hpj, hpsj, hgj, hm, hch⟩
    dsimp only at hj hqj hqsj hpj hpsj hgj hm hch ⊢
    obtain ⟨b2, o2, e2, hb2, hcj⟩ := hqj.span (by omega)
    cases e2
    refine cw_seq ?_
    refine cw_seq ?_
    refine cw_region ?_
    refine lstepB rfl rfl rfl (run_move (.tmp rfl)) ?_
    refine lstepB rfl rfl rfl (run_move (.tmp rfl)) ?_
    refine lstepB rfl rfl rfl (run_move (.tmp rfl)) ?_
    refine lstepB rfl rfl rfl (run_indexAddr (i := t.length) (off' := oo + t.length * 2) (.tmp rfl) (.tmp rfl) el22 (by omega) rfl) ?_
    refine lstepB rfl rfl rfl (run_fieldAddr (.tmp rfl) fa28_1 (by first | exact Nat.zero_add _ | exact rfl)) ?_
    refine lstepB rfl rfl rfl (run_load1_at (.tmp rfl) kd3 (fun w' hS => hS.old_cell (hqsj bo oo rfl).2 (hcj t.length sp hsk 1 _ rfl))) ?_
    refine lstepB rfl rfl rfl (run_leq (.tmp rfl) (.tmp rfl) rfl) ?_
    refine lnil ?_
    refine xw_then ?_
    refine cw_cond_p (.tmp rfl) (fun hle => ?_) (fun hle => ?_)
    ·
      obtain ⟨o1, ho⟩ : ∃ o1, o1 = sp.lo + (j : Int) := ⟨_, rfl⟩
      rw [← ho] at hle ⊢
      have hjn : j < (sp.hi - sp.lo + 1).toNat := by omega
      have hlen : (t ++ [o1]).length = t.length + 1 := by simp
      have hts1 : ∀ x ∈ t ++ [o1], -12 ≤ x ∧ x ≤ 12 := fun x hx => by
        rcases List.mem_append.1 hx with h | h
        · exact hts x h
        · rw [List.mem_singleton] at h; subst h; omega
      have hsm : SmallL (t ++ [o1]) := fun x hx => by have := hts1 x hx; omega
      have hps2 := partF_succ (L := L) (d := d) (t := t) (lo := sp.lo) (hi := sp.hi) hjn
      rw [← ho] at hps2
      have hnew : Ls ++ partF L d t sp.lo sp.hi (j + 1) = (Ls ++ partF L d t sp.lo sp.hi j) ++ allF L d (t ++ [o1]) := by rw [hps2, List.append_assoc]
      have hmax2 : (Ls ++ partF L d t sp.lo sp.hi j).length + (allF L d (t ++ [o1])).length ≤ 100000 := by
        have h1 := partF_le (L := L) (d := d) (t := t) (lo := sp.lo) (hi := sp.hi) (i := j + 1) (j := (sp.hi - sp.lo + 1).toNat) (by omega)
        rw [← hall] at h1
        have h2 := congrArg List.length hnew
        rw [List.length_append, List.length_append] at h2
        omega
      rcases Nat.eq_zero_or_pos t.length with h0 | h0
      ·
        refine cw_skip ?_
        refine xw_then ?_
        refine cw_seq ?_
        refine cw_block ?_
        refine cw_seq ?_
        refine cw_region ?_
        refine lstep rfl rfl rfl (LR.runs (lr_buildSlice_at .nil (fun w => bs33_0_ w)) (by repeat (first | exact Pick.nil | (apply Pick.cons; focus (repeat (first | exact Del.here | apply Del.there))))) (by repeat (first | exact Dels.nil | (apply Dels.cons; focus (repeat (first | exact Del.here | apply Del.there)))))) ?_
        intro b36 _
        refine lstepB rfl rfl rfl (run_move (.tmp rfl)) ?_
        obtain rfl := List.eq_nil_of_length_eq_zero h0
        refine lstepB rfl rfl rfl (run_append_empty ap33 (.tmp rfl) (by omega) (.tmp rfl) rfl) ?_
        refine lstepB rfl rfl rfl (run_move (.tmp rfl)) ?_
        refine lstep rfl rfl rfl (LR.runs (lr_buildSlice_at (.cons (.tmp rfl) .nil) (fun w => bs33_1_0 w)) (by repeat (first | exact Pick.nil | (apply Pick.cons; focus (repeat (first | exact Del.here | apply Del.there))))) (by repeat (first | exact Dels.nil | (apply Dels.cons; focus (repeat (first | exact Del.here | apply Del.there)))))) ?_
        intro b40 _
        refine lstep rfl rfl rfl (LR.runs (R := [(b40, _)]) (A := [(b36, _)]) (lr_append_row ap33 (.tmp rfl) (xs := []) ⟨Nat.le_refl _, Nat.zero_le _, rfl, rfl⟩ (.tmp rfl) (news := [.int .i64 o1]) rfl rfl (by omega) (by unfold maxLen; omega) (news_own (by repeat (first | exact List.Mem.head _ | apply List.Mem.tail)))) (by repeat (first | exact Pick.nil | (apply Pick.cons; focus (repeat (first | exact Del.here | apply Del.there))))) (by repeat (first | exact Dels.nil | (apply Dels.cons; focus (repeat (first | exact Del.here | apply Del.there)))))) ?_
        intro ⟨Y, cY, rY⟩ hY
        dsimp only at hY ⊢
        have hY2 : InRow 1 1 cY rY (intsV (([] : List Int) ++ [o1])) := hY
        refine lstepB rfl rfl rfl (run_assign (.tmp rfl)) ?_
        refine lnil ?_
        refine xw_then ?_
        refine cw_seq ?_
        refine cw_region ?_
        refine lstepB rfl rfl rfl (run_move (.tmp rfl)) ?_
        refine lstepB rfl rfl rfl (run_lss (.tmp rfl) .const (decide_eq_true (by decide))) ?_
        refine lstepB rfl rfl rfl (run_move (.tmp rfl)) ?_
        refine lskip rfl rfl rfl rfl rfl rfl rfl ?_
        refine lskip rfl rfl rfl rfl rfl rfl rfl ?_
        refine lskip rfl rfl rfl rfl rfl rfl rfl ?_
        refine lskip rfl rfl rfl rfl rfl rfl rfl ?_
        refine lskip rfl rfl rfl rfl rfl rfl rfl ?_
        refine lskip rfl rfl rfl rfl rfl rfl rfl ?_
        refine lstepB rfl rfl rfl (by first | exact run_pick_true (.tmp rfl) .const | exact run_pick_false (.tmp rfl) (.tmp rfl)) ?_
        refine lnil ?_
        refine xw_then ?_
        refine cw_cond_true (.tmp rfl) ?_
        refine cw_region ?_
        refine lstepB rfl rfl rfl (run_move (.tmp rfl)) ?_
        refine lstepB rfl rfl rfl (run_move (.tmp rfl)) ?_
        refine lstepB rfl rfl rfl (run_move (.tmp rfl)) ?_
        refine lstepB rfl rfl rfl (run_move (.tmp rfl)) ?_
        refine lcallW rfl cb84 (.cons (.tmp rfl) (.cons (.tmp rfl) (.cons (.tmp rfl) (.cons (.tmp rfl) .nil)))) (G := fun (g : Nat × Nat × List Value) w2 w1 => WaysG lo w2 w1 oj g ((Ls ++ partF L d ([] : List Int) sp.lo sp.hi j) ++ allF L d (([] : List Int) ++ [o1]))) (rv := fun g => outV (some g) ((Ls ++ partF L d ([] : List Int) sp.lo sp.hi j) ++ allF L d (([] : List Int) ++ [o1])).length) (fun w2 hS => by
            have h := ih (([] : List Int) ++ [o1]) (by rw [hlen]; omega) hts1 (some ⟨bo, oo, none⟩) sc (some ⟨Y, 0, none⟩) cY oj (Ls ++ partF L d ([] : List Int) sp.lo sp.hi j) w2 (Nat.le_trans hlo (Nat.le_trans hch.st.size hS.size)) (rows_st hqj hqsj hS) (fun _ => sep_st hqsj hS) (intsAt_row (hS.mem (b := Y) (by repeat (first | exact List.Mem.head _ | apply List.Mem.tail))) hY2) (sep_own hS (by intro x hx; repeat (first | exact hx | apply List.Mem.tail))) (low_own hS (by intro x hx; repeat (first | exact hx | apply List.Mem.tail)) (Nat.le_trans hlo hch.st.size)) (good_st hgj hS (by intro x hx; repeat (first | exact hx | apply List.Mem.tail))) hmax2
            rw [← hm] at h
            exact h) (fun g => TofO (some g)) (fun g => HofO (some g)) (fun g w2 w1 hS hG => st_own hG.good) ?_
        intro g w2 w1 hS hG
        have hGg := hG.good
        rw [← hnew] at hGg
        refine lstepB rfl rfl rfl (run_assign (.tmp rfl)) ?_
        refine lnil ?_
        refine xw_in ?_
        refine xw_then ?_
        refine cw_region ?_
        refine lstepB rfl rfl rfl (run_move (.tmp rfl)) ?_
        refine lstepB rfl rfl rfl (run_add (c := o1 + 1) (.tmp rfl) .const (IntWalk.i64_in _ (by omega))) ?_
        refine lstepB rfl rfl rfl (run_assign (.tmp rfl)) ?_
        refine lnil ?_
        exact xw_roundW (j + 1, w1, some g, (Ls ++ partF L d ([] : List Int) sp.lo sp.hi (j + 1)).length) ⟨by simp only; omega, rows_st (rows_st hqj hqsj hS) (sep_st hqsj hS) hG.ch, hG.sep (sep_st hqsj hS), rows_st (rows_st hpj hpsj hS) (sep_st hpsj hS) hG.ch, hG.sep (sep_st hpsj hS), hGg, rfl, (hch.step hS).call hG⟩ (by show (sp.hi - sp.lo + 1).toNat - (j + 1) < (sp.hi - sp.lo + 1).toNat - j; omega) (by
          rw [hnew, show sp.lo + ((j + 1 : Nat) : Int) = o1 + 1 by omega]
          exact (by repeat (first | exact Less.nil | refine Less.cons rfl ?_))) (fun _ h => h)
      ·
        refine cw_skip ?_
        refine xw_then ?_
        refine cw_seq ?_
        refine cw_block ?_
        refine cw_seq ?_
        refine cw_region ?_
        refine lstep rfl rfl rfl (LR.runs (lr_buildSlice_at .nil (fun w => bs33_0_ w)) (by repeat (first | exact Pick.nil | (apply Pick.cons; focus (repeat (first | exact Del.here | apply Del.there))))) (by repeat (first | exact Dels.nil | (apply Dels.cons; focus (repeat (first | exact Del.here | apply Del.there)))))) ?_
        intro b36 _
        refine lstepB rfl rfl rfl (run_move (.tmp rfl)) ?_
        obtain ⟨bt, ot, hta, hbt, hct⟩ := hpj.int h0
        subst hta
        refine lstep rfl rfl rfl (LR.runs (R := []) (A := [(b36, _)]) (lr_append_row ap33 (.tmp rfl) (xs := []) ⟨Nat.le_refl _, Nat.zero_le _, rfl, rfl⟩ (.tmp rfl) (news := intsV t) (by simp [intsV]) (ints_plain t) (by omega) (by unfold maxLen; omega) (fun w' hS u v hj => by obtain ⟨x, hx, rfl⟩ := ints_at hj; exact hS.old_cell (hpsj bt ot rfl).2 (hct u x hx))) (by repeat (first | exact Pick.nil | (apply Pick.cons; focus (repeat (first | exact Del.here | apply Del.there))))) (by repeat (first | exact Dels.nil | (apply Dels.cons; focus (repeat (first | exact Del.here | apply Del.there)))))) ?_
        intro ⟨X, cX, rX⟩ hX
        dsimp only at hX ⊢
        rw [Nat.zero_add, List.nil_append] at hX
        simp only [Nat.zero_add]
        refine lstepB rfl rfl rfl (run_move (.tmp rfl)) ?_
        refine lstep rfl rfl rfl (LR.runs (lr_buildSlice_at (.cons (.tmp rfl) .nil) (fun w => bs33_1_0 w)) (by repeat (first | exact Pick.nil | (apply Pick.cons; focus (repeat (first | exact Del.here | apply Del.there))))) (by repeat (first | exact Dels.nil | (apply Dels.cons; focus (repeat (first | exact Del.here | apply Del.there)))))) ?_
        intro b40 _
        refine lstep rfl rfl rfl (LR.runs (R := [(b40, _)]) (A := [(X, _)]) (lr_append_row ap33 (.tmp rfl) hX (.tmp rfl) (news := [.int .i64 o1]) rfl rfl (by omega) (by unfold maxLen; omega) (news_own (by repeat (first | exact List.Mem.head _ | apply List.Mem.tail)))) (by repeat (first | exact Pick.nil | (apply Pick.cons; focus (repeat (first | exact Del.here | apply Del.there))))) (by repeat (first | exact Dels.nil | (apply Dels.cons; focus (repeat (first | exact Del.here | apply Del.there)))))) ?_
        intro ⟨Y, cY, rY⟩ hY
        dsimp only at hY ⊢
        have hY2 : InRow 1 (t.length + 1) cY rY (intsV (t ++ [o1])) := by rw [show intsV (t ++ [o1]) = intsV t ++ [.int .i64 o1] by simp [intsV]]; exact hY
        by_cases h2 : t.length < 2
        ·
          refine lstepB rfl rfl rfl (run_assign (.tmp rfl)) ?_
          refine lnil ?_
          refine xw_then ?_
          refine cw_seq ?_
          refine cw_region ?_
          refine lstepB rfl rfl rfl (run_move (.tmp rfl)) ?_
          refine lstepB rfl rfl rfl (run_lss (.tmp rfl) .const (decide_eq_true (by omega))) ?_
          refine lstepB rfl rfl rfl (run_move (.tmp rfl)) ?_
          refine lskip rfl rfl rfl rfl rfl rfl rfl ?_
          refine lskip rfl rfl rfl rfl rfl rfl rfl ?_
          refine lskip rfl rfl rfl rfl rfl rfl rfl ?_
          refine lskip rfl rfl rfl rfl rfl rfl rfl ?_
          refine lskip rfl rfl rfl rfl rfl rfl rfl ?_
          refine lskip rfl rfl rfl rfl rfl rfl rfl ?_
          refine lstepB rfl rfl rfl (by first | exact run_pick_true (.tmp rfl) .const | exact run_pick_false (.tmp rfl) (.tmp rfl)) ?_
          refine lnil ?_
          refine xw_then ?_
          refine cw_cond_true (.tmp rfl) ?_
          refine cw_region ?_
          refine lstepB rfl rfl rfl (run_move (.tmp rfl)) ?_
          refine lstepB rfl rfl rfl (run_move (.tmp rfl)) ?_
          refine lstepB rfl rfl rfl (run_move (.tmp rfl)) ?_
          refine lstepB rfl rfl rfl (run_move (.tmp rfl)) ?_
          refine lcallW rfl cb84 (.cons (.tmp rfl) (.cons (.tmp rfl) (.cons (.tmp rfl) (.cons (.tmp rfl) .nil)))) (G := fun (g : Nat × Nat × List Value) w2 w1 => WaysG lo w2 w1 oj g ((Ls ++ partF L d t sp.lo sp.hi j) ++ allF L d (t ++ [o1]))) (rv := fun g => outV (some g) ((Ls ++ partF L d t sp.lo sp.hi j) ++ allF L d (t ++ [o1])).length) (fun w2 hS => by
              have h := ih (t ++ [o1]) (by rw [hlen]; omega) hts1 (some ⟨bo, oo, none⟩) sc (some ⟨Y, 0, none⟩) cY oj (Ls ++ partF L d t sp.lo sp.hi j) w2 (Nat.le_trans hlo (Nat.le_trans hch.st.size hS.size)) (rows_st hqj hqsj hS) (fun _ => sep_st hqsj hS) (intsAt_row (hS.mem (b := Y) (by repeat (first | exact List.Mem.head _ | apply List.Mem.tail))) hY2) (sep_own hS (by intro x hx; repeat (first | exact hx | apply List.Mem.tail))) (low_own hS (by intro x hx; repeat (first | exact hx | apply List.Mem.tail)) (Nat.le_trans hlo hch.st.size)) (good_st hgj hS (by intro x hx; repeat (first | exact hx | apply List.Mem.tail))) hmax2
              rw [hlen, ← hm] at h
              exact h) (fun g => TofO (some g)) (fun g => HofO (some g)) (fun g w2 w1 hS hG => st_own hG.good) ?_
          intro g w2 w1 hS hG
          have hGg := hG.good
          rw [← hnew] at hGg
          refine lstepB rfl rfl rfl (run_assign (.tmp rfl)) ?_
          refine lnil ?_
          refine xw_in ?_
          refine xw_then ?_
          refine cw_region ?_
          refine lstepB rfl rfl rfl (run_move (.tmp rfl)) ?_
          refine lstepB rfl rfl rfl (run_add (c := o1 + 1) (.tmp rfl) .const (IntWalk.i64_in _ (by omega))) ?_
          refine lstepB rfl rfl rfl (run_assign (.tmp rfl)) ?_
          refine lnil ?_
          exact xw_roundW (j + 1, w1, some g, (Ls ++ partF L d t sp.lo sp.hi (j + 1)).length) ⟨by simp only; omega, rows_st (rows_st hqj hqsj hS) (sep_st hqsj hS) hG.ch, hG.sep (sep_st hqsj hS), rows_st (rows_st hpj hpsj hS) (sep_st hpsj hS) hG.ch, hG.sep (sep_st hpsj hS), hGg, rfl, (hch.step hS).call hG⟩ (by show (sp.hi - sp.lo + 1).toNat - (j + 1) < (sp.hi - sp.lo + 1).toNat - j; omega) (by
            rw [hnew, show sp.lo + ((j + 1 : Nat) : Int) = o1 + 1 by omega]
            exact (by repeat (first | exact Less.nil | refine Less.cons rfl ?_))) (fun _ h => h)
        ·
          refine lstepB rfl rfl rfl (run_assign (.tmp rfl)) ?_
          refine lnil ?_
          refine xw_then ?_
          refine cw_seq ?_
          refine cw_region ?_
          refine lstepB rfl rfl rfl (run_move (.tmp rfl)) ?_
          refine lstepB rfl rfl rfl (run_lss (.tmp rfl) .const (decide_eq_false (by omega))) ?_
          refine lstepB rfl rfl rfl (run_move (.tmp rfl)) ?_
          refine lyes rfl rfl rfl rfl ?_
          refine gstepB rfl rfl (run_move (.tmp rfl)) ?_
          refine lyes rfl rfl rfl rfl ?_
          refine gstepB rfl rfl (run_move (.tmp rfl)) ?_
          refine lyes rfl rfl rfl rfl ?_
          refine gstepB rfl rfl (run_sub (c := ((t.length - 1 : Nat) : Int)) (.tmp rfl) .const (by rw [show ((t.length - 1 : Nat) : Int) = (t.length : Int) - 1 by omega]; exact IntWalk.i64_in _ (by omega))) ?_
          refine lyes rfl rfl rfl rfl ?_
          refine gstepB rfl rfl (run_call1 cb52 (.cons (.tmp rfl) (.cons (.tmp rfl) .nil)) (fun w2 hS => by have h := rbendK (t ++ [o1]) (t.length - 1) (by omega) (by rw [hlen]; omega) (by rw [hlen]; omega) hsm (some ⟨Y, 0, none⟩) cY w2 (intsAt_row (hS.mem (b := Y) (by repeat (first | exact List.Mem.head _ | apply List.Mem.tail))) hY2); rw [hlen] at h; exact h)) ?_
          refine lyes rfl rfl rfl rfl ?_
          refine gstepB rfl rfl (run_move (.tmp rfl)) ?_
          refine lyes rfl rfl rfl rfl ?_
          refine gstepB rfl rfl (run_leq (.tmp rfl) (.tmp rfl) (decide_eq_true (bent_small hts1 _))) ?_
          refine lstepB rfl rfl rfl (by first | exact run_pick_true (.tmp rfl) .const | exact run_pick_false (.tmp rfl) (.tmp rfl)) ?_
          refine lnil ?_
          refine xw_then ?_
          refine cw_cond_true (.tmp rfl) ?_
          refine cw_region ?_
          refine lstepB rfl rfl rfl (run_move (.tmp rfl)) ?_
          refine lstepB rfl rfl rfl (run_move (.tmp rfl)) ?_
          refine lstepB rfl rfl rfl (run_move (.tmp rfl)) ?_
          refine lstepB rfl rfl rfl (run_move (.tmp rfl)) ?_
          refine lcallW rfl cb84 (.cons (.tmp rfl) (.cons (.tmp rfl) (.cons (.tmp rfl) (.cons (.tmp rfl) .nil)))) (G := fun (g : Nat × Nat × List Value) w2 w1 => WaysG lo w2 w1 oj g ((Ls ++ partF L d t sp.lo sp.hi j) ++ allF L d (t ++ [o1]))) (rv := fun g => outV (some g) ((Ls ++ partF L d t sp.lo sp.hi j) ++ allF L d (t ++ [o1])).length) (fun w2 hS => by
              have h := ih (t ++ [o1]) (by rw [hlen]; omega) hts1 (some ⟨bo, oo, none⟩) sc (some ⟨Y, 0, none⟩) cY oj (Ls ++ partF L d t sp.lo sp.hi j) w2 (Nat.le_trans hlo (Nat.le_trans hch.st.size hS.size)) (rows_st hqj hqsj hS) (fun _ => sep_st hqsj hS) (intsAt_row (hS.mem (b := Y) (by repeat (first | exact List.Mem.head _ | apply List.Mem.tail))) hY2) (sep_own hS (by intro x hx; repeat (first | exact hx | apply List.Mem.tail))) (low_own hS (by intro x hx; repeat (first | exact hx | apply List.Mem.tail)) (Nat.le_trans hlo hch.st.size)) (good_st hgj hS (by intro x hx; repeat (first | exact hx | apply List.Mem.tail))) hmax2
              rw [hlen, ← hm] at h
              exact h) (fun g => TofO (some g)) (fun g => HofO (some g)) (fun g w2 w1 hS hG => st_own hG.good) ?_
          intro g w2 w1 hS hG
          have hGg := hG.good
          rw [← hnew] at hGg
          refine lstepB rfl rfl rfl (run_assign (.tmp rfl)) ?_
          refine lnil ?_
          refine xw_in ?_
          refine xw_then ?_
          refine cw_region ?_
          refine lstepB rfl rfl rfl (run_move (.tmp rfl)) ?_
          refine lstepB rfl rfl rfl (run_add (c := o1 + 1) (.tmp rfl) .const (IntWalk.i64_in _ (by omega))) ?_
          refine lstepB rfl rfl rfl (run_assign (.tmp rfl)) ?_
          refine lnil ?_
          exact xw_roundW (j + 1, w1, some g, (Ls ++ partF L d t sp.lo sp.hi (j + 1)).length) ⟨by simp only; omega, rows_st (rows_st hqj hqsj hS) (sep_st hqsj hS) hG.ch, hG.sep (sep_st hqsj hS), rows_st (rows_st hpj hpsj hS) (sep_st hpsj hS) hG.ch, hG.sep (sep_st hpsj hS), hGg, rfl, (hch.step hS).call hG⟩ (by show (sp.hi - sp.lo + 1).toNat - (j + 1) < (sp.hi - sp.lo + 1).toNat - j; omega) (by
            rw [hnew, show sp.lo + ((j + 1 : Nat) : Int) = o1 + 1 by omega]
            exact (by repeat (first | exact Less.nil | refine Less.cons rfl ?_))) (fun _ h => h)
    ·
      obtain rfl : j = (sp.hi - sp.lo + 1).toNat := by omega
      rw [← hall] at hgj hm
      cases oj with
      | none =>
        have h1 := allF_some hfine (d + 1) t (by omega)
        have h2 : Ls ++ allF L (d + 1) t = [] := hgj
        rw [List.append_eq_nil_iff] at h2
        rw [h2.2] at h1
        exact absurd h1 (Nat.lt_irrefl 0)
      | some g =>
        refine cw_exit ?_
        refine xw_then_exit ?_
        refine xw_then_exit ?_
        refine xw_in_exit ?_
        refine xw_then ?_
        refine cw_seq ?_
        refine cw_region ?_
        refine lstepB rfl rfl rfl (run_move (.tmp rfl)) ?_
        refine lstepB rfl rfl rfl (run_assign (.tmp rfl)) ?_
        refine lnil ?_
        refine xw_then ?_
        refine cw_ret ?_
        refine xw_ret1 Try.results84 rfl (fun w hS => ⟨g, ⟨(hch.step hS).st, good_st hgj hS (by intro x hx; repeat (first | exact hx | apply List.Mem.tail)), hch.new _ rfl⟩, by rw [hm]⟩)
end Go.Proofs.Ytjdeplehhmhpcaa
