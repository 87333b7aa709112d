/- Package furrow: the search for a way, walked. -/
import Derived.Test.YtjdeplehhmhpcaaFG
namespace Go.Proofs.Ytjdeplehhmhpcaa
open Go.RowKit En

structure WayN (W0 : World) (q : WayA) : Prop where
  o : q.o ≠ q.bs ∧ q.o ≠ q.br ∧ q.o ≠ q.bo ∧ q.o ≠ q.bg ∧ W0.heap.size ≤ q.o
  m : q.m ≠ q.bs ∧ q.m ≠ q.br ∧ q.m ≠ q.bo ∧ q.m ≠ q.bg ∧ W0.heap.size ≤ q.m
  om : q.o ≠ q.m
theorem WayN.not {W0 : World} {q : WayA} (h : WayN W0 q) (x y : Obj) : NotIn (blk [(q.o, x), (q.m, y)]) W0 q := by
  obtain ⟨⟨a1, a2, a3, a4, a5⟩, ⟨c1, c2, c3, c4, c5⟩, _⟩ := h
  refine ⟨?_, ?_, ?_, ?_, fun b hb => ?_⟩
  all_goals
    rintro ⟨z, hz, e⟩
    rcases List.mem_cons.1 hz with rfl | hz
    · simp only at e; omega
    · rw [List.mem_singleton] at hz; subst hz; simp only at e; omega
theorem st_two {w : World} {b c : Nat} {x y : Obj} (hne : b ≠ c) (h1 : w.heap[b]? = some x) (h2 : w.heap[c]? = some y) : St w (blk [(b, x), (c, y)]) [(b, x), (c, y)] w :=
  ⟨rfl, rfl, rfl, Nat.le_refl _, fun _ _ _ => rfl, fun z hz => by
    refine ⟨?_, .inr ⟨z, hz, rfl⟩⟩
    rcases List.mem_cons.1 hz with rfl | hz
    · exact h1
    · rw [List.mem_singleton] at hz; subst hz; exact h2, by simp [hne]⟩
set_option maxRecDepth 100000 in
set_option maxHeartbeats 4000000 in
theorem goOnK {W0 : World} {q : WayA} {l : List SpotD} (hN0 : WayN W0 q) (hl : ∀ s ∈ l, SpotOk W0 s) (hp : SpotsAt W0 q.sa l) (hn : l.length ≤ 100) : ∀ (d k : Nat) (a b : Int) (w : World) (offs : List Int) (es : Array MapEntry) (ck : Nat) (R : List PlaceD), k + d = l.length → (-900 ≤ a ∧ a ≤ 900) → (-900 ≤ b ∧ b ≤ 900) → WayW W0 w q l.length → w.heap[q.o]? = some (oH q offs).2 → w.heap[q.m]? = some (mH q es ck).2 → offs.length = l.length → Ents placeV es R → Dead l k R →
    CallsF Try.prog 102 ((placeK k a b :: q.cs : List Value)).toArray w fun e w' => ∃ s : List Int × Array MapEntry × Nat × List PlaceD, After l d k a b offs R s ∧ e = .returned (.bool (goes l d k a b).isSome) ∧ Tr w w' [oH q offs, mH q es ck] [oH q s.1, mH q s.2.1 s.2.2.1] := by
  intro d
  induction d with
  | zero =>
    intro k a b w offs es ck R hkd ha hb hW ho hm hl0 he hd
    have hN := hN0.not (oH q offs).2 (mH q es ck).2
    have hS0 := st_two hN0.om ho hm
    refine enterH Try.func102 rfl rfl rfl (by repeat (first | exact Fill.nil | apply Fill.cons)) hS0 ?_
    obtain rfl : k = l.length := by omega
    refine cw_seq ?_
    refine cw_region ?_
    refine lstep rfl rfl rfl (run_boxN (.tmp rfl)) ?_
    intro b5 _
    refine lstepB rfl rfl rfl (run_assign .const) ?_
    refine lnil ?_
    refine xw_then ?_
    refine cw_scope ?_
    refine cw_seq ?_
    refine cw_seq ?_
    refine cw_region ?_
    refine lstepB rfl rfl rfl (run_fieldAddr (.tmp rfl) fa129_0 (by first | exact Nat.zero_add _ | exact rfl)) ?_
    refine lstepB rfl rfl rfl (run_load1 (.tmp rfl) kd3 (by repeat (first | exact List.Mem.head _ | apply List.Mem.tail)) (by exact rfl)) ?_
    refine lstepB rfl rfl rfl (run_load1_at (.tmp rfl) kd108 (fun w' hS => hS.old_cell hN.bs hW.cs_)) ?_
    refine lstepB rfl rfl rfl (run_len (.tmp rfl) sl108) ?_
    refine lstepB rfl rfl rfl (run_eql (.tmp rfl) (.tmp rfl) rfl) ?_
    refine lnil ?_
    refine xw_then ?_
    refine cw_cond_p (.tmp rfl) (fun hc => ?_) (fun hc => ?_)
    ·
      refine cw_seq ?_
      refine cw_region ?_
      refine lstepB rfl rfl rfl (run_assign .const) ?_
      refine lnil ?_
      refine xw_then ?_
      refine cw_ret ?_
      refine xw_then_ret ?_
      refine xw_scope_ret ?_
      refine xw_ret1 Try.results102 rfl (fun w2 hS => ⟨(offs, es, ck, R), ⟨he, hl0, rfl, fun p hp => .inl hp, fun t ht => (by cases ht; show offs.drop l.length = []; exact List.drop_of_length_le (by omega)), fun h => (by cases h)⟩, rfl, tr_blk (hS.pick (by repeat (first | exact Pick.nil | (apply Pick.cons; focus (repeat (first | exact Del.here | apply Del.there))))))⟩)
    ·
      exact absurd rfl hc
  | succ d goOn =>
    intro k a b w offs es ck R hkd ha hb hW ho hm hl0 he hd
    have hN := hN0.not (oH q offs).2 (mH q es ck).2
    have hS0 := st_two hN0.om ho hm
    refine enterH Try.func102 rfl rfl rfl (by repeat (first | exact Fill.nil | apply Fill.cons)) hS0 ?_
    have hkl : k < l.length := by omega
    refine cw_seq ?_
    refine cw_region ?_
    refine lstep rfl rfl rfl (run_boxN (.tmp rfl)) ?_
    intro b5 _
    refine lstepB rfl rfl rfl (run_assign .const) ?_
    refine lnil ?_
    refine xw_then ?_
    refine cw_scope ?_
    refine cw_seq ?_
    refine cw_seq ?_
    refine cw_region ?_
    refine lstepB rfl rfl rfl (run_fieldAddr (.tmp rfl) fa129_0 (by first | exact Nat.zero_add _ | exact rfl)) ?_
    refine lstepB rfl rfl rfl (run_load1 (.tmp rfl) kd3 (by repeat (first | exact List.Mem.head _ | apply List.Mem.tail)) (by exact rfl)) ?_
    refine lstepB rfl rfl rfl (run_load1_at (.tmp rfl) kd108 (fun w' hS => hS.old_cell hN.bs hW.cs_)) ?_
    refine lstepB rfl rfl rfl (run_len (.tmp rfl) sl108) ?_
    refine lstepB rfl rfl rfl (run_eql (.tmp rfl) (.tmp rfl) rfl) ?_
    refine lnil ?_
    refine xw_then ?_
    refine cw_cond_p (.tmp rfl) (fun hc => ?_) (fun hc => ?_)
    ·
      exact absurd hc (by omega)
    ·
      refine cw_skip ?_
      refine xw_then ?_
      refine cw_seq ?_
      refine cw_seq ?_
      refine cw_region ?_
      refine lstepB rfl rfl rfl (run_load1_at (.tmp rfl) kd125 (fun w' hS => hS.old_cell hN.br hW.cr)) ?_
      refine lstepB rfl rfl rfl (run_loadN (.tmp rfl) kd129 sz129 (by repeat (first | exact List.Mem.head _ | apply List.Mem.tail)) (by repeat (first | exact Sub.done | apply Sub.take | apply Sub.skip))) ?_
      refine lstepB rfl rfl rfl (run_lookup keyT (p := ⟨(k : Int), a, b⟩) (.tmp rfl) (.tmp rfl) (by repeat (first | exact List.Mem.head _ | apply List.Mem.tail)) he) ?_
      refine lnil ?_
      refine xw_then ?_
      refine cw_cond_p (.tmp rfl) (fun hc2 => ?_) (fun hc2 => ?_)
      ·
        refine cw_seq ?_
        refine cw_region ?_
        refine lstepB rfl rfl rfl (run_assign .const) ?_
        refine lnil ?_
        refine xw_then ?_
        refine cw_ret ?_
        refine xw_then_ret ?_
        refine xw_scope_ret ?_
        have hdp := hd ⟨(k : Int), a, b⟩ hc2 (Int.le_refl _)
        have hdp : goes l (d + 1) k a b = none := by
          have := hdp
          unfold deadP at this
          simpa [show l.length - k = d + 1 by omega] using this
        refine xw_ret1 Try.results102 rfl (fun w2 hS => ⟨(offs, es, ck, R), ⟨he, hl0, rfl, fun p hp => .inl hp, fun t ht => (by rw [hdp] at ht; cases ht), fun _ => hd⟩, by rw [hdp]; rfl, tr_blk (hS.pick (by repeat (first | exact Pick.nil | (apply Pick.cons; focus (repeat (first | exact Del.here | apply Del.there))))))⟩)
      ·
        obtain ⟨s, hs⟩ : ∃ s, l[k]? = some s := ⟨_, List.getElem?_eq_getElem hkl⟩
        obtain ⟨b0, o0, hsa, hb0, hc0⟩ := hp.spot (by omega)
        have hcs := hW.cs_
        rw [hsa] at hcs
        have hso := hl s (List.mem_of_getElem? hs)
        have hgd : l.getD k default = s := by rw [List.getD_eq_getElem?_getD, hs]; rfl
        have hlo := hso.lo
        have hhi := hso.hi
        have hgs := goes_succ l d k a b
        rw [hgd] at hgs
        have hEnt := he.push (⟨(k : Int), a, b⟩ : PlaceD) ck
        refine cw_skip ?_
        refine xw_then ?_
        refine cw_seq ?_
        refine cw_region ?_
        refine lstepB rfl rfl rfl (run_load1_at (.tmp rfl) kd125 (fun w' hS => hS.old_cell hN.br hW.cr)) ?_
        refine lstepB rfl rfl rfl (run_loadN (.tmp rfl) kd129 sz129 (by repeat (first | exact List.Mem.head _ | apply List.Mem.tail)) (by repeat (first | exact Sub.done | apply Sub.take | apply Sub.skip))) ?_
        refine lstep0 rfl rfl (run_mapUpdate keyT (p := ⟨(k : Int), a, b⟩) (.tmp rfl) (.tmp rfl) .const he hc2 (by repeat (first | exact Upd.here | apply Upd.there))) ?_
        refine lnil ?_
        refine xw_then ?_
        refine cw_seq ?_
        refine cw_region ?_
        refine lstep rfl rfl rfl (run_alloc zr4) ?_
        intro b7 _
        refine lstep0 rfl rfl (run_store1 (.tmp rfl) .const rfl sz4 (by repeat (first | exact Upd.here | apply Upd.there)) (by repeat (first | exact Put.done | apply Put.put | apply Put.skip))) ?_
        refine lnil ?_
        refine xw_then ?_
        refine cw_seq ?_
        refine cw_label ?_
        refine xw_then ?_
        refine cw_seq ?_
        refine cw_seq ?_
        refine cw_region ?_
        refine lstepB rfl rfl rfl (run_load1_at (.tmp rfl) kd108 (fun w' hS => hS.old_cell hN.bs hcs)) ?_
        refine lstepB rfl rfl rfl (run_fieldAddr (.tmp rfl) fa129_0 (by first | exact Nat.zero_add _ | exact rfl)) ?_
        refine lstepB rfl rfl rfl (run_load1 (.tmp rfl) kd3 (by repeat (first | exact List.Mem.head _ | apply List.Mem.tail)) (by exact rfl)) ?_
        refine lstepB rfl rfl rfl (run_indexAddr (i := k) (off' := o0 + k * 3) (.tmp rfl) (.tmp rfl) el108 hkl rfl) ?_
        refine lstepB rfl rfl rfl (run_fieldAddr (.tmp rfl) fa124_0 (by first | exact Nat.zero_add _ | exact rfl)) ?_
        refine lstepB rfl rfl rfl (run_loadN_at (l := [.int .i64 s.lo, .int .i64 s.hi]) (.tmp rfl) kd67 sz67 rfl (fun w' hS j v hj => hS.old_cell (hN.old b0 hb0) ((cell_kept hW.below hb0).trans (by match j, hj with | 0, hj => cases hj; exact hc0 k s hs 0 _ rfl | 1, hj => cases hj; exact hc0 k s hs 1 _ rfl)))) ?_
        refine lcallN rfl cb78 (.cons (.tmp rfl) .nil) (F := fun (z0 : Nat) B0 w' => AllF (s.lo) (s.hi) z0 B0 w') (fun w _ => allK _ _ w) ?_
        rintro zx Bx wx hAx hlox hsx htx hx
        have hWx := hW.next hN hx
        have hNx := hW.not hN hx
        obtain ⟨K, hK⟩ : ∃ K, K = k := ⟨_, rfl⟩
        obtain ⟨lo, hlo'⟩ : ∃ z, z = s.lo := ⟨_, rfl⟩
        have hF0 : Ents placeV (es.push { key := placeV ⟨(k : Int), a, b⟩, val := .bool true, born := ck }) (R ++ [⟨(k : Int), a, b⟩]) ∧ offs.length = l.length ∧ offs.take K = offs.take K ∧ (∀ p ∈ R ++ [(⟨(k : Int), a, b⟩ : PlaceD)], p ∈ R ∨ p = ⟨(K : Int), a, b⟩ ∨ ((K + 1 : Nat) : Int) ≤ p.k) ∧ Dead l (K + 1) (R ++ [⟨(k : Int), a, b⟩]) ∧ ∀ i : Nat, i < 0 → cand l d K a b (lo + (i : Int)) = none := by
          subst hK
          refine ⟨hEnt, hl0, rfl, fun p hp => ?_, fun p hp hk2 => ?_, fun i hi => absurd hi (Nat.not_lt_zero i)⟩
          · rcases List.mem_append.1 hp with h | h
            · exact .inl h
            · exact .inr (.inl (List.mem_singleton.1 h))
          · rcases List.mem_append.1 hp with h | h
            · exact hd p h (by omega)
            · rw [List.mem_singleton.1 h] at hk2
              exact absurd hk2 (by simp only; omega)
        refine lnil ?_
        refine xw_then ?_
        refine cw_block ?_
        refine cw_range (f := 100) (xs := intsV (upL (s.lo) (s.hi))) (Cap := fun c => c = zx) (S := (List Int × Array MapEntry × Nat × List PlaceD)) (fun s => oH q s.1 :: mH q s.2.1 s.2.2.1 :: (b7, Obj.cells [.bool false].toArray 4 (0, 0)) :: (b5, Obj.cells [.int .i64 (k : Int), .int .i64 a, .int .i64 b].toArray 129 (0, 0)) :: []) (fun k s => Ents placeV s.2.1 s.2.2.2 ∧ s.1.length = l.length ∧ s.1.take K = offs.take K ∧ (∀ p ∈ s.2.2.2, p ∈ R ∨ p = ⟨(K : Int), a, b⟩ ∨ ((K + 1 : Nat) : Int) ≤ p.k) ∧ Dead l (K + 1) s.2.2.2 ∧ ∀ i : Nat, i < k → cand l d K a b (lo + (i : Int)) = none) (offs, _, _, R ++ [⟨(k : Int), a, b⟩]) cb100 (.tmp rfl) rfl
          (fun w hS => all_iter (s.lo) (s.hi) zx w (by omega) (hS.old_cell (fun h => absurd (hlox _ h) (by have := hAx.1; omega)) hAx.2.1) (hS.old_cell (fun h => absurd (hlox _ h) (by have := hAx.1; omega)) hAx.2.2))
          (fun c hc => by subst hc; exact ⟨World.block_lt_of_cell? _ _ hAx.2.1, fun h => absurd (hlox _ h) (by have := hAx.1; omega)⟩) hF0 (by repeat (first | exact Pick.nil | exact Pick.refl _ | (apply Pick.cons; focus (repeat (first | exact Del.here | apply Del.there))) | exact Pick.skip (Pick.refl _) | exact Pick.skip (Pick.skip (Pick.refl _)))) ?_ ?_
        ·
          intro L D fn tm j st x w2 hx2 hF h2
          subst hK
          subst hlo'
          obtain ⟨hj, rfl⟩ := upV_inv hx2
          obtain ⟨o1, es1, ck1, R1⟩ := st
          obtain ⟨f1, f2, f3, f4, f5, f6⟩ := hF
          dsimp only at f1 f2 f3 f4 f5 f6 h2 ⊢
          have hW2 := hWx.next hNx h2
          have hN2 := hWx.not hNx h2
          have hxj : -900 ≤ s.lo + (j : Int) ∧ s.lo + (j : Int) ≤ 900 := by omega
          have hcand : cand l d K a b (s.lo + (j : Int)) = if letsB l K a b (s.lo + (j : Int)) then (goes l d (K + 1) b (s.lo + (j : Int))).map ((s.lo + (j : Int)) :: ·) else none := rfl
          have hset := take_set (A := o1) (k := K) (x := s.lo + (j : Int))
          have hput := put_int o1 K (s.lo + (j : Int)) (by omega)
          cases hle : letsB l K a b (s.lo + (j : Int))
          ·
            refine cw_region ?_
            refine lstepB rfl rfl rfl (run_assign (.tmp rfl)) ?_
            refine lnil ?_
            refine xw_begin rfl ?_
            refine cw_block ?_
            refine cw_seq ?_
            refine cw_region ?_
            refine lstepB rfl rfl rfl (run_load1_at (.tmp rfl) kd33 (fun w' hS => hS.old_cell hN2.bo hW2.co)) ?_
            refine lstepB rfl rfl rfl (run_fieldAddr (.tmp rfl) fa129_0 (by first | exact Nat.zero_add _ | exact rfl)) ?_
            refine lstepB rfl rfl rfl (run_load1 (.tmp rfl) kd3 (by repeat (first | exact List.Mem.head _ | apply List.Mem.tail)) (by exact rfl)) ?_
            refine lstepB rfl rfl rfl (run_move (.tmp rfl)) ?_
            refine lstepB rfl rfl rfl (run_indexAddr (i := K) (off' := K) (.tmp rfl) (.tmp rfl) el33 hkl (by omega)) ?_
            refine lstep0 rfl rfl (run_store1 (.tmp rfl) (.tmp rfl) rfl sz3 (by repeat (first | exact Upd.here | apply Upd.there)) hput) ?_
            refine lnil ?_
            refine xw_then ?_
            refine cw_block ?_
            refine cw_seq ?_
            refine cw_region ?_
            refine lstepB rfl rfl rfl (run_loadN (.tmp rfl) kd129 sz129 (by repeat (first | exact List.Mem.head _ | apply List.Mem.tail)) (by repeat (first | exact Sub.done | apply Sub.take | apply Sub.skip))) ?_
            refine lstepB rfl rfl rfl (run_load1_at (.tmp rfl) kd108 (fun w' hS => hS.old_cell hN2.bs hW2.cs_)) ?_
            refine lstepB rfl rfl rfl (run_move (.tmp rfl)) ?_
            refine lstepB rfl rfl rfl (run_call1 cb103 (.cons (.tmp rfl) (.cons (.tmp rfl) (.cons (.tmp rfl) .nil))) (fun w3 hS => (letsK l K a b (s.lo + (j : Int)) q.sa q.sc W0 w3 (hW2.next hN2 hS).below hp hl hkl (by omega) ha hb hxj).as (congrArg Value.bool hle))) ?_
            refine lstepB rfl rfl rfl (run_not (.tmp rfl) (by first | exact Bool.not_true | exact Bool.not_false | exact rfl)) ?_
            refine lstepB rfl rfl rfl (run_assign (.tmp rfl)) ?_
            refine lnil ?_
            refine xw_then ?_
            refine cw_cond_true (.tmp rfl) ?_
            refine cw_exit ?_
            refine xw_in_other rfl ?_
            refine xw_in_exit ?_
            exact xw_rnext (o1.set K (s.lo + (j : Int)), es1, ck1, R1) ⟨f1, by simpa using f2, hset.trans f3, f4, f5, fun i hi => (by rcases Nat.lt_succ_iff_lt_or_eq.1 hi with h | rfl; exact f6 i h; rw [hcand, hle]; rfl)⟩ (by repeat (first | exact Pick.nil | exact Pick.refl _ | (apply Pick.cons; focus (repeat (first | exact Del.here | apply Del.there))) | exact Pick.skip (Pick.refl _) | exact Pick.skip (Pick.skip (Pick.refl _))))
          ·
            refine cw_region ?_
            refine lstepB rfl rfl rfl (run_assign (.tmp rfl)) ?_
            refine lnil ?_
            refine xw_begin rfl ?_
            refine cw_block ?_
            refine cw_seq ?_
            refine cw_region ?_
            refine lstepB rfl rfl rfl (run_load1_at (.tmp rfl) kd33 (fun w' hS => hS.old_cell hN2.bo hW2.co)) ?_
            refine lstepB rfl rfl rfl (run_fieldAddr (.tmp rfl) fa129_0 (by first | exact Nat.zero_add _ | exact rfl)) ?_
            refine lstepB rfl rfl rfl (run_load1 (.tmp rfl) kd3 (by repeat (first | exact List.Mem.head _ | apply List.Mem.tail)) (by exact rfl)) ?_
            refine lstepB rfl rfl rfl (run_move (.tmp rfl)) ?_
            refine lstepB rfl rfl rfl (run_indexAddr (i := K) (off' := K) (.tmp rfl) (.tmp rfl) el33 hkl (by omega)) ?_
            refine lstep0 rfl rfl (run_store1 (.tmp rfl) (.tmp rfl) rfl sz3 (by repeat (first | exact Upd.here | apply Upd.there)) hput) ?_
            refine lnil ?_
            refine xw_then ?_
            refine cw_block ?_
            refine cw_seq ?_
            refine cw_region ?_
            refine lstepB rfl rfl rfl (run_loadN (.tmp rfl) kd129 sz129 (by repeat (first | exact List.Mem.head _ | apply List.Mem.tail)) (by repeat (first | exact Sub.done | apply Sub.take | apply Sub.skip))) ?_
            refine lstepB rfl rfl rfl (run_load1_at (.tmp rfl) kd108 (fun w' hS => hS.old_cell hN2.bs hW2.cs_)) ?_
            refine lstepB rfl rfl rfl (run_move (.tmp rfl)) ?_
            refine lstepB rfl rfl rfl (run_call1 cb103 (.cons (.tmp rfl) (.cons (.tmp rfl) (.cons (.tmp rfl) .nil))) (fun w3 hS => (letsK l K a b (s.lo + (j : Int)) q.sa q.sc W0 w3 (hW2.next hN2 hS).below hp hl hkl (by omega) ha hb hxj).as (congrArg Value.bool hle))) ?_
            refine lstepB rfl rfl rfl (run_not (.tmp rfl) (by first | exact Bool.not_true | exact Bool.not_false | exact rfl)) ?_
            refine lstepB rfl rfl rfl (run_assign (.tmp rfl)) ?_
            refine lnil ?_
            refine xw_then ?_
            refine cw_cond_false (.tmp rfl) ?_
            refine cw_seq ?_
            have hne := after_ne l d (K + 1) b (s.lo + (j : Int)) (o1.set K (s.lo + (j : Int))) es1 ck1 R1 (by omega) (by simpa using f2) f1 f5
            refine cw_chain2 (σ := [0, 1, 2, 3, 4, 5]) [⟨0, [], [], [], 0⟩, ⟨0, [5], [], [], 0⟩, ⟨0, [], [], [], 0⟩, ⟨0, [], [], [], 6⟩, ⟨1, [], [2, 3], [2, 3], 15⟩, ⟨0, [], [], [], 31⟩] [(0, _), (1, _), (2, _), (3, _), (4, _), (5, _)] (by kernel_rfl) (by kernel_rfl) rfl ?_
            refine .det (B := []) rfl rfl (.inl rfl) .nil .nil rfl (RunB.lr (run_load1_at (.tmp rfl) kd126 (fun w' hS => hS.old_cell hN2.bg hW2.cg))) ?_
            refine .det (B := []) rfl rfl (.inl rfl) (.cons rfl .nil) .nil rfl (RunB.lr (run_loadN (.tmp rfl) kd129 sz129 (by repeat (first | exact List.Mem.head _ | apply List.Mem.tail)) (by repeat (first | exact Sub.done | apply Sub.take | apply Sub.skip)))) ?_
            refine .det (B := []) rfl rfl (.inl rfl) .nil .nil rfl (RunB.lr (run_move (.tmp rfl))) ?_
            refine .det (B := []) rfl rfl (.inl rfl) .nil .nil rfl (RunB.lr (run_call1 cb104 (.cons (.tmp rfl) (.cons (.tmp rfl) .nil)) (fun w3 _ => nextK ⟨(K : Int), a, b⟩ _ w3 (by simp only; omega)))) ?_
            refine .ext (B := fun z => [(2, oH q z.1), (3, mH q z.2.1 z.2.2.1)]) rfl rfl (.inl rfl) .nil (.cons rfl (.cons rfl .nil)) (fun _ => rfl) hne (lr_callv (r := fun z => .bool (goes l d (K + 1) b (s.lo + (j : Int))).isSome) cb102 (.tmp rfl) (.cons (.tmp rfl) .nil) rfl (fun w3 hS hA => goOn (K + 1) b (s.lo + (j : Int)) w3 (o1.set K (s.lo + (j : Int))) es1 ck1 R1 (by omega) hb hxj (hW2.next hN2 hS) (hA (oH q (o1.set K (s.lo + (j : Int)))) (List.Mem.head _)) (hA (mH q es1 ck1) (List.Mem.tail _ (List.Mem.head _))) (by simpa using f2) f1 f5)) ?_
            rintro ⟨o2, es2, ck2, R2⟩ hA2
            refine .det (B := []) rfl rfl (.inl rfl) .nil .nil rfl (RunB.lr (run_assign (.tmp rfl))) ?_
            refine chain_nil (ts := [0, 1, 2, 3, 4, 5]) (.cons rfl (.cons rfl (.cons rfl (.cons rfl (.cons rfl (.cons rfl .nil)))))) (by decide) ?_
            dsimp only at hA2 ⊢
            cases hg : goes l d (K + 1) b (s.lo + (j : Int))
            case none =>
              have hdn := hA2.none_ hg
              refine xw_then ?_
              refine cw_cond_false (.tmp rfl) ?_
              refine cw_skip ?_
              refine xw_in ?_
              refine xw_in ?_
              exact xw_rnext (o2, es2, ck2, R2) ⟨hA2.ents, hA2.len, (by have e := congrArg (List.take K) hA2.take; rw [List.take_take, List.take_take, Nat.min_eq_left (Nat.le_succ K)] at e; exact (e.trans hset).trans f3), fun p hp => (by rcases hA2.new p hp with h | h; exact f4 p h; exact .inr (.inr h)), hdn, fun i hi => (by rcases Nat.lt_succ_iff_lt_or_eq.1 hi with h | rfl; exact f6 i h; rw [hcand, hle, hg]; rfl)⟩ (by repeat (first | exact Pick.nil | exact Pick.refl _ | (apply Pick.cons; focus (repeat (first | exact Del.here | apply Del.there))) | exact Pick.skip (Pick.refl _) | exact Pick.skip (Pick.skip (Pick.refl _))))
            case some =>
              rename_i t
              refine xw_then ?_
              refine cw_cond_true (.tmp rfl) ?_
              refine cw_seq ?_
              refine cw_region ?_
              refine lstep0 rfl rfl (run_store1 (.tmp rfl) .const rfl sz4 (by repeat (first | exact Upd.here | apply Upd.there)) (by repeat (first | exact Put.done | apply Put.put | apply Put.skip))) ?_
              refine lnil ?_
              refine xw_then ?_
              refine cw_exit ?_
              refine xw_in_other rfl ?_
              refine xw_in_other rfl ?_
              refine xw_rexit (H' := oH q o2 :: mH q es2 ck2 :: (b7, _) :: []) (by repeat (first | exact Pick.nil | (apply Pick.cons; focus (repeat (first | exact Del.here | apply Del.there))))) ?_
              refine xw_in_exit ?_
              refine xw_then ?_
              refine cw_seq ?_
              refine cw_region ?_
              refine lstepB rfl rfl rfl (run_load1 (.tmp rfl) kd4 (by repeat (first | exact List.Mem.head _ | apply List.Mem.tail)) (by exact rfl)) ?_
              refine lstepB rfl rfl rfl (run_assign (.tmp rfl)) ?_
              refine lnil ?_
              refine xw_then ?_
              refine cw_ret ?_
              refine xw_scope_ret ?_
              have hfin : goes l (d + 1) K a b = some ((s.lo + (j : Int)) :: t) := by
                rw [hgs]
                exact findUp f6 hj (by rw [hcand, hle, hg]; rfl)
              refine xw_pick (H' := [(D, dfr), oH q o2, mH q es2 ck2]) (by repeat (first | exact Pick.nil | (apply Pick.cons; focus (repeat (first | exact Del.here | apply Del.there))))) ?_
              refine xw_retD1 Try.results102 rfl (fun w3 hS3 => ⟨(o2, es2, ck2, R2), ⟨hA2.ents, hA2.len, ?_, fun p hp => ?_, fun t' ht' => ?_, fun h => (by rw [hfin] at h; cases h)⟩, by rw [hfin]; rfl, tr_blk (hx.join0 hS3)⟩)
              · have e := congrArg (List.take K) hA2.take
                rw [List.take_take, List.take_take, Nat.min_eq_left (Nat.le_succ K)] at e
                exact (e.trans hset).trans f3
              · rcases hA2.new p hp with h | h
                · rcases f4 p h with h | rfl | h
                  · exact .inl h
                  · exact .inr (Int.le_refl _)
                  · exact .inr (by omega)
                · exact .inr (by omega)
              · rw [hfin] at ht'
                cases ht'
                exact drop_cons hA2.take (hA2.some_ _ hg) (by omega) (by rw [hA2.len, f2])
        ·
          intro D st hF
          subst hK
          subst hlo'
          obtain ⟨o1, es1, ck1, R1⟩ := st
          obtain ⟨f1, f2, f3, f4, f5, f6⟩ := hF
          dsimp only at f1 f2 f3 f4 f5 f6 ⊢
          refine xw_in ?_
          refine xw_then ?_
          refine cw_seq ?_
          refine cw_region ?_
          refine lstepB rfl rfl rfl (run_load1 (.tmp rfl) kd4 (by repeat (first | exact List.Mem.head _ | apply List.Mem.tail)) (by exact rfl)) ?_
          refine lstepB rfl rfl rfl (run_assign (.tmp rfl)) ?_
          refine lnil ?_
          refine xw_then ?_
          refine cw_ret ?_
          refine xw_scope_ret ?_
          have hfin : goes l (d + 1) K a b = none := by
            rw [hgs]
            exact findUp_none (fun i hi => f6 i (by simpa [intsV, upL_length] using hi))
          refine xw_pick (H' := [(D, dfr), oH q o1, mH q es1 ck1]) (by repeat (first | exact Pick.nil | (apply Pick.cons; focus (repeat (first | exact Del.here | apply Del.there))))) ?_
          refine xw_retD1 Try.results102 rfl (fun w3 hS3 => ⟨(o1, es1, ck1, R1), ⟨f1, f2, f3, fun p hp => ?_, fun t' ht' => (by rw [hfin] at ht'; cases ht'), fun _ p hp hpk => ?_⟩, by rw [hfin]; rfl, tr_blk (hx.join0 hS3)⟩)
          · rcases f4 p hp with h | rfl | h
            · exact .inl h
            · exact .inr (Int.le_refl _)
            · exact .inr (by omega)
          · rcases f4 p hp with h | rfl | h
            · exact hd p h hpk
            · show goes l (l.length - ((K : Nat) : Int).toNat) ((K : Nat) : Int).toNat a b = none
              rw [Int.toNat_natCast, show l.length - K = d + 1 by omega]
              exact hfin
            · exact f5 p hp h
end Go.Proofs.Ytjdeplehhmhpcaa
