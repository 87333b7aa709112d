/- Soil: the document's own hardness, as the program computes it. -/
import Derived.Test.YtfmbnobkenngaaaIA
namespace Go.Proofs.Ytfmbnobkenngaaa
open Go.RowKit En

abbrev spanV (s : SpanD) : List Value := [.int .i64 s.lo, .int .i64 s.hi]
theorem put_span {s : SpanD} {rest : List Value} : ∀ (L : List SpanD) (i : Nat), i < L.length → Put (spansC L ++ rest) (i * 2) [.int .i64 s.lo, .int .i64 s.hi] (spansC (L.set i s) ++ rest)
  | [], i, h => by simp at h
  | a :: r, 0, _ => Put.put (Put.put Put.done)
  | a :: r, i + 1, h => by
    have ih := put_span (s := s) (rest := rest) r i (by simpa using h)
    have e : (i + 1) * 2 = i * 2 + 1 + 1 := by omega
    rw [e]
    exact Put.skip (Put.skip ih)
theorem span_at {L : List SpanD} {rest : List Value} {i : Nat} (h : i < L.length) : (spansC L ++ rest)[i * 2]? = some (.int .i64 (atS L i).lo) ∧ (spansC L ++ rest)[i * 2 + 1]? = some (.int .i64 (atS L i).hi) := by
  have e : L[i]? = some (atS L i) := by
    unfold atS; rw [List.getD_eq_getElem?_getD, List.getElem?_eq_getElem h]; rfl
  obtain ⟨h1, h2⟩ := spansC_at L i _ e
  have hl := spansC_length L
  rw [List.getElem?_append_left (by omega), List.getElem?_append_left (by omega)]
  exact ⟨h1, h2⟩
theorem span_at2 {L : List SpanD} {rest : List Value} {i : Nat} (h : i < L.length) (j : Nat) (v : Value) (hj : (spanV (atS L i))[j]? = some v) : (spansC L ++ rest)[i * 2 + j]? = some v := by
  obtain ⟨h1, h2⟩ := span_at (rest := rest) h
  match j, hj with
  | 0, hj => rw [Nat.add_zero, h1]; exact hj
  | 1, hj => rw [h2]; exact hj
theorem inrow_of {n cap : Nat} {L : List SpanD} {rest : List Value} (hL : L.length = n) (hr : rest.length + n * 2 = cap * 2) (h1 : n ≤ cap) (h2 : cap ≤ maxLen) : InRow 2 n cap (spansC L ++ rest) (spansC L) := by
  have hl := spansC_length L
  refine ⟨h1, h2, by rw [List.length_append]; omega, ?_⟩
  rw [← hL, ← hl, List.take_left']
  rfl
theorem inrow_split {n cap : Nat} {cur : List Value} {L : List SpanD} (h : InRow 2 n cap cur (spansC L)) (hL : L.length = n) : ∃ rest, cur = spansC L ++ rest ∧ rest.length + n * 2 = cap * 2 := by
  obtain ⟨h1, h2, h3, h4⟩ := h
  refine ⟨cur.drop (n * 2), by rw [← h4, List.take_append_drop], ?_⟩
  rw [List.length_drop]; omega
theorem rep_succ (n : Nat) : spansC (List.replicate n ⟨0, 1000⟩) ++ [.int .i64 0, .int .i64 1000] = spansC (List.replicate (n + 1) ⟨0, 1000⟩) := by
  rw [List.replicate_succ', spansC, spansC, List.flatMap_append]; rfl
set_option maxRecDepth 100000 in
set_option maxHeartbeats 4000000 in
theorem hardsK (g : GroundD) (pa : Option Addr) (pc : Nat) (w : World) (vg : VG g) (hp : PitsAt w pa g.pits) : CallsF Try.prog 48 (([.agg [.int .i64 g.long, .int .i64 g.rise, .int .i64 g.change, .slice pa g.pits.length pc].toArray] : List Value)).toArray w fun e w' => ∃ q : Option (Nat × Nat × List Value), (match q with | none => hardOk g = false | some q => hardOk g = true ∧ InRow 2 (placesN g) q.2.1 q.2.2 (spansC (hardL g))) ∧ e = .returned (.tuple #[(match q with | none => .slice none 0 0 | some q => .slice (some ⟨q.1, 0, none⟩) (placesN g) q.2.1), .bool (match q with | none => false | some _ => true)]) ∧ St w NoT (match q with | none => [] | some q => [(q.1, Obj.cells q.2.2.toArray 28 (0, 0))]) w' := by
  have hlen := vg.v.len
  have hlong := vg.v.long
  have hrise := vg.v.rise
  have hpl : (placesN g : Int) = g.long + 1 := by unfold placesN; omega
  refine enter (n := 123) Try.func48 rfl rfl rfl (by repeat (first | exact Fill.nil | apply Fill.cons)) ?_
  refine cw_seq ?_
  refine cw_region ?_
  refine lstep rfl rfl rfl (run_boxN (.tmp rfl)) ?_
  intro b1 _
  refine lstepB rfl rfl rfl (run_assign .const) ?_
  refine lstepB rfl rfl rfl (run_assign .const) ?_
  refine lnil ?_
  refine xw_then ?_
  refine cw_seq ?_
  refine cw_region ?_
  refine lstepB rfl rfl rfl (run_assign .const) ?_
  refine lnil ?_
  refine xw_then ?_
  refine cw_seq ?_
  refine cw_seq ?_
  refine cw_region ?_
  refine lstepB rfl rfl rfl (run_assign .const) ?_
  refine lnil ?_
  refine xw_then ?_
  refine cw_block ?_
  refine cw_loop (S := Nat × Option (Nat × Nat × List Value)) (fun s => [(5, .int .i64 ((s.1 : Nat) : Int)), (4, match s.2 with | none => .slice none 0 0 | some q => .slice (some ⟨q.1, 0, none⟩) s.1 q.2.1)]) [(1, _)] (fun s => (match s.2 with | none => [] | some q => [(q.1, Obj.cells q.2.2.toArray 28 (0, 0))]) ++ [(b1, Obj.cells [.int .i64 g.long, .int .i64 g.rise, .int .i64 g.change, .slice pa g.pits.length pc].toArray 24 (0, 0))]) (fun s => s.1 ≤ placesN g ∧ match s.2 with | none => s.1 = 0 | some q => 1 ≤ s.1 ∧ InRow 2 s.1 q.2.1 q.2.2 (spansC (List.replicate s.1 ⟨0, 1000⟩))) (fun s => placesN g - s.1) (0, none) ⟨Nat.zero_le _, rfl⟩ (by repeat (first | exact Less.nil | refine Less.cons rfl ?_)) (by repeat (first | exact Pick.nil | (apply Pick.cons; focus (repeat (first | exact Del.here | apply Del.there))))) ?_
  intro s hs
  obtain ⟨k, o⟩ := s
  obtain ⟨hk, ho2⟩ := hs
  dsimp only at hk ho2 ⊢
  cases o
  case none =>
    dsimp only at ho2 ⊢
    subst ho2
    refine cw_seq ?_
    refine cw_seq ?_
    refine cw_region ?_
    refine lstepB rfl rfl rfl (run_move (.tmp rfl)) ?_
    refine lstepB rfl rfl rfl (run_fieldAddr (.tmp rfl) fa24_0 (by first | exact Nat.zero_add _ | exact rfl)) ?_
    refine lstepB rfl rfl rfl (run_load1 (.tmp rfl) kd3 (by repeat (first | exact List.Mem.head _ | apply List.Mem.tail)) (by exact rfl)) ?_
    refine lstepB rfl rfl rfl (run_leq (.tmp rfl) (.tmp rfl) rfl) ?_
    refine lnil ?_
    refine xw_then ?_
    refine cw_cond_p (.tmp rfl) (fun hl => ?_) (fun hl => ?_)
    ·
      refine cw_skip ?_
      refine xw_then ?_
      refine cw_seq ?_
      refine cw_block ?_
      refine cw_region ?_
      refine lstepB rfl rfl rfl (run_move (.tmp rfl)) ?_
      refine lstepB rfl rfl rfl (run_build_at (.cons .const (.cons .const .nil)) (fun w => bd28_0_1 w)) ?_
      refine lstep rfl rfl rfl (LR.runs (lr_buildSlice_at (.cons (.tmp rfl) .nil) (fun w => bs58_1_0 w)) (by repeat (first | exact Pick.nil | (apply Pick.cons; focus (repeat (first | exact Del.here | apply Del.there))))) (by repeat (first | exact Dels.nil | (apply Dels.cons; focus (repeat (first | exact Del.here | apply Del.there)))))) ?_
      intro b20 _
      refine lstep rfl rfl rfl (LR.runs (R := [(b20, _)]) (A := []) (lr_append_nil ap58 (.tmp rfl) (.tmp rfl) (news := [.int .i64 0, .int .i64 1000]) rfl (by omega) (by omega) (by decide) (news_own (by repeat (first | exact List.Mem.head _ | apply List.Mem.tail)))) (by repeat (first | exact Pick.nil | (apply Pick.cons; focus (repeat (first | exact Del.here | apply Del.there))))) (by repeat (first | exact Dels.nil | (apply Dels.cons; focus (repeat (first | exact Del.here | apply Del.there)))))) ?_
      intro ⟨gT, cgT, rgT⟩ hgT
      dsimp only at hgT ⊢
      have hT : InRow 2 (0 + 1) cgT rgT (spansC (List.replicate (0 + 1) ⟨0, 1000⟩)) := hgT
      refine lstepB rfl rfl rfl (run_assign (.tmp rfl)) ?_
      refine lnil ?_
      refine xw_in ?_
      refine xw_then ?_
      refine cw_region ?_
      refine lstepB rfl rfl rfl (run_move (.tmp rfl)) ?_
      refine lstepB rfl rfl rfl (run_add (.tmp rfl) .const (by first | exact IntWalk.i64_in _ (by omega) | exact rfl)) ?_
      refine lstepB rfl rfl rfl (run_assign (.tmp rfl)) ?_
      refine lnil ?_
      exact xw_round (0 + 1, some (gT, cgT, rgT)) ⟨by simp only; omega, by simp only; omega, hT⟩ (by show placesN g - (0 + 1) < placesN g - 0; omega) (by repeat (first | exact Less.nil | refine Less.cons rfl ?_)) (by repeat (first | exact Pick.nil | (apply Pick.cons; focus (repeat (first | exact Del.here | apply Del.there)))))
    ·
      exfalso; omega
  case some q =>
    obtain ⟨gX, cX, rX⟩ := q
    dsimp only at ho2 ⊢
    obtain ⟨hk1, hX⟩ := ho2
    refine cw_seq ?_
    refine cw_seq ?_
    refine cw_region ?_
    refine lstepB rfl rfl rfl (run_move (.tmp rfl)) ?_
    refine lstepB rfl rfl rfl (run_fieldAddr (.tmp rfl) fa24_0 (by first | exact Nat.zero_add _ | exact rfl)) ?_
    refine lstepB rfl rfl rfl (run_load1 (.tmp rfl) kd3 (by repeat (first | exact List.Mem.head _ | apply List.Mem.tail)) (by exact rfl)) ?_
    refine lstepB rfl rfl rfl (run_leq (.tmp rfl) (.tmp rfl) rfl) ?_
    refine lnil ?_
    refine xw_then ?_
    refine cw_cond_p (.tmp rfl) (fun hl => ?_) (fun hl => ?_)
    ·
      refine cw_skip ?_
      refine xw_then ?_
      refine cw_seq ?_
      refine cw_block ?_
      refine cw_region ?_
      refine lstepB rfl rfl rfl (run_move (.tmp rfl)) ?_
      refine lstepB rfl rfl rfl (run_build_at (.cons .const (.cons .const .nil)) (fun w => bd28_0_1 w)) ?_
      refine lstep rfl rfl rfl (LR.runs (lr_buildSlice_at (.cons (.tmp rfl) .nil) (fun w => bs58_1_0 w)) (by repeat (first | exact Pick.nil | (apply Pick.cons; focus (repeat (first | exact Del.here | apply Del.there))))) (by repeat (first | exact Dels.nil | (apply Dels.cons; focus (repeat (first | exact Del.here | apply Del.there)))))) ?_
      intro b20 _
      refine lstep rfl rfl rfl (LR.runs (R := [(b20, _)]) (A := [(gX, _)]) (lr_append_row ap58 (.tmp rfl) hX (.tmp rfl) (news := [.int .i64 0, .int .i64 1000]) rfl rfl (by omega) (by unfold maxLen; omega) (news_own (by repeat (first | exact List.Mem.head _ | apply List.Mem.tail)))) (by repeat (first | exact Pick.nil | (apply Pick.cons; focus (repeat (first | exact Del.here | apply Del.there))))) (by repeat (first | exact Dels.nil | (apply Dels.cons; focus (repeat (first | exact Del.here | apply Del.there)))))) ?_
      intro ⟨gT, cgT, rgT⟩ hgT
      dsimp only at hgT ⊢
      have hT : InRow 2 (k + 1) cgT rgT (spansC (List.replicate (k + 1) ⟨0, 1000⟩)) := by rw [← rep_succ]; exact hgT
      refine lstepB rfl rfl rfl (run_assign (.tmp rfl)) ?_
      refine lnil ?_
      refine xw_in ?_
      refine xw_then ?_
      refine cw_region ?_
      refine lstepB rfl rfl rfl (run_move (.tmp rfl)) ?_
      refine lstepB rfl rfl rfl (run_add (.tmp rfl) .const (by first | exact IntWalk.i64_in _ (by omega) | exact rfl)) ?_
      refine lstepB rfl rfl rfl (run_assign (.tmp rfl)) ?_
      refine lnil ?_
      exact xw_round (k + 1, some (gT, cgT, rgT)) ⟨by simp only; omega, by simp only; omega, hT⟩ (by show placesN g - (k + 1) < placesN g - k; omega) (by repeat (first | exact Less.nil | refine Less.cons rfl ?_)) (by repeat (first | exact Pick.nil | (apply Pick.cons; focus (repeat (first | exact Del.here | apply Del.there)))))
    ·
      obtain rfl : k = placesN g := by omega
      obtain ⟨rest, rfl, hrest⟩ := inrow_split hX (List.length_replicate ..)
      obtain ⟨hcap, hmax, _, _⟩ := hX
      obtain ⟨gA, hgA⟩ : ∃ c, gX = c := ⟨_, rfl⟩
      obtain ⟨cA, hcA⟩ : ∃ c, cX = c := ⟨_, rfl⟩
      rw [hgA, hcA]
      rw [hcA] at hcap hmax hrest
      rw [show List.replicate (placesN g) (⟨0, 1000⟩ : SpanD) = initF g 0 from rfl]
      refine cw_exit ?_
      refine xw_then_exit ?_
      refine xw_then_exit ?_
      refine xw_in_exit ?_
      refine xw_then ?_
      refine cw_seq ?_
      refine cw_seq ?_
      refine cw_region ?_
      refine lstepB rfl rfl rfl (run_assign .const) ?_
      refine lnil ?_
      refine xw_then ?_
      refine cw_block ?_
      refine cw_loop (S := Nat) (fun j => [(6, .int .i64 (j : Int))]) [(1, _), (4, _)] (fun j => [(gA, Obj.cells (spansC (initF g j) ++ rest).toArray 28 (0, 0)), (b1, Obj.cells [.int .i64 g.long, .int .i64 g.rise, .int .i64 g.change, .slice pa g.pits.length pc].toArray 24 (0, 0))]) (fun j => j ≤ g.pits.length) (fun j => g.pits.length - j) 0 (Nat.zero_le _) (by repeat (first | exact Less.nil | refine Less.cons rfl ?_)) (by repeat (first | exact Pick.nil | (apply Pick.cons; focus (repeat (first | exact Del.here | apply Del.there))))) ?_
      intro j hj
      refine cw_seq ?_
      refine cw_seq ?_
      refine cw_region ?_
      refine lstepB rfl rfl rfl (run_move (.tmp rfl)) ?_
      refine lstepB rfl rfl rfl (run_fieldAddr (.tmp rfl) fa24_3 (by first | exact Nat.zero_add _ | exact rfl)) ?_
      refine lstepB rfl rfl rfl (run_load1 (.tmp rfl) kd22 (by repeat (first | exact List.Mem.head _ | apply List.Mem.tail)) (by exact rfl)) ?_
      refine lstepB rfl rfl rfl (run_len (.tmp rfl) sl22) ?_
      refine lstepB rfl rfl rfl (run_lss (.tmp rfl) (.tmp rfl) rfl) ?_
      refine lnil ?_
      refine xw_then ?_
      refine cw_cond_p (.tmp rfl) (fun hl => ?_) (fun hl => ?_)
      ·
        obtain ⟨p, hpk⟩ : ∃ p, g.pits[j]? = some p := ⟨_, List.getElem?_eq_getElem (by omega)⟩
        obtain ⟨b, o, rfl, hb, hc⟩ := hp.pit (by omega)
        obtain ⟨⟨hp1, hp2⟩, _⟩ := vg.v.pits p (List.mem_of_getElem? hpk)
        have hat : p.at_.toNat < placesN g := by unfold placesN; omega
        have hil := initF_length g j
        refine cw_skip ?_
        refine xw_then ?_
        refine cw_seq ?_
        refine cw_block ?_
        refine cw_chain2 (σ := [0, 1, 2, 3, 4, 5, 6, 7, 8, 9, 10, 11, 12, 13, 14]) [⟨0, [], [], [], 0⟩, ⟨0, [], [], [], 0⟩, ⟨0, [1], [], [], 2⟩, ⟨0, [], [], [], 0⟩, ⟨0, [], [], [], 14⟩, ⟨0, [], [], [], 30⟩, ⟨0, [], [], [], 62⟩, ⟨0, [], [], [], 0⟩, ⟨0, [1], [], [], 128⟩, ⟨0, [], [], [], 0⟩, ⟨0, [], [], [], 896⟩, ⟨0, [], [], [], 1920⟩, ⟨0, [], [], [], 3968⟩, ⟨0, [], [], [], 8191⟩, ⟨0, [], [0], [0], 16383⟩] [(0, _), (1, _)] (by kernel_rfl) (by kernel_rfl) rfl ?_
        refine .det (B := []) rfl rfl (.inl rfl) .nil .nil rfl (RunB.lr (run_move (.tmp rfl))) ?_
        refine .det (B := []) rfl rfl (.inl rfl) .nil .nil rfl (RunB.lr (run_fieldAddr (.tmp rfl) fa24_3 (by first | exact Nat.zero_add _ | exact rfl))) ?_
        refine .det (B := []) rfl rfl (.inl rfl) (.cons rfl .nil) .nil rfl (RunB.lr (run_load1 (.tmp rfl) kd22 (by repeat (first | exact List.Mem.head _ | apply List.Mem.tail)) (by exact rfl))) ?_
        refine .det (B := []) rfl rfl (.inl rfl) .nil .nil rfl (RunB.lr (run_move (.tmp rfl))) ?_
        refine .det (B := []) rfl rfl (.inl rfl) .nil .nil rfl (RunB.lr (run_indexAddr (off' := o + j * 9) (.tmp rfl) (.tmp rfl) el22 (by omega) rfl)) ?_
        refine .det (B := []) rfl rfl (.inl rfl) .nil .nil rfl (RunB.lr (run_fieldAddr (.tmp rfl) fa55_0 (show o + j * 9 + 0 = o + j * 9 by omega))) ?_
        refine .det (B := []) rfl rfl (.inl rfl) .nil .nil rfl (RunB.lr (run_load1_at (v := .int .i64 ((p.at_.toNat : Nat) : Int)) (.tmp rfl) kd3 (fun w' hS => by rw [Int.toNat_of_nonneg hp1]; exact hS.old_cell (fun h => h) (hc j p hpk 0 _ rfl)))) ?_
        refine .det (B := []) rfl rfl (.inl rfl) .nil .nil rfl (RunB.lr (run_fieldAddr (.tmp rfl) fa24_3 (by first | exact Nat.zero_add _ | exact rfl))) ?_
        refine .det (B := []) rfl rfl (.inl rfl) (.cons rfl .nil) .nil rfl (RunB.lr (run_load1 (.tmp rfl) kd22 (by repeat (first | exact List.Mem.head _ | apply List.Mem.tail)) (by exact rfl))) ?_
        refine .det (B := []) rfl rfl (.inl rfl) .nil .nil rfl (RunB.lr (run_move (.tmp rfl))) ?_
        refine .det (B := []) rfl rfl (.inl rfl) .nil .nil rfl (RunB.lr (run_indexAddr (off' := o + j * 9) (.tmp rfl) (.tmp rfl) el22 (by omega) rfl)) ?_
        refine .det (B := []) rfl rfl (.inl rfl) .nil .nil rfl (RunB.lr (run_fieldAddr (.tmp rfl) fa55_1 rfl)) ?_
        refine .det (B := []) rfl rfl (.inl rfl) .nil .nil rfl (RunB.lr (run_loadN_at (l := spanV p.hard) (.tmp rfl) kd28 sz28 rfl (fun w' hS i v hi => hS.old_cell (fun h => h) (by rw [show o + j * 9 + 1 + i = o + j * 9 + (1 + i) by omega]; exact hc j p hpk (1 + i) v (by match i, hi with | 0, hi => exact hi | 1, hi => exact hi))))) ?_
        refine .det (B := []) rfl rfl (.inl rfl) .nil .nil rfl (RunB.lr (run_indexAddr (i := p.at_.toNat) (off' := p.at_.toNat * 2) (.tmp rfl) (.tmp rfl) el58 (by omega) (Nat.zero_add _))) ?_
        refine .det (B := [(0, (_, _))]) rfl rfl (.inl rfl) .nil (.cons rfl .nil) rfl (lr_storeN (l := spanV p.hard) (cs' := spansC (initF g (j + 1)) ++ rest) (.tmp rfl) (.tmp rfl) rfl sz28 rfl (initF_succ hpk ▸ put_span _ _ (by omega))) ?_
        refine chain_nil (ts := [0, 1]) (.cons rfl (.cons rfl .nil)) (by decide) ?_
        refine xw_in ?_
        refine xw_then ?_
        refine cw_region ?_
        refine lstepB rfl rfl rfl (run_move (.tmp rfl)) ?_
        refine lstepB rfl rfl rfl (run_add (.tmp rfl) .const (by first | exact IntWalk.i64_in _ (by omega) | exact rfl)) ?_
        refine lstepB rfl rfl rfl (run_assign (.tmp rfl)) ?_
        refine lnil ?_
        exact xw_round (j + 1) (by show j + 1 ≤ _; omega) (by show g.pits.length - (j + 1) < g.pits.length - j; omega) (by repeat (first | exact Less.nil | refine Less.cons rfl ?_)) (by repeat (first | exact Pick.nil | (apply Pick.cons; focus (repeat (first | exact Del.here | apply Del.there)))))
      ·
        obtain rfl : j = g.pits.length := by omega
        clear hj hl
        rw [show initF g g.pits.length = roundsS g.rise g.long.toNat (initS g) 0 from rfl]
        refine cw_exit ?_
        refine xw_then_exit ?_
        refine xw_then_exit ?_
        refine xw_in_exit ?_
        refine xw_then ?_
        refine cw_seq ?_
        refine cw_seq ?_
        refine cw_region ?_
        refine lstepB rfl rfl rfl (run_assign .const) ?_
        refine lnil ?_
        refine xw_then ?_
        refine cw_block ?_
        refine cw_loop (S := Nat) (fun t => [(7, .int .i64 ((t : Nat) : Int))]) [(1, _), (4, _)] (fun t => [(gA, Obj.cells (spansC (roundsS g.rise g.long.toNat (initS g) t) ++ rest).toArray 28 (0, 0)), (b1, Obj.cells [.int .i64 g.long, .int .i64 g.rise, .int .i64 g.change, .slice pa g.pits.length pc].toArray 24 (0, 0))]) (fun t => t ≤ placesN g) (fun t => placesN g - t) 0 (Nat.zero_le _) (by repeat (first | exact Less.nil | refine Less.cons rfl ?_)) (by repeat (first | exact Pick.nil | (apply Pick.cons; focus (repeat (first | exact Del.here | apply Del.there))))) ?_
        intro t ht
        refine cw_seq ?_
        refine cw_seq ?_
        refine cw_region ?_
        refine lstepB rfl rfl rfl (run_move (.tmp rfl)) ?_
        refine lstepB rfl rfl rfl (run_fieldAddr (.tmp rfl) fa24_0 (by first | exact Nat.zero_add _ | exact rfl)) ?_
        refine lstepB rfl rfl rfl (run_load1 (.tmp rfl) kd3 (by repeat (first | exact List.Mem.head _ | apply List.Mem.tail)) (by exact rfl)) ?_
        refine lstepB rfl rfl rfl (run_leq (.tmp rfl) (.tmp rfl) rfl) ?_
        refine lnil ?_
        refine xw_then ?_
        refine cw_cond_p (.tmp rfl) (fun hl => ?_) (fun hl => ?_)
        ·
          have hil := initF_length g g.pits.length
          have hrl := roundsS_length g.rise g.long.toNat (initS g) t
          have hrb : BdS (roundsS g.rise g.long.toNat (initS g) t) := (init_bd vg).rounds hrise.1 (by unfold initS; omega) t
          have hrl2 : (roundsS g.rise g.long.toNat (initS g) t).length = placesN g := by rw [hrl]; exact hil
          obtain ⟨X, hX⟩ : ∃ X, roundsS g.rise g.long.toNat (initS g) t = X := ⟨_, rfl⟩
          have hX2 : sweepS g.rise X g.long.toNat = roundsS g.rise g.long.toNat (initS g) (t + 1) := by rw [← hX]; rfl
          rw [hX] at hrb hrl2 ⊢
          rw [show X = sweepS g.rise X 0 from rfl]
          refine cw_skip ?_
          refine xw_then ?_
          refine cw_seq ?_
          refine cw_block ?_
          refine cw_seq ?_
          refine cw_region ?_
          refine lstepB rfl rfl rfl (run_assign .const) ?_
          refine lnil ?_
          refine xw_then ?_
          refine cw_block ?_
          refine cw_loop (S := Nat) (fun k => [(8, .int .i64 ((k + 1 : Nat) : Int))]) [(1, _), (4, _), (7, _)] (fun k => [(gA, Obj.cells (spansC (sweepS g.rise X k) ++ rest).toArray 28 (0, 0)), (b1, Obj.cells [.int .i64 g.long, .int .i64 g.rise, .int .i64 g.change, .slice pa g.pits.length pc].toArray 24 (0, 0))]) (fun k => k ≤ g.long.toNat) (fun k => g.long.toNat - k) 0 (Nat.zero_le _) (by repeat (first | exact Less.nil | refine Less.cons rfl ?_)) (by repeat (first | exact Pick.nil | (apply Pick.cons; focus (repeat (first | exact Del.here | apply Del.there))))) ?_
          intro k hk
          refine cw_seq ?_
          refine cw_seq ?_
          refine cw_region ?_
          refine lstepB rfl rfl rfl (run_move (.tmp rfl)) ?_
          refine lstepB rfl rfl rfl (run_fieldAddr (.tmp rfl) fa24_0 (by first | exact Nat.zero_add _ | exact rfl)) ?_
          refine lstepB rfl rfl rfl (run_load1 (.tmp rfl) kd3 (by repeat (first | exact List.Mem.head _ | apply List.Mem.tail)) (by exact rfl)) ?_
          refine lstepB rfl rfl rfl (run_leq (.tmp rfl) (.tmp rfl) rfl) ?_
          refine lnil ?_
          refine xw_then ?_
          refine cw_cond_p (.tmp rfl) (fun hl2 => ?_) (fun hl2 => ?_)
          ·
            have hyl := sweepS_length g.rise X k
            have hyb := (hrb.sweep hrise.1 k (by omega)) k (by omega)
            have hyb2 := (hrb.sweep hrise.1 k (by omega)) (k + 1) (by omega)
            obtain ⟨Y, hY⟩ : ∃ Y, sweepS g.rise X k = Y := ⟨_, rfl⟩
            have hY2 : sweepS g.rise X (k + 1) = stepS g.rise Y k := by rw [← hY]; rfl
            rw [hY] at hyb hyb2 hyl ⊢
            obtain ⟨a, ha⟩ : ∃ a, atS Y k = a := ⟨_, rfl⟩
            obtain ⟨b, hb⟩ : ∃ b, atS Y (k + 1) = b := ⟨_, rfl⟩
            have hst : stepS g.rise Y k = (Y.set k (narS g.rise a b)).set (k + 1) (narS g.rise b a) := by rw [← ha, ← hb]; rfl
            rw [ha] at hyb
            rw [hb] at hyb2
            refine cw_skip ?_
            refine xw_then ?_
            refine cw_seq ?_
            refine cw_block ?_
            refine cw_seq ?_
            refine cw_chain2 (σ := [0, 1, 2, 3, 4, 5, 6, 7, 8, 9, 10, 11, 12]) [⟨0, [], [], [], 0⟩, ⟨0, [], [], [], 0⟩, ⟨0, [], [], [], 2⟩, ⟨0, [], [], [], 7⟩, ⟨0, [0], [], [], 15⟩, ⟨0, [], [], [], 0⟩, ⟨0, [], [], [], 0⟩, ⟨0, [], [], [], 96⟩, ⟨0, [0], [], [], 224⟩, ⟨2, [], [], [2], 0⟩, ⟨2, [], [], [3], 0⟩, ⟨0, [], [2], [2], 1567⟩, ⟨0, [], [3], [3], 4095⟩] [(0, _), (1, _)] (by kernel_rfl) (by kernel_rfl) rfl ?_
            refine .det (B := []) rfl rfl (.inl rfl) .nil .nil rfl (RunB.lr (run_move (.tmp rfl))) ?_
            refine .det (B := []) rfl rfl (.inl rfl) .nil .nil rfl (RunB.lr (run_move (.tmp rfl))) ?_
            refine .det (B := []) rfl rfl (.inl rfl) .nil .nil rfl (RunB.lr (run_sub (c := ((k : Nat) : Int)) (.tmp rfl) .const (by rw [IntWalk.i64_in _ (by omega)]; omega))) ?_
            refine .det (B := []) rfl rfl (.inl rfl) .nil .nil rfl (RunB.lr (run_indexAddr (i := k) (off' := (k) * 2) (.tmp rfl) (.tmp rfl) el58 (by omega) (Nat.zero_add _))) ?_
            refine .det (B := []) rfl rfl (.inl rfl) (.cons rfl .nil) .nil rfl (RunB.lr (run_loadN_own (l := spanV a) (.tmp rfl) kd28 sz28 (by repeat (first | exact List.Mem.head _ | apply List.Mem.tail)) rfl (fun j v hj => span_at2 (i := k) (by omega) j v (by rw [ha]; exact hj)))) ?_
            refine .det (B := []) rfl rfl (.inl rfl) .nil .nil rfl (RunB.lr (run_move (.tmp rfl))) ?_
            refine .det (B := []) rfl rfl (.inl rfl) .nil .nil rfl (RunB.lr (run_move (.tmp rfl))) ?_
            refine .det (B := []) rfl rfl (.inl rfl) .nil .nil rfl (RunB.lr (run_indexAddr (i := k + 1) (off' := (k + 1) * 2) (.tmp rfl) (.tmp rfl) el58 (by omega) (Nat.zero_add _))) ?_
            refine .det (B := []) rfl rfl (.inl rfl) (.cons rfl .nil) .nil rfl (RunB.lr (run_loadN_own (l := spanV b) (.tmp rfl) kd28 sz28 (by repeat (first | exact List.Mem.head _ | apply List.Mem.tail)) rfl (fun j v hj => span_at2 (i := k + 1) (by omega) j v (by rw [hb]; exact hj)))) ?_
            refine .flo rfl rfl rfl (.alloc rfl zr28) trivial rfl rfl rfl ?_
            intro b9
            refine .flo rfl rfl rfl (.alloc rfl zr28) trivial rfl rfl rfl ?_
            intro b10
            refine .det (B := [(2, (_, _))]) rfl rfl (.inl rfl) .nil (.cons rfl .nil) rfl (lr_storeN (.tmp rfl) (.tmp rfl) rfl sz28 rfl (by repeat (first | exact Put.done | apply Put.put | apply Put.skip))) ?_
            refine .det (B := [(3, (_, _))]) rfl rfl (.inl rfl) .nil (.cons rfl .nil) rfl (lr_storeN (.tmp rfl) (.tmp rfl) rfl sz28 rfl (by repeat (first | exact Put.done | apply Put.put | apply Put.skip))) ?_
            refine chain_nil (ts := [3, 2, 0, 1]) (.cons rfl (.cons rfl (.cons rfl (.cons rfl .nil)))) (by decide) ?_
            refine xw_then ?_
            refine cw_seq ?_
            refine cw_region ?_
            refine lstepB rfl rfl rfl (run_move (.tmp rfl)) ?_
            refine lstepB rfl rfl rfl (run_move (.tmp rfl)) ?_
            refine lstepB rfl rfl rfl (run_sub (c := ((k : Nat) : Int)) (.tmp rfl) .const (by rw [IntWalk.i64_in _ (by omega)]; omega)) ?_
            refine lstepB rfl rfl rfl (run_fieldAddr (.tmp rfl) fa28_0 (by first | exact Nat.zero_add _ | exact rfl)) ?_
            refine lstepB rfl rfl rfl (run_load1 (.tmp rfl) kd3 (by repeat (first | exact List.Mem.head _ | apply List.Mem.tail)) (by exact rfl)) ?_
            refine lstepB rfl rfl rfl (run_fieldAddr (.tmp rfl) fa28_0 (by first | exact Nat.zero_add _ | exact rfl)) ?_
            refine lstepB rfl rfl rfl (run_load1 (.tmp rfl) kd3 (by repeat (first | exact List.Mem.head _ | apply List.Mem.tail)) (by exact rfl)) ?_
            refine lstepB rfl rfl rfl (run_fieldAddr (.tmp rfl) fa24_1 (by first | exact Nat.zero_add _ | exact rfl)) ?_
            refine lstepB rfl rfl rfl (run_load1 (.tmp rfl) kd3 (by repeat (first | exact List.Mem.head _ | apply List.Mem.tail)) (by exact rfl)) ?_
            refine lstepB rfl rfl rfl (run_sub (.tmp rfl) (.tmp rfl) (by first | exact IntWalk.i64_in _ (by omega) | exact rfl)) ?_
            refine lstepB rfl rfl rfl (run_max2 (.tmp rfl) (.tmp rfl)) ?_
            refine lstepB rfl rfl rfl (run_fieldAddr (.tmp rfl) fa28_1 (by first | exact Nat.zero_add _ | exact rfl)) ?_
            refine lstepB rfl rfl rfl (run_load1 (.tmp rfl) kd3 (by repeat (first | exact List.Mem.head _ | apply List.Mem.tail)) (by exact rfl)) ?_
            refine lstepB rfl rfl rfl (run_fieldAddr (.tmp rfl) fa28_1 (by first | exact Nat.zero_add _ | exact rfl)) ?_
            refine lstepB rfl rfl rfl (run_load1 (.tmp rfl) kd3 (by repeat (first | exact List.Mem.head _ | apply List.Mem.tail)) (by exact rfl)) ?_
            refine lstepB rfl rfl rfl (run_fieldAddr (.tmp rfl) fa24_1 (by first | exact Nat.zero_add _ | exact rfl)) ?_
            refine lstepB rfl rfl rfl (run_load1 (.tmp rfl) kd3 (by repeat (first | exact List.Mem.head _ | apply List.Mem.tail)) (by exact rfl)) ?_
            refine lstepB rfl rfl rfl (run_add (.tmp rfl) (.tmp rfl) (by first | exact IntWalk.i64_in _ (by omega) | exact rfl)) ?_
            refine lstepB rfl rfl rfl (run_min2 (.tmp rfl) (.tmp rfl)) ?_
            refine lstepB rfl rfl rfl (run_build_at (.cons (.tmp rfl) (.cons (.tmp rfl) .nil)) (fun w => bd28_0_1 w)) ?_
            refine lstepB rfl rfl rfl (run_indexAddr (i := k) (off' := (k) * 2) (.tmp rfl) (.tmp rfl) el58 (by omega) (Nat.zero_add _)) ?_
            refine lstep0 rfl rfl (run_storeN (l := spanV (narS g.rise a b)) (cs' := spansC (Y.set k (narS g.rise a b)) ++ rest) (.tmp rfl) (.tmp rfl) rfl sz28 rfl (by repeat (first | exact Upd.here | apply Upd.there)) (put_span _ _ (by omega))) ?_
            refine lnil ?_
            refine xw_then ?_
            refine cw_region ?_
            refine lstepB rfl rfl rfl (run_move (.tmp rfl)) ?_
            refine lstepB rfl rfl rfl (run_move (.tmp rfl)) ?_
            refine lstepB rfl rfl rfl (run_fieldAddr (.tmp rfl) fa28_0 (by first | exact Nat.zero_add _ | exact rfl)) ?_
            refine lstepB rfl rfl rfl (run_load1 (.tmp rfl) kd3 (by repeat (first | exact List.Mem.head _ | apply List.Mem.tail)) (by exact rfl)) ?_
            refine lstepB rfl rfl rfl (run_fieldAddr (.tmp rfl) fa28_0 (by first | exact Nat.zero_add _ | exact rfl)) ?_
            refine lstepB rfl rfl rfl (run_load1 (.tmp rfl) kd3 (by repeat (first | exact List.Mem.head _ | apply List.Mem.tail)) (by exact rfl)) ?_
            refine lstepB rfl rfl rfl (run_fieldAddr (.tmp rfl) fa24_1 (by first | exact Nat.zero_add _ | exact rfl)) ?_
            refine lstepB rfl rfl rfl (run_load1 (.tmp rfl) kd3 (by repeat (first | exact List.Mem.head _ | apply List.Mem.tail)) (by exact rfl)) ?_
            refine lstepB rfl rfl rfl (run_sub (.tmp rfl) (.tmp rfl) (by first | exact IntWalk.i64_in _ (by omega) | exact rfl)) ?_
            refine lstepB rfl rfl rfl (run_max2 (.tmp rfl) (.tmp rfl)) ?_
            refine lstepB rfl rfl rfl (run_fieldAddr (.tmp rfl) fa28_1 (by first | exact Nat.zero_add _ | exact rfl)) ?_
            refine lstepB rfl rfl rfl (run_load1 (.tmp rfl) kd3 (by repeat (first | exact List.Mem.head _ | apply List.Mem.tail)) (by exact rfl)) ?_
            refine lstepB rfl rfl rfl (run_fieldAddr (.tmp rfl) fa28_1 (by first | exact Nat.zero_add _ | exact rfl)) ?_
            refine lstepB rfl rfl rfl (run_load1 (.tmp rfl) kd3 (by repeat (first | exact List.Mem.head _ | apply List.Mem.tail)) (by exact rfl)) ?_
            refine lstepB rfl rfl rfl (run_fieldAddr (.tmp rfl) fa24_1 (by first | exact Nat.zero_add _ | exact rfl)) ?_
            refine lstepB rfl rfl rfl (run_load1 (.tmp rfl) kd3 (by repeat (first | exact List.Mem.head _ | apply List.Mem.tail)) (by exact rfl)) ?_
            refine lstepB rfl rfl rfl (run_add (.tmp rfl) (.tmp rfl) (by first | exact IntWalk.i64_in _ (by omega) | exact rfl)) ?_
            refine lstepB rfl rfl rfl (run_min2 (.tmp rfl) (.tmp rfl)) ?_
            refine lstepB rfl rfl rfl (run_build_at (.cons (.tmp rfl) (.cons (.tmp rfl) .nil)) (fun w => bd28_0_1 w)) ?_
            refine lstepB rfl rfl rfl (run_indexAddr (i := k + 1) (off' := (k + 1) * 2) (.tmp rfl) (.tmp rfl) el58 (by omega) (Nat.zero_add _)) ?_
            refine lstep0 rfl rfl (run_storeN (l := spanV (narS g.rise b a)) (cs' := spansC ((Y.set k (narS g.rise a b)).set (k + 1) (narS g.rise b a)) ++ rest) (.tmp rfl) (.tmp rfl) rfl sz28 rfl (by repeat (first | exact Upd.here | apply Upd.there)) (put_span _ _ (by rw [List.length_set]; omega))) ?_
            refine lnil ?_
            refine xw_in ?_
            refine xw_then ?_
            refine cw_region ?_
            refine lstepB rfl rfl rfl (run_move (.tmp rfl)) ?_
            refine lstepB rfl rfl rfl (run_add (.tmp rfl) .const (by first | exact IntWalk.i64_in _ (by omega) | exact rfl)) ?_
            refine lstepB rfl rfl rfl (run_assign (.tmp rfl)) ?_
            refine lnil ?_
            rw [← hst, ← hY2]
            exact xw_round (k + 1) (by show k + 1 ≤ _; omega) (by show g.long.toNat - (k + 1) < g.long.toNat - k; omega) (by repeat (first | exact Less.nil | refine Less.cons rfl ?_)) (by repeat (first | exact Pick.nil | (apply Pick.cons; focus (repeat (first | exact Del.here | apply Del.there)))))
          ·
            obtain rfl : k = g.long.toNat := by omega
            rw [hX2]
            refine cw_exit ?_
            refine xw_then_exit ?_
            refine xw_then_exit ?_
            refine xw_in_exit ?_
            refine xw_in ?_
            refine xw_then ?_
            refine cw_region ?_
            refine lstepB rfl rfl rfl (run_move (.tmp rfl)) ?_
            refine lstepB rfl rfl rfl (run_add (.tmp rfl) .const (by first | exact IntWalk.i64_in _ (by omega) | exact rfl)) ?_
            refine lstepB rfl rfl rfl (run_assign (.tmp rfl)) ?_
            refine lnil ?_
            exact xw_round (t + 1) (by show t + 1 ≤ _; omega) (by show placesN g - (t + 1) < placesN g - t; omega) (by repeat (first | exact Less.nil | refine Less.cons rfl ?_)) (by repeat (first | exact Pick.nil | (apply Pick.cons; focus (repeat (first | exact Del.here | apply Del.there)))))
        ·
          obtain rfl : t = placesN g := by omega
          clear ht hl
          rw [rounds_hardL vg]
          refine cw_exit ?_
          refine xw_then_exit ?_
          refine xw_then_exit ?_
          refine xw_in_exit ?_
          refine xw_then ?_
          refine cw_seq ?_
          refine cw_seq ?_
          refine cw_region ?_
          refine lstepB rfl rfl rfl (run_assign .const) ?_
          refine lnil ?_
          refine xw_then ?_
          refine cw_block ?_
          refine cw_loop (S := Nat) (fun i => [(11, .int .i64 ((i : Nat) : Int))]) [(1, _), (4, _)] (fun i => [(gA, Obj.cells (spansC (hardL g) ++ rest).toArray 28 (0, 0)), (b1, Obj.cells [.int .i64 g.long, .int .i64 g.rise, .int .i64 g.change, .slice pa g.pits.length pc].toArray 24 (0, 0))]) (fun i => i ≤ placesN g ∧ ∀ j, j < i → ¬ (cS g j).hi < (cS g j).lo) (fun i => placesN g - i) 0 ⟨Nat.zero_le _, fun j hj => absurd hj (Nat.not_lt_zero _)⟩ (by repeat (first | exact Less.nil | refine Less.cons rfl ?_)) (by repeat (first | exact Pick.nil | (apply Pick.cons; focus (repeat (first | exact Del.here | apply Del.there))))) ?_
          intro i hi
          obtain ⟨i1, i2⟩ := hi
          refine cw_seq ?_
          refine cw_seq ?_
          refine cw_region ?_
          refine lstepB rfl rfl rfl (run_move (.tmp rfl)) ?_
          refine lstepB rfl rfl rfl (run_fieldAddr (.tmp rfl) fa24_0 (by first | exact Nat.zero_add _ | exact rfl)) ?_
          refine lstepB rfl rfl rfl (run_load1 (.tmp rfl) kd3 (by repeat (first | exact List.Mem.head _ | apply List.Mem.tail)) (by exact rfl)) ?_
          refine lstepB rfl rfl rfl (run_leq (.tmp rfl) (.tmp rfl) rfl) ?_
          refine lnil ?_
          refine xw_then ?_
          refine cw_cond_p (.tmp rfl) (fun hl => ?_) (fun hl => ?_)
          ·
            have hhl := hardL_length g
            have hil : i < placesN g := by omega
            have hat : atS (hardL g) i = cS g i := by unfold atS; rw [List.getD_eq_getElem?_getD, hardL_get i hil]; rfl
            obtain ⟨a, ha⟩ : ∃ a, atS (hardL g) i = a := ⟨_, rfl⟩
            have hsp := span_at (L := hardL g) (rest := rest) (i := i) (by unfold placesN at *; omega)
            rw [ha] at hsp
            by_cases hc : a.hi < a.lo
            ·
              refine cw_skip ?_
              refine xw_then ?_
              refine cw_seq ?_
              refine cw_block ?_
              refine cw_seq ?_
              refine cw_chain2 (σ := [0, 1, 2, 3, 4, 5, 6, 7, 8, 9, 10]) [⟨0, [], [], [], 0⟩, ⟨0, [], [], [], 0⟩, ⟨0, [], [], [], 3⟩, ⟨0, [], [], [], 7⟩, ⟨0, [0], [], [], 15⟩, ⟨0, [], [], [], 0⟩, ⟨0, [], [], [], 0⟩, ⟨0, [], [], [], 96⟩, ⟨0, [], [], [], 224⟩, ⟨0, [0], [], [], 480⟩, ⟨0, [], [], [], 1023⟩] [(0, _), (1, _)] (by kernel_rfl) (by kernel_rfl) rfl ?_
              refine .det (B := []) rfl rfl (.inl rfl) .nil .nil rfl (RunB.lr (run_move (.tmp rfl))) ?_
              refine .det (B := []) rfl rfl (.inl rfl) .nil .nil rfl (RunB.lr (run_move (.tmp rfl))) ?_
              refine .det (B := []) rfl rfl (.inl rfl) .nil .nil rfl (RunB.lr (run_indexAddr (i := i) (off' := i * 2) (.tmp rfl) (.tmp rfl) el58 (by omega) (Nat.zero_add _))) ?_
              refine .det (B := []) rfl rfl (.inl rfl) .nil .nil rfl (RunB.lr (run_fieldAddr (.tmp rfl) fa28_0 (by first | exact Nat.zero_add _ | exact rfl))) ?_
              refine .det (B := []) rfl rfl (.inl rfl) (.cons rfl .nil) .nil rfl (RunB.lr (run_load1 (v := .int .i64 a.lo) (.tmp rfl) kd3 (by repeat (first | exact List.Mem.head _ | apply List.Mem.tail)) hsp.1)) ?_
              refine .det (B := []) rfl rfl (.inl rfl) .nil .nil rfl (RunB.lr (run_move (.tmp rfl))) ?_
              refine .det (B := []) rfl rfl (.inl rfl) .nil .nil rfl (RunB.lr (run_move (.tmp rfl))) ?_
              refine .det (B := []) rfl rfl (.inl rfl) .nil .nil rfl (RunB.lr (run_indexAddr (i := i) (off' := i * 2) (.tmp rfl) (.tmp rfl) el58 (by omega) (Nat.zero_add _))) ?_
              refine .det (B := []) rfl rfl (.inl rfl) .nil .nil rfl (RunB.lr (run_fieldAddr (.tmp rfl) fa28_1 (by first | exact Nat.zero_add _ | exact rfl))) ?_
              refine .det (B := []) rfl rfl (.inl rfl) (.cons rfl .nil) .nil rfl (RunB.lr (run_load1 (v := .int .i64 a.hi) (.tmp rfl) kd3 (by repeat (first | exact List.Mem.head _ | apply List.Mem.tail)) hsp.2)) ?_
              refine .det (B := []) rfl rfl (.inl rfl) .nil .nil rfl (RunB.lr (run_gtr (.tmp rfl) (.tmp rfl) (by first | exact decide_eq_true (by omega) | exact decide_eq_false (by omega) | exact rfl))) ?_
              refine chain_nil (ts := [0, 1]) (.cons rfl (.cons rfl .nil)) (by decide) ?_
              refine xw_then ?_
              refine cw_cond_true (.tmp rfl) ?_
              have hno : hardOk g = false := by
                cases h : hardOk g with
                | false => rfl
                | true => exact absurd (hardOk_cS h hil) (by rw [← hat, ha]; omega)
              refine cw_seq ?_
              refine cw_region ?_
              refine lstepB rfl rfl rfl (run_assign .const) ?_
              refine lstepB rfl rfl rfl (run_assign .const) ?_
              refine lnil ?_
              refine xw_then ?_
              refine cw_ret ?_
              refine xw_in_ret ?_
              refine xw_then_ret ?_
              refine xw_then_ret ?_
              refine xw_in_ret ?_
              refine xw_then_ret ?_
              refine xw_ret2 Try.results48 rfl rfl (fun w hS => ⟨none, hno, rfl, hS.pick (by repeat (first | exact Pick.nil | (apply Pick.cons; focus (repeat (first | exact Del.here | apply Del.there)))))⟩)
            ·
              refine cw_skip ?_
              refine xw_then ?_
              refine cw_seq ?_
              refine cw_block ?_
              refine cw_seq ?_
              refine cw_chain2 (σ := [0, 1, 2, 3, 4, 5, 6, 7, 8, 9, 10]) [⟨0, [], [], [], 0⟩, ⟨0, [], [], [], 0⟩, ⟨0, [], [], [], 3⟩, ⟨0, [], [], [], 7⟩, ⟨0, [0], [], [], 15⟩, ⟨0, [], [], [], 0⟩, ⟨0, [], [], [], 0⟩, ⟨0, [], [], [], 96⟩, ⟨0, [], [], [], 224⟩, ⟨0, [0], [], [], 480⟩, ⟨0, [], [], [], 1023⟩] [(0, _), (1, _)] (by kernel_rfl) (by kernel_rfl) rfl ?_
              refine .det (B := []) rfl rfl (.inl rfl) .nil .nil rfl (RunB.lr (run_move (.tmp rfl))) ?_
              refine .det (B := []) rfl rfl (.inl rfl) .nil .nil rfl (RunB.lr (run_move (.tmp rfl))) ?_
              refine .det (B := []) rfl rfl (.inl rfl) .nil .nil rfl (RunB.lr (run_indexAddr (i := i) (off' := i * 2) (.tmp rfl) (.tmp rfl) el58 (by omega) (Nat.zero_add _))) ?_
              refine .det (B := []) rfl rfl (.inl rfl) .nil .nil rfl (RunB.lr (run_fieldAddr (.tmp rfl) fa28_0 (by first | exact Nat.zero_add _ | exact rfl))) ?_
              refine .det (B := []) rfl rfl (.inl rfl) (.cons rfl .nil) .nil rfl (RunB.lr (run_load1 (v := .int .i64 a.lo) (.tmp rfl) kd3 (by repeat (first | exact List.Mem.head _ | apply List.Mem.tail)) hsp.1)) ?_
              refine .det (B := []) rfl rfl (.inl rfl) .nil .nil rfl (RunB.lr (run_move (.tmp rfl))) ?_
              refine .det (B := []) rfl rfl (.inl rfl) .nil .nil rfl (RunB.lr (run_move (.tmp rfl))) ?_
              refine .det (B := []) rfl rfl (.inl rfl) .nil .nil rfl (RunB.lr (run_indexAddr (i := i) (off' := i * 2) (.tmp rfl) (.tmp rfl) el58 (by omega) (Nat.zero_add _))) ?_
              refine .det (B := []) rfl rfl (.inl rfl) .nil .nil rfl (RunB.lr (run_fieldAddr (.tmp rfl) fa28_1 (by first | exact Nat.zero_add _ | exact rfl))) ?_
              refine .det (B := []) rfl rfl (.inl rfl) (.cons rfl .nil) .nil rfl (RunB.lr (run_load1 (v := .int .i64 a.hi) (.tmp rfl) kd3 (by repeat (first | exact List.Mem.head _ | apply List.Mem.tail)) hsp.2)) ?_
              refine .det (B := []) rfl rfl (.inl rfl) .nil .nil rfl (RunB.lr (run_gtr (.tmp rfl) (.tmp rfl) (by first | exact decide_eq_true (by omega) | exact decide_eq_false (by omega) | exact rfl))) ?_
              refine chain_nil (ts := [0, 1]) (.cons rfl (.cons rfl .nil)) (by decide) ?_
              refine xw_then ?_
              refine cw_cond_false (.tmp rfl) ?_
              refine cw_skip ?_
              refine xw_in ?_
              refine xw_then ?_
              refine cw_region ?_
              refine lstepB rfl rfl rfl (run_move (.tmp rfl)) ?_
              refine lstepB rfl rfl rfl (run_add (.tmp rfl) .const (by first | exact IntWalk.i64_in _ (by omega) | exact rfl)) ?_
              refine lstepB rfl rfl rfl (run_assign (.tmp rfl)) ?_
              refine lnil ?_
              exact xw_round (i + 1) ⟨by omega, fun j hj => (Nat.lt_or_ge j i).elim (i2 j) (fun h => by rw [show j = i by omega, ← hat, ha]; exact hc)⟩ (by show placesN g - (i + 1) < placesN g - i; omega) (by repeat (first | exact Less.nil | refine Less.cons rfl ?_)) (by repeat (first | exact Pick.nil | (apply Pick.cons; focus (repeat (first | exact Del.here | apply Del.there)))))
          ·
            have hyes : hardOk g = true := by
              rw [hardOk, List.all_eq_true]
              intro s hs
              obtain ⟨j, hj, rfl⟩ := List.getElem_of_mem hs
              rw [hardL_length] at hj
              have hj' : j < placesN g := hj
              have e := hardL_get j hj'
              rw [List.getElem?_eq_getElem (by rw [hardL_length]; exact hj)] at e
              rw [Option.some.inj e]
              have := i2 j (by omega)
              simpa using this
            refine cw_exit ?_
            refine xw_then_exit ?_
            refine xw_then_exit ?_
            refine xw_in_exit ?_
            refine xw_then ?_
            refine cw_seq ?_
            refine cw_region ?_
            refine lstepB rfl rfl rfl (run_move (.tmp rfl)) ?_
            refine lstepB rfl rfl rfl (run_assign (.tmp rfl)) ?_
            refine lstepB rfl rfl rfl (run_assign .const) ?_
            refine lnil ?_
            refine xw_then ?_
            refine cw_ret ?_
            refine xw_ret2 Try.results48 rfl rfl (fun w hS => ⟨some (gA, cA, spansC (hardL g) ++ rest), ⟨hyes, inrow_of (hardL_length g) hrest hcap hmax⟩, rfl, hS.pick (by repeat (first | exact Pick.nil | (apply Pick.cons; focus (repeat (first | exact Del.here | apply Del.there)))))⟩)
end Go.Proofs.Ytfmbnobkenngaaa
