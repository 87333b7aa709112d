/- Package soil: hardness. -/
import Derived.Test.YtfmbnobkenngaaaGE
import Derived.Test.YtfmbnobkenngaaaET
import Derived.Test.YtfmbnobkenngaaaGB
import Derived.Test.YtfmbnobkenngaaaGG
namespace Go.Proofs.Ytfmbnobkenngaaa
open Go.RowKit En

theorem mulBd {x y m k : Int} (h1 : 0 ≤ x) (h2 : x ≤ m) (h3 : 0 ≤ y) (h4 : y ≤ k) : 0 ≤ x * y ∧ x * y ≤ m * k :=
  ⟨Int.mul_nonneg h1 h3, Int.le_trans (Int.mul_le_mul_of_nonneg_right h2 h3) (Int.mul_le_mul_of_nonneg_left h4 (by omega))⟩
theorem mth132 : MethB Try.prog 132 "furrowworks/soil.hardAt" 134 := fun v w => by kernel_rfl
theorem mth135 : MethB Try.prog 135 "furrowworks/soil.hardAt" 135 := fun v w => by kernel_rfl
inductive VoiceD
  | bound
  | pit (p : PitD) (rise : Int)
abbrev pitVC (p : PitD) (rise : Int) : List Value := [.int .i64 p.at_, .int .i64 p.hard.lo, .int .i64 p.hard.hi, .int .i64 p.sand.lo, .int .i64 p.sand.hi, .int .i64 p.silt.lo, .int .i64 p.silt.hi, .int .i64 p.clay.lo, .int .i64 p.clay.hi, .int .i64 rise]
def voiceV : VoiceD → Value
  | .bound => .iface 132 (.agg [.int .i64 0, .int .i64 1000].toArray)
  | .pit p r => .iface 135 (.agg (pitVC p r).toArray)
def hardAtS : VoiceD → Int → SpanD
  | .bound, _ => ⟨0, 1000⟩
  | .pit p r, at_ => widerS p.hard (r * max (at_ - p.at_) (p.at_ - at_))
def fineV : VoiceD → Prop
  | .bound => True
  | .pit p r => (0 ≤ p.hard.lo ∧ p.hard.lo ≤ 1000 ∧ 0 ≤ p.hard.hi ∧ p.hard.hi ≤ 1000) ∧ (0 ≤ r ∧ r ≤ 1000) ∧ 0 ≤ p.at_ ∧ p.at_ ≤ 40
def voiceIn : VoiceD → Value
  | .bound => .agg [.int .i64 0, .int .i64 1000].toArray
  | .pit p r => .agg (pitVC p r).toArray
set_option maxRecDepth 100000 in
set_option maxHeartbeats 4000000 in
theorem boundK (a b n : Int) (w : World) : Gives Try.prog 134 [.agg [.int .i64 a, .int .i64 b].toArray, .int .i64 n] w (.agg [.int .i64 a, .int .i64 b].toArray) := by
  refine .mk <| enter (n := 6) Try.func134 rfl rfl rfl (by repeat (first | exact Fill.nil | apply Fill.cons)) ?_
  refine cw_seq ?_
  refine cw_region ?_
  refine lstep rfl rfl rfl (run_boxN (.tmp rfl)) ?_
  intro b2 _
  refine lstep rfl rfl rfl (run_alloc zr28) ?_
  intro b4 _
  refine lnil ?_
  refine xw_then ?_
  refine cw_seq ?_
  refine cw_region ?_
  refine lstepB rfl rfl rfl (run_loadN (.tmp rfl) kd132 sz132 (by repeat (first | exact List.Mem.head _ | apply List.Mem.tail)) (by repeat (first | exact Sub.done | apply Sub.take | apply Sub.skip))) ?_
  refine lstep0 rfl rfl (run_storeN (.tmp rfl) (.tmp rfl) rfl sz28 rfl (by repeat (first | exact Upd.here | apply Upd.there)) (by repeat (first | exact Put.done | apply Put.put | apply Put.skip))) ?_
  refine lnil ?_
  refine xw_then ?_
  refine cw_ret ?_
  refine xw_retC1 rfl rfl kd28 sz28 (by repeat (first | exact List.Mem.head _ | apply List.Mem.tail)) (by repeat (first | exact Sub.done | apply Sub.take | apply Sub.skip)) (fun w hS => ⟨rfl, hS.kept⟩)
set_option maxRecDepth 100000 in
set_option maxHeartbeats 4000000 in
theorem pitVoiceK (p : PitD) (r n : Int) (h : fineV (.pit p r)) (hn : 0 ≤ n ∧ n ≤ 40) (w : World) : Gives Try.prog 135 [.agg [.int .i64 p.at_, .int .i64 p.hard.lo, .int .i64 p.hard.hi, .int .i64 p.sand.lo, .int .i64 p.sand.hi, .int .i64 p.silt.lo, .int .i64 p.silt.hi, .int .i64 p.clay.lo, .int .i64 p.clay.hi, .int .i64 r].toArray, .int .i64 n] w (.agg [.int .i64 (hardAtS (.pit p r) n).lo, .int .i64 (hardAtS (.pit p r) n).hi].toArray) := by
  obtain ⟨⟨h1, h2, h3, h4⟩, ⟨h5, h6⟩, h7, h8⟩ := h
  have m1 := mulBd (x := r) (y := max (n - p.at_) (p.at_ - n)) (m := 1000) (k := 40) h5 h6 (by omega) (by omega)
  refine .mk <| enter (n := 24) Try.func135 rfl rfl rfl (by repeat (first | exact Fill.nil | apply Fill.cons)) ?_
  refine cw_seq ?_
  refine cw_region ?_
  refine lstep rfl rfl rfl (run_boxN (.tmp rfl)) ?_
  intro b2 _
  refine lstep rfl rfl rfl (run_alloc zr28) ?_
  intro b4 _
  refine lnil ?_
  refine xw_then ?_
  refine cw_seq ?_
  refine cw_chain2 (σ := [0, 1, 2, 3, 4, 5, 6, 7, 8, 9, 10, 11, 12, 13, 14, 15, 16, 17, 18, 19]) [⟨0, [], [], [], 0⟩, ⟨0, [], [], [], 1⟩, ⟨0, [1], [], [], 3⟩, ⟨0, [], [], [], 0⟩, ⟨0, [1], [], [], 8⟩, ⟨0, [], [], [], 0⟩, ⟨0, [], [], [], 0⟩, ⟨0, [], [], [], 64⟩, ⟨0, [1], [], [], 192⟩, ⟨0, [], [], [], 480⟩, ⟨0, [], [], [], 0⟩, ⟨0, [], [], [], 1024⟩, ⟨0, [1], [], [], 3072⟩, ⟨0, [], [], [], 0⟩, ⟨0, [], [], [], 15360⟩, ⟨2, [], [], [2], 32736⟩, ⟨0, [2], [], [], 65504⟩, ⟨0, [], [], [], 131064⟩, ⟨0, [], [], [], 262143⟩, ⟨0, [], [0], [0], 524287⟩] [(0, _), (1, _)] (by kernel_rfl) (by kernel_rfl) rfl ?_
  refine .det (B := []) rfl rfl (.inl rfl) .nil .nil rfl (RunB.lr (run_fieldAddr (.tmp rfl) fa135_0 (by first | exact Nat.zero_add _ | exact rfl))) ?_
  refine .det (B := []) rfl rfl (.inl rfl) .nil .nil rfl (RunB.lr (run_fieldAddr (.tmp rfl) fa55_1 (by first | exact Nat.zero_add _ | exact rfl))) ?_
  refine .det (B := []) rfl rfl (.inl rfl) (.cons rfl .nil) .nil rfl (RunB.lr (run_loadN (.tmp rfl) kd28 sz28 (by repeat (first | exact List.Mem.head _ | apply List.Mem.tail)) (by repeat (first | exact Sub.done | apply Sub.take | apply Sub.skip)))) ?_
  refine .det (B := []) rfl rfl (.inl rfl) .nil .nil rfl (RunB.lr (run_fieldAddr (.tmp rfl) fa135_1 (by first | exact Nat.zero_add _ | exact rfl))) ?_
  refine .det (B := []) rfl rfl (.inl rfl) (.cons rfl .nil) .nil rfl (RunB.lr (run_load1 (.tmp rfl) kd3 (by repeat (first | exact List.Mem.head _ | apply List.Mem.tail)) (by exact rfl))) ?_
  refine .det (B := []) rfl rfl (.inl rfl) .nil .nil rfl (RunB.lr (run_move (.tmp rfl))) ?_
  refine .det (B := []) rfl rfl (.inl rfl) .nil .nil rfl (RunB.lr (run_fieldAddr (.tmp rfl) fa135_0 (by first | exact Nat.zero_add _ | exact rfl))) ?_
  refine .det (B := []) rfl rfl (.inl rfl) .nil .nil rfl (RunB.lr (run_fieldAddr (.tmp rfl) fa55_0 (by first | exact Nat.zero_add _ | exact rfl))) ?_
  refine .det (B := []) rfl rfl (.inl rfl) (.cons rfl .nil) .nil rfl (RunB.lr (run_load1 (.tmp rfl) kd3 (by repeat (first | exact List.Mem.head _ | apply List.Mem.tail)) (by exact rfl))) ?_
  refine .det (B := []) rfl rfl (.inl rfl) .nil .nil rfl (RunB.lr (run_sub (.tmp rfl) (.tmp rfl) (by first | exact IntWalk.i64_in _ (by omega) | exact rfl))) ?_
  refine .det (B := []) rfl rfl (.inl rfl) .nil .nil rfl (RunB.lr (run_fieldAddr (.tmp rfl) fa135_0 (by first | exact Nat.zero_add _ | exact rfl))) ?_
  refine .det (B := []) rfl rfl (.inl rfl) .nil .nil rfl (RunB.lr (run_fieldAddr (.tmp rfl) fa55_0 (by first | exact Nat.zero_add _ | exact rfl))) ?_
  refine .det (B := []) rfl rfl (.inl rfl) (.cons rfl .nil) .nil rfl (RunB.lr (run_load1 (.tmp rfl) kd3 (by repeat (first | exact List.Mem.head _ | apply List.Mem.tail)) (by exact rfl))) ?_
  refine .det (B := []) rfl rfl (.inl rfl) .nil .nil rfl (RunB.lr (run_move (.tmp rfl))) ?_
  refine .det (B := []) rfl rfl (.inl rfl) .nil .nil rfl (RunB.lr (run_sub (.tmp rfl) (.tmp rfl) (by first | exact IntWalk.i64_in _ (by omega) | exact rfl))) ?_
  refine .flo rfl rfl rfl (.lit rfl (.cons (.tmp rfl) (.cons (.tmp rfl) .nil)) (fun w => bs102_2_0_1 w)) trivial rfl rfl rfl ?_
  intro b20
  refine .det (B := []) rfl rfl (.inl rfl) (.cons rfl .nil) .nil rfl (RunB.lr (run_call1 cb108 (.cons (.tmp rfl) .nil) (fun w hS => greatest2K (hS.mem (by repeat (first | exact List.Mem.head _ | apply List.Mem.tail)))))) ?_
  refine .det (B := []) rfl rfl (.inl rfl) .nil .nil rfl (RunB.lr (run_mul (.tmp rfl) (.tmp rfl) (IntWalk.i64_in _ (by omega)))) ?_
  refine .det (B := []) rfl rfl (.inl rfl) .nil .nil rfl (RunB.lr (run_call1 cb112 (.cons (.tmp rfl) (.cons (.tmp rfl) .nil)) (fun w _ => widerK p.hard _ ⟨by omega, by omega, by omega, by omega⟩ ⟨by omega, by omega⟩ w))) ?_
  refine .det (B := [(0, (_, _))]) rfl rfl (.inl rfl) .nil (.cons rfl .nil) rfl (lr_storeN (.tmp rfl) (.tmp rfl) rfl sz28 rfl (by repeat (first | exact Put.done | apply Put.put | apply Put.skip))) ?_
  refine chain_nil (ts := [2, 0, 1]) (.cons rfl (.cons rfl (.cons rfl .nil))) (by decide) ?_
  refine xw_then ?_
  refine cw_ret ?_
  refine xw_retC1 rfl rfl kd28 sz28 (by repeat (first | exact List.Mem.head _ | apply List.Mem.tail)) (by repeat (first | exact Sub.done | apply Sub.take | apply Sub.skip)) (fun w hS => ⟨rfl, hS.kept⟩)
abbrev VoicesAt (w : World) (a : Option Addr) (l : List VoiceD) : Prop := RowsAt w a 1 (l.map fun v => [voiceV v])
theorem VoicesAt.voice {w : World} {a : Option Addr} {l : List VoiceD} (h : VoicesAt w a l) (hn : 0 < l.length) : ∃ b o, a = some ⟨b, o, none⟩ ∧ b < w.heap.size ∧ ∀ i v, l[i]? = some v → w.cell? ⟨b, o + i, none⟩ = some (voiceV v) := by
  obtain ⟨b, o, e, hlt, hc⟩ := RowsAt.at_ h (by simpa using hn)
  exact ⟨b, o, e, hlt, fun i v hi => by simpa using hc i [voiceV v] (by simp [hi]) 0 _ rfl⟩
def commonS (l : List VoiceD) (n : Int) : SpanD := ⟨maxL (l.map fun v => (hardAtS v n).lo), minL (l.map fun v => (hardAtS v n).hi)⟩
abbrev losL (l : List VoiceD) (n : Int) (k : Nat) : List Int := (l.take k).map fun v => (hardAtS v n).lo
abbrev hisL (l : List VoiceD) (n : Int) (k : Nat) : List Int := (l.take k).map fun v => (hardAtS v n).hi
abbrev intC (l : List Int) : List Value := l.map fun n => .int .i64 n
theorem losL_succ {l : List VoiceD} {n : Int} {k : Nat} {v : VoiceD} (h : l[k]? = some v) : intC (losL l n k) ++ [.int .i64 (hardAtS v n).lo] = intC (losL l n (k + 1)) := by
  simp [intC, losL, List.take_add_one, h]
theorem hisL_succ {l : List VoiceD} {n : Int} {k : Nat} {v : VoiceD} (h : l[k]? = some v) : intC (hisL l n k) ++ [.int .i64 (hardAtS v n).hi] = intC (hisL l n (k + 1)) := by
  simp [intC, hisL, List.take_add_one, h]
theorem intsAt_row {w : World} {b cap : Nat} {cur : List Value} {te : TypeId} {fr : Nat × Nat} {l : List Int} {n : Nat} (h : w.heap[b]? = some (.cells cur.toArray te fr)) (hr : InRow 1 n cap cur (intC l)) : IntsAt w (some ⟨b, 0, none⟩) l := rowsAt_cells h fun i r hi j v hj => by
  rw [List.getElem?_map] at hi
  obtain ⟨m, hm, rfl⟩ := Option.map_eq_some_iff.1 hi
  match j, hj with
  | 0, hj =>
    simp at hj
    refine hr.get ?_
    simp [hm, hj]
theorem gr_row {w : World} {b cap : Nat} {cur : List Value} {te : TypeId} {fr : Nat × Nat} {l : List VoiceD} {n : Int} (h : w.heap[b]? = some (.cells cur.toArray te fr)) (hr : InRow 1 l.length cap cur (intC (losL l n l.length))) (hne : 0 < l.length) (hm : l.length ≤ 1000) : Gives Try.prog 108 [.slice (some ⟨b, 0, none⟩) l.length cap] w (.int .i64 (commonS l n).lo) := by
  have := greatestK (losL l n l.length) (some ⟨b, 0, none⟩) cap w (by simp; omega) (by simpa using hne) (intsAt_row h hr)
  rw [show losL l n l.length = l.map fun v => (hardAtS v n).lo from by rw [losL, List.take_length]] at this
  simpa [commonS] using this
theorem le_row {w : World} {b cap : Nat} {cur : List Value} {te : TypeId} {fr : Nat × Nat} {l : List VoiceD} {n : Int} (h : w.heap[b]? = some (.cells cur.toArray te fr)) (hr : InRow 1 l.length cap cur (intC (hisL l n l.length))) (hne : 0 < l.length) (hm : l.length ≤ 1000) : Gives Try.prog 109 [.slice (some ⟨b, 0, none⟩) l.length cap] w (.int .i64 (commonS l n).hi) := by
  have := leastK (hisL l n l.length) (some ⟨b, 0, none⟩) cap w (by simp; omega) (by simpa using hne) (intsAt_row h hr)
  rw [show hisL l n l.length = l.map fun v => (hardAtS v n).hi from by rw [hisL, List.take_length]] at this
  simpa [commonS] using this
set_option maxRecDepth 100000 in
set_option maxHeartbeats 4000000 in
theorem commonK (l : List VoiceD) (n : Int) (a : Option Addr) (c : Nat) (w : World) (hne : 0 < l.length) (hm : l.length ≤ 1000) (hf : ∀ v ∈ l, fineV v) (hn : 0 ≤ n ∧ n ≤ 40) (hq : VoicesAt w a l) : Gives Try.prog 96 [.slice a l.length c, .int .i64 n] w (.agg [.int .i64 (commonS l n).lo, .int .i64 (commonS l n).hi].toArray) := by
  refine .mk <| enter (n := 35) Try.func96 rfl rfl rfl (by repeat (first | exact Fill.nil | apply Fill.cons)) ?_
  refine cw_seq ?_
  refine cw_region ?_
  refine lstep rfl rfl rfl (run_alloc zr28) ?_
  intro b4 _
  refine lnil ?_
  refine xw_then ?_
  refine cw_seq ?_
  refine cw_region ?_
  refine lstepB rfl rfl rfl (run_assign .const) ?_
  refine lstepB rfl rfl rfl (run_assign .const) ?_
  refine lnil ?_
  refine xw_then ?_
  refine cw_seq ?_
  refine cw_seq ?_
  refine cw_region ?_
  refine lstepB rfl rfl rfl (run_move (.tmp rfl)) ?_
  refine lstepB rfl rfl rfl (run_len (.tmp rfl) sl133) ?_
  refine lstepB rfl rfl rfl (run_move .const) ?_
  refine lnil ?_
  refine xw_then ?_
  refine cw_block ?_
  obtain ⟨b, o, rfl, hb, hc⟩ := hq.voice hne
  refine cw_loop (S := Option (Nat × (Nat × Nat × List Value) × (Nat × Nat × List Value))) (fun s => [(5, (match s with | none => .slice none 0 0 | some q => .slice (some ⟨q.2.1.1, 0, none⟩) q.1 q.2.1.2.1)), (6, (match s with | none => .slice none 0 0 | some q => .slice (some ⟨q.2.2.1, 0, none⟩) q.1 q.2.2.2.1)), (12, .int .i64 ((match s with | none => 0 | some q => q.1 : Nat) : Int))]) [(1, _), (4, _), (10, _), (11, _)] (fun s => (match s with | none => [] | some q => [(q.2.1.1, Obj.cells q.2.1.2.2.toArray 3 (0, 0)), (q.2.2.1, Obj.cells q.2.2.2.2.toArray 3 (0, 0))]) ++ [(b4, Obj.cells [.int .i64 0, .int .i64 0].toArray 28 (0, 0))]) (fun s => (match s with | none => True | some q => 1 ≤ q.1 ∧ q.1 ≤ l.length ∧ InRow 1 q.1 q.2.1.2.1 q.2.1.2.2 (intC (losL l n q.1)) ∧ InRow 1 q.1 q.2.2.2.1 q.2.2.2.2 (intC (hisL l n q.1)))) (fun s => l.length - (match s with | none => 0 | some q => q.1)) none trivial (by repeat (first | exact Less.nil | refine Less.cons rfl ?_)) (by repeat (first | exact Pick.nil | (apply Pick.cons; focus (repeat (first | exact Del.here | apply Del.there))))) ?_
  intro s hs
  cases s
  case none =>
    dsimp only at hs ⊢
    refine cw_seq ?_
    refine cw_region ?_
    refine lstepB rfl rfl rfl (run_lss (.tmp rfl) (.tmp rfl) (by first | exact decide_eq_true (by omega) | exact decide_eq_false (by omega) | exact rfl)) ?_
    refine lnil ?_
    refine xw_then ?_
    refine cw_seq ?_
    refine cw_cond_true (.tmp rfl) ?_
    obtain ⟨v, hv⟩ : ∃ v, l[0]? = some v := ⟨_, List.getElem?_eq_getElem (by omega)⟩
    have hfv := hf v (List.mem_of_getElem? hv)
    cases v
    case bound =>
      refine cw_skip ?_
      refine xw_then ?_
      refine cw_seq ?_
      refine cw_block ?_
      refine cw_seq ?_
      refine cw_region ?_
      refine lstepB rfl rfl rfl (run_indexAddr (i := 0) (off' := o + 0) (.tmp rfl) (.tmp rfl) el133 (by omega) (by rw [Nat.mul_one])) ?_
      refine lstepB rfl rfl rfl (run_load1_at (.tmp rfl) kd148 (fun w' hS => hS.old_cell (fun h => h) (hc 0 _ hv))) ?_
      refine lstepB rfl rfl rfl (run_assign (.tmp rfl)) ?_
      refine lnil ?_
      refine xw_then ?_
      refine cw_seq ?_
      refine cw_region ?_
      refine lstepB rfl rfl rfl (run_move (.tmp rfl)) ?_
      refine lstepB rfl rfl rfl (run_move (.tmp rfl)) ?_
      refine lstepB rfl rfl rfl (run_invoke cb134 mth132 (.tmp rfl) (.cons (.tmp rfl) .nil) (fun w _ => boundK 0 1000 n w)) ?_
      refine lstep rfl rfl rfl (run_alloc zr28) ?_
      intro b9 _
      refine lstep0 rfl rfl (run_storeN (.tmp rfl) (.tmp rfl) rfl sz28 rfl (by repeat (first | exact Upd.here | apply Upd.there)) (by repeat (first | exact Put.done | apply Put.put | apply Put.skip))) ?_
      refine lnil ?_
      refine xw_then ?_
      refine cw_seq ?_
      refine cw_region ?_
      refine lstepB rfl rfl rfl (run_move (.tmp rfl)) ?_
      refine lstepB rfl rfl rfl (run_fieldAddr (.tmp rfl) fa28_0 (by first | exact Nat.zero_add _ | exact rfl)) ?_
      refine lstepB rfl rfl rfl (run_load1 (.tmp rfl) kd3 (by repeat (first | exact List.Mem.head _ | apply List.Mem.tail)) (by exact rfl)) ?_
      refine lstep rfl rfl rfl (LR.runs (lr_buildSlice_at (.cons (.tmp rfl) .nil) (fun w => bs102_1_0 w)) (by repeat (first | exact Pick.nil | (apply Pick.cons; focus (repeat (first | exact Del.here | apply Del.there))))) (by repeat (first | exact Dels.nil | (apply Dels.cons; focus (repeat (first | exact Del.here | apply Del.there)))))) ?_
      intro b22 _
      refine lstep rfl rfl rfl (LR.runs (R := [(b22, _)]) (A := []) (lr_append_nil ap102 (.tmp rfl) (.tmp rfl) (news := [.int .i64 (hardAtS VoiceD.bound n).lo]) rfl (by omega) (by omega) (by decide) (news_own (by repeat (first | exact List.Mem.head _ | apply List.Mem.tail)))) (by repeat (first | exact Pick.nil | (apply Pick.cons; focus (repeat (first | exact Del.here | apply Del.there))))) (by repeat (first | exact Dels.nil | (apply Dels.cons; focus (repeat (first | exact Del.here | apply Del.there)))))) ?_
      intro ⟨gA, cgA, rgA⟩ hgA
      refine lstepB rfl rfl rfl (run_assign (.tmp rfl)) ?_
      refine lnil ?_
      refine xw_then ?_
      refine cw_region ?_
      refine lstepB rfl rfl rfl (run_move (.tmp rfl)) ?_
      refine lstepB rfl rfl rfl (run_fieldAddr (.tmp rfl) fa28_1 (by first | exact Nat.zero_add _ | exact rfl)) ?_
      refine lstepB rfl rfl rfl (run_load1 (.tmp rfl) kd3 (by repeat (first | exact List.Mem.head _ | apply List.Mem.tail)) (by exact rfl)) ?_
      refine lstep rfl rfl rfl (LR.runs (lr_buildSlice_at (.cons (.tmp rfl) .nil) (fun w => bs102_1_0 w)) (by repeat (first | exact Pick.nil | (apply Pick.cons; focus (repeat (first | exact Del.here | apply Del.there))))) (by repeat (first | exact Dels.nil | (apply Dels.cons; focus (repeat (first | exact Del.here | apply Del.there)))))) ?_
      intro b27 _
      refine lstep rfl rfl rfl (LR.runs (R := [(b27, _)]) (A := []) (lr_append_nil ap102 (.tmp rfl) (.tmp rfl) (news := [.int .i64 (hardAtS VoiceD.bound n).hi]) rfl (by omega) (by omega) (by decide) (news_own (by repeat (first | exact List.Mem.head _ | apply List.Mem.tail)))) (by repeat (first | exact Pick.nil | (apply Pick.cons; focus (repeat (first | exact Del.here | apply Del.there))))) (by repeat (first | exact Dels.nil | (apply Dels.cons; focus (repeat (first | exact Del.here | apply Del.there)))))) ?_
      intro ⟨gB, cgB, rgB⟩ hgB
      refine lstepB rfl rfl rfl (run_assign (.tmp rfl)) ?_
      refine lnil ?_
      refine xw_in ?_
      refine xw_then ?_
      refine cw_region ?_
      refine lstepB rfl rfl rfl (run_add (.tmp rfl) .const (by first | exact IntWalk.i64_in _ (by omega) | exact rfl)) ?_
      refine lstepB rfl rfl rfl (run_move (.tmp rfl)) ?_
      refine lnil ?_
      have e1 := losL_succ (n := n) hv
      have e2 := hisL_succ (n := n) hv
      change InRow _ _ _ _ (intC (losL l n 0) ++ _) at hgA
      change InRow _ _ _ _ (intC (hisL l n 0) ++ _) at hgB
      rw [e1] at hgA
      rw [e2] at hgB
      exact xw_round (some (1, (gA, cgA, rgA), (gB, cgB, rgB))) ⟨by omega, by omega, hgA, hgB⟩ (by show l.length - 1 < l.length - 0; omega) (by repeat (first | exact Less.nil | refine Less.cons rfl ?_)) (by repeat (first | exact Pick.nil | (apply Pick.cons; focus (repeat (first | exact Del.here | apply Del.there)))))
    case pit p r =>
      refine cw_skip ?_
      refine xw_then ?_
      refine cw_seq ?_
      refine cw_block ?_
      refine cw_seq ?_
      refine cw_region ?_
      refine lstepB rfl rfl rfl (run_indexAddr (i := 0) (off' := o + 0) (.tmp rfl) (.tmp rfl) el133 (by omega) (by rw [Nat.mul_one])) ?_
      refine lstepB rfl rfl rfl (run_load1_at (.tmp rfl) kd148 (fun w' hS => hS.old_cell (fun h => h) (hc 0 _ hv))) ?_
      refine lstepB rfl rfl rfl (run_assign (.tmp rfl)) ?_
      refine lnil ?_
      refine xw_then ?_
      refine cw_seq ?_
      refine cw_region ?_
      refine lstepB rfl rfl rfl (run_move (.tmp rfl)) ?_
      refine lstepB rfl rfl rfl (run_move (.tmp rfl)) ?_
      refine lstepB rfl rfl rfl (run_invoke cb135 mth135 (.tmp rfl) (.cons (.tmp rfl) .nil) (fun w _ => pitVoiceK p r n hfv hn w)) ?_
      refine lstep rfl rfl rfl (run_alloc zr28) ?_
      intro b9 _
      refine lstep0 rfl rfl (run_storeN (.tmp rfl) (.tmp rfl) rfl sz28 rfl (by repeat (first | exact Upd.here | apply Upd.there)) (by repeat (first | exact Put.done | apply Put.put | apply Put.skip))) ?_
      refine lnil ?_
      refine xw_then ?_
      refine cw_seq ?_
      refine cw_region ?_
      refine lstepB rfl rfl rfl (run_move (.tmp rfl)) ?_
      refine lstepB rfl rfl rfl (run_fieldAddr (.tmp rfl) fa28_0 (by first | exact Nat.zero_add _ | exact rfl)) ?_
      refine lstepB rfl rfl rfl (run_load1 (.tmp rfl) kd3 (by repeat (first | exact List.Mem.head _ | apply List.Mem.tail)) (by exact rfl)) ?_
      refine lstep rfl rfl rfl (LR.runs (lr_buildSlice_at (.cons (.tmp rfl) .nil) (fun w => bs102_1_0 w)) (by repeat (first | exact Pick.nil | (apply Pick.cons; focus (repeat (first | exact Del.here | apply Del.there))))) (by repeat (first | exact Dels.nil | (apply Dels.cons; focus (repeat (first | exact Del.here | apply Del.there)))))) ?_
      intro b22 _
      refine lstep rfl rfl rfl (LR.runs (R := [(b22, _)]) (A := []) (lr_append_nil ap102 (.tmp rfl) (.tmp rfl) (news := [.int .i64 (hardAtS (VoiceD.pit p r) n).lo]) rfl (by omega) (by omega) (by decide) (news_own (by repeat (first | exact List.Mem.head _ | apply List.Mem.tail)))) (by repeat (first | exact Pick.nil | (apply Pick.cons; focus (repeat (first | exact Del.here | apply Del.there))))) (by repeat (first | exact Dels.nil | (apply Dels.cons; focus (repeat (first | exact Del.here | apply Del.there)))))) ?_
      intro ⟨gA, cgA, rgA⟩ hgA
      refine lstepB rfl rfl rfl (run_assign (.tmp rfl)) ?_
      refine lnil ?_
      refine xw_then ?_
      refine cw_region ?_
      refine lstepB rfl rfl rfl (run_move (.tmp rfl)) ?_
      refine lstepB rfl rfl rfl (run_fieldAddr (.tmp rfl) fa28_1 (by first | exact Nat.zero_add _ | exact rfl)) ?_
      refine lstepB rfl rfl rfl (run_load1 (.tmp rfl) kd3 (by repeat (first | exact List.Mem.head _ | apply List.Mem.tail)) (by exact rfl)) ?_
      refine lstep rfl rfl rfl (LR.runs (lr_buildSlice_at (.cons (.tmp rfl) .nil) (fun w => bs102_1_0 w)) (by repeat (first | exact Pick.nil | (apply Pick.cons; focus (repeat (first | exact Del.here | apply Del.there))))) (by repeat (first | exact Dels.nil | (apply Dels.cons; focus (repeat (first | exact Del.here | apply Del.there)))))) ?_
      intro b27 _
      refine lstep rfl rfl rfl (LR.runs (R := [(b27, _)]) (A := []) (lr_append_nil ap102 (.tmp rfl) (.tmp rfl) (news := [.int .i64 (hardAtS (VoiceD.pit p r) n).hi]) rfl (by omega) (by omega) (by decide) (news_own (by repeat (first | exact List.Mem.head _ | apply List.Mem.tail)))) (by repeat (first | exact Pick.nil | (apply Pick.cons; focus (repeat (first | exact Del.here | apply Del.there))))) (by repeat (first | exact Dels.nil | (apply Dels.cons; focus (repeat (first | exact Del.here | apply Del.there)))))) ?_
      intro ⟨gB, cgB, rgB⟩ hgB
      refine lstepB rfl rfl rfl (run_assign (.tmp rfl)) ?_
      refine lnil ?_
      refine xw_in ?_
      refine xw_then ?_
      refine cw_region ?_
      refine lstepB rfl rfl rfl (run_add (.tmp rfl) .const (by first | exact IntWalk.i64_in _ (by omega) | exact rfl)) ?_
      refine lstepB rfl rfl rfl (run_move (.tmp rfl)) ?_
      refine lnil ?_
      have e1 := losL_succ (n := n) hv
      have e2 := hisL_succ (n := n) hv
      change InRow _ _ _ _ (intC (losL l n 0) ++ _) at hgA
      change InRow _ _ _ _ (intC (hisL l n 0) ++ _) at hgB
      rw [e1] at hgA
      rw [e2] at hgB
      exact xw_round (some (1, (gA, cgA, rgA), (gB, cgB, rgB))) ⟨by omega, by omega, hgA, hgB⟩ (by show l.length - 1 < l.length - 0; omega) (by repeat (first | exact Less.nil | refine Less.cons rfl ?_)) (by repeat (first | exact Pick.nil | (apply Pick.cons; focus (repeat (first | exact Del.here | apply Del.there)))))
  case some q =>
    obtain ⟨k, ⟨qa, ca, ra⟩, ⟨qb, cb, rb⟩⟩ := q
    obtain ⟨hk1, hk2, h1, h2⟩ := hs
    dsimp only at hk1 hk2 h1 h2 ⊢
    refine cw_seq ?_
    refine cw_region ?_
    refine lstepB rfl rfl rfl (run_lss (.tmp rfl) (.tmp rfl) (by first | exact decide_eq_true (by omega) | exact decide_eq_false (by omega) | exact rfl)) ?_
    refine lnil ?_
    refine xw_then ?_
    refine cw_seq ?_
    refine cw_cond_p (.tmp rfl) (fun hl => ?_) (fun hl => ?_)
    ·
      obtain ⟨v, hv⟩ : ∃ v, l[k]? = some v := ⟨_, List.getElem?_eq_getElem (by omega)⟩
      have hfv := hf v (List.mem_of_getElem? hv)
      cases v
      case bound =>
        refine cw_skip ?_
        refine xw_then ?_
        refine cw_seq ?_
        refine cw_block ?_
        refine cw_seq ?_
        refine cw_region ?_
        refine lstepB rfl rfl rfl (run_indexAddr (i := k) (off' := o + k) (.tmp rfl) (.tmp rfl) el133 (by omega) (by rw [Nat.mul_one])) ?_
        refine lstepB rfl rfl rfl (run_load1_at (.tmp rfl) kd148 (fun w' hS => hS.old_cell (fun h => h) (hc k _ hv))) ?_
        refine lstepB rfl rfl rfl (run_assign (.tmp rfl)) ?_
        refine lnil ?_
        refine xw_then ?_
        refine cw_seq ?_
        refine cw_region ?_
        refine lstepB rfl rfl rfl (run_move (.tmp rfl)) ?_
        refine lstepB rfl rfl rfl (run_move (.tmp rfl)) ?_
        refine lstepB rfl rfl rfl (run_invoke cb134 mth132 (.tmp rfl) (.cons (.tmp rfl) .nil) (fun w _ => boundK 0 1000 n w)) ?_
        refine lstep rfl rfl rfl (run_alloc zr28) ?_
        intro b9 _
        refine lstep0 rfl rfl (run_storeN (.tmp rfl) (.tmp rfl) rfl sz28 rfl (by repeat (first | exact Upd.here | apply Upd.there)) (by repeat (first | exact Put.done | apply Put.put | apply Put.skip))) ?_
        refine lnil ?_
        refine xw_then ?_
        refine cw_seq ?_
        refine cw_region ?_
        refine lstepB rfl rfl rfl (run_move (.tmp rfl)) ?_
        refine lstepB rfl rfl rfl (run_fieldAddr (.tmp rfl) fa28_0 (by first | exact Nat.zero_add _ | exact rfl)) ?_
        refine lstepB rfl rfl rfl (run_load1 (.tmp rfl) kd3 (by repeat (first | exact List.Mem.head _ | apply List.Mem.tail)) (by exact rfl)) ?_
        refine lstep rfl rfl rfl (LR.runs (lr_buildSlice_at (.cons (.tmp rfl) .nil) (fun w => bs102_1_0 w)) (by repeat (first | exact Pick.nil | (apply Pick.cons; focus (repeat (first | exact Del.here | apply Del.there))))) (by repeat (first | exact Dels.nil | (apply Dels.cons; focus (repeat (first | exact Del.here | apply Del.there)))))) ?_
        intro b22 _
        refine lstep rfl rfl rfl (LR.runs (R := [(b22, _)]) (A := [(qa, _)]) (lr_append_row ap102 (.tmp rfl) h1 (.tmp rfl) (news := [.int .i64 (hardAtS VoiceD.bound n).lo]) rfl rfl (by omega) (by unfold maxLen; omega) (news_own (by repeat (first | exact List.Mem.head _ | apply List.Mem.tail)))) (by repeat (first | exact Pick.nil | (apply Pick.cons; focus (repeat (first | exact Del.here | apply Del.there))))) (by repeat (first | exact Dels.nil | (apply Dels.cons; focus (repeat (first | exact Del.here | apply Del.there)))))) ?_
        intro ⟨gA, cgA, rgA⟩ hgA
        refine lstepB rfl rfl rfl (run_assign (.tmp rfl)) ?_
        refine lnil ?_
        refine xw_then ?_
        refine cw_region ?_
        refine lstepB rfl rfl rfl (run_move (.tmp rfl)) ?_
        refine lstepB rfl rfl rfl (run_fieldAddr (.tmp rfl) fa28_1 (by first | exact Nat.zero_add _ | exact rfl)) ?_
        refine lstepB rfl rfl rfl (run_load1 (.tmp rfl) kd3 (by repeat (first | exact List.Mem.head _ | apply List.Mem.tail)) (by exact rfl)) ?_
        refine lstep rfl rfl rfl (LR.runs (lr_buildSlice_at (.cons (.tmp rfl) .nil) (fun w => bs102_1_0 w)) (by repeat (first | exact Pick.nil | (apply Pick.cons; focus (repeat (first | exact Del.here | apply Del.there))))) (by repeat (first | exact Dels.nil | (apply Dels.cons; focus (repeat (first | exact Del.here | apply Del.there)))))) ?_
        intro b27 _
        refine lstep rfl rfl rfl (LR.runs (R := [(b27, _)]) (A := [(qb, _)]) (lr_append_row ap102 (.tmp rfl) h2 (.tmp rfl) (news := [.int .i64 (hardAtS VoiceD.bound n).hi]) rfl rfl (by omega) (by unfold maxLen; omega) (news_own (by repeat (first | exact List.Mem.head _ | apply List.Mem.tail)))) (by repeat (first | exact Pick.nil | (apply Pick.cons; focus (repeat (first | exact Del.here | apply Del.there))))) (by repeat (first | exact Dels.nil | (apply Dels.cons; focus (repeat (first | exact Del.here | apply Del.there)))))) ?_
        intro ⟨gB, cgB, rgB⟩ hgB
        refine lstepB rfl rfl rfl (run_assign (.tmp rfl)) ?_
        refine lnil ?_
        refine xw_in ?_
        refine xw_then ?_
        refine cw_region ?_
        refine lstepB rfl rfl rfl (run_add (.tmp rfl) .const (by first | exact IntWalk.i64_in _ (by omega) | exact rfl)) ?_
        refine lstepB rfl rfl rfl (run_move (.tmp rfl)) ?_
        refine lnil ?_
        rw [losL_succ hv] at hgA
        rw [hisL_succ hv] at hgB
        exact xw_round (some (k + 1, (gA, cgA, rgA), (gB, cgB, rgB))) ⟨by omega, by omega, hgA, hgB⟩ (by show l.length - (k + 1) < l.length - k; omega) (by repeat (first | exact Less.nil | refine Less.cons rfl ?_)) (by repeat (first | exact Pick.nil | (apply Pick.cons; focus (repeat (first | exact Del.here | apply Del.there)))))
      case pit p r =>
        refine cw_skip ?_
        refine xw_then ?_
        refine cw_seq ?_
        refine cw_block ?_
        refine cw_seq ?_
        refine cw_region ?_
        refine lstepB rfl rfl rfl (run_indexAddr (i := k) (off' := o + k) (.tmp rfl) (.tmp rfl) el133 (by omega) (by rw [Nat.mul_one])) ?_
        refine lstepB rfl rfl rfl (run_load1_at (.tmp rfl) kd148 (fun w' hS => hS.old_cell (fun h => h) (hc k _ hv))) ?_
        refine lstepB rfl rfl rfl (run_assign (.tmp rfl)) ?_
        refine lnil ?_
        refine xw_then ?_
        refine cw_seq ?_
        refine cw_region ?_
        refine lstepB rfl rfl rfl (run_move (.tmp rfl)) ?_
        refine lstepB rfl rfl rfl (run_move (.tmp rfl)) ?_
        refine lstepB rfl rfl rfl (run_invoke cb135 mth135 (.tmp rfl) (.cons (.tmp rfl) .nil) (fun w _ => pitVoiceK p r n hfv hn w)) ?_
        refine lstep rfl rfl rfl (run_alloc zr28) ?_
        intro b9 _
        refine lstep0 rfl rfl (run_storeN (.tmp rfl) (.tmp rfl) rfl sz28 rfl (by repeat (first | exact Upd.here | apply Upd.there)) (by repeat (first | exact Put.done | apply Put.put | apply Put.skip))) ?_
        refine lnil ?_
        refine xw_then ?_
        refine cw_seq ?_
        refine cw_region ?_
        refine lstepB rfl rfl rfl (run_move (.tmp rfl)) ?_
        refine lstepB rfl rfl rfl (run_fieldAddr (.tmp rfl) fa28_0 (by first | exact Nat.zero_add _ | exact rfl)) ?_
        refine lstepB rfl rfl rfl (run_load1 (.tmp rfl) kd3 (by repeat (first | exact List.Mem.head _ | apply List.Mem.tail)) (by exact rfl)) ?_
        refine lstep rfl rfl rfl (LR.runs (lr_buildSlice_at (.cons (.tmp rfl) .nil) (fun w => bs102_1_0 w)) (by repeat (first | exact Pick.nil | (apply Pick.cons; focus (repeat (first | exact Del.here | apply Del.there))))) (by repeat (first | exact Dels.nil | (apply Dels.cons; focus (repeat (first | exact Del.here | apply Del.there)))))) ?_
        intro b22 _
        refine lstep rfl rfl rfl (LR.runs (R := [(b22, _)]) (A := [(qa, _)]) (lr_append_row ap102 (.tmp rfl) h1 (.tmp rfl) (news := [.int .i64 (hardAtS (VoiceD.pit p r) n).lo]) rfl rfl (by omega) (by unfold maxLen; omega) (news_own (by repeat (first | exact List.Mem.head _ | apply List.Mem.tail)))) (by repeat (first | exact Pick.nil | (apply Pick.cons; focus (repeat (first | exact Del.here | apply Del.there))))) (by repeat (first | exact Dels.nil | (apply Dels.cons; focus (repeat (first | exact Del.here | apply Del.there)))))) ?_
        intro ⟨gA, cgA, rgA⟩ hgA
        refine lstepB rfl rfl rfl (run_assign (.tmp rfl)) ?_
        refine lnil ?_
        refine xw_then ?_
        refine cw_region ?_
        refine lstepB rfl rfl rfl (run_move (.tmp rfl)) ?_
        refine lstepB rfl rfl rfl (run_fieldAddr (.tmp rfl) fa28_1 (by first | exact Nat.zero_add _ | exact rfl)) ?_
        refine lstepB rfl rfl rfl (run_load1 (.tmp rfl) kd3 (by repeat (first | exact List.Mem.head _ | apply List.Mem.tail)) (by exact rfl)) ?_
        refine lstep rfl rfl rfl (LR.runs (lr_buildSlice_at (.cons (.tmp rfl) .nil) (fun w => bs102_1_0 w)) (by repeat (first | exact Pick.nil | (apply Pick.cons; focus (repeat (first | exact Del.here | apply Del.there))))) (by repeat (first | exact Dels.nil | (apply Dels.cons; focus (repeat (first | exact Del.here | apply Del.there)))))) ?_
        intro b27 _
        refine lstep rfl rfl rfl (LR.runs (R := [(b27, _)]) (A := [(qb, _)]) (lr_append_row ap102 (.tmp rfl) h2 (.tmp rfl) (news := [.int .i64 (hardAtS (VoiceD.pit p r) n).hi]) rfl rfl (by omega) (by unfold maxLen; omega) (news_own (by repeat (first | exact List.Mem.head _ | apply List.Mem.tail)))) (by repeat (first | exact Pick.nil | (apply Pick.cons; focus (repeat (first | exact Del.here | apply Del.there))))) (by repeat (first | exact Dels.nil | (apply Dels.cons; focus (repeat (first | exact Del.here | apply Del.there)))))) ?_
        intro ⟨gB, cgB, rgB⟩ hgB
        refine lstepB rfl rfl rfl (run_assign (.tmp rfl)) ?_
        refine lnil ?_
        refine xw_in ?_
        refine xw_then ?_
        refine cw_region ?_
        refine lstepB rfl rfl rfl (run_add (.tmp rfl) .const (by first | exact IntWalk.i64_in _ (by omega) | exact rfl)) ?_
        refine lstepB rfl rfl rfl (run_move (.tmp rfl)) ?_
        refine lnil ?_
        rw [losL_succ hv] at hgA
        rw [hisL_succ hv] at hgB
        exact xw_round (some (k + 1, (gA, cgA, rgA), (gB, cgB, rgB))) ⟨by omega, by omega, hgA, hgB⟩ (by show l.length - (k + 1) < l.length - k; omega) (by repeat (first | exact Less.nil | refine Less.cons rfl ?_)) (by repeat (first | exact Pick.nil | (apply Pick.cons; focus (repeat (first | exact Del.here | apply Del.there)))))
    ·
      obtain rfl : k = l.length := by omega
      refine cw_exit ?_
      refine xw_then_exit ?_
      refine xw_then_exit ?_
      refine xw_in_exit ?_
      refine xw_then ?_
      refine cw_seq ?_
      refine cw_region ?_
      refine lstepB rfl rfl rfl (run_move (.tmp rfl)) ?_
      refine lstepB rfl rfl rfl (run_call1 cb108 (.cons (.tmp rfl) .nil) (fun w hS => gr_row (hS.mem (by repeat (first | exact List.Mem.head _ | apply List.Mem.tail))) h1 hne hm)) ?_
      refine lstepB rfl rfl rfl (run_move (.tmp rfl)) ?_
      refine lstepB rfl rfl rfl (run_call1 cb109 (.cons (.tmp rfl) .nil) (fun w hS => le_row (hS.mem (by repeat (first | exact List.Mem.head _ | apply List.Mem.tail))) h2 hne hm)) ?_
      refine lstepB rfl rfl rfl (run_build_at (.cons (.tmp rfl) (.cons (.tmp rfl) .nil)) (fun w => bd28_0_1 w)) ?_
      refine lstep0 rfl rfl (run_storeN (.tmp rfl) (.tmp rfl) rfl sz28 rfl (by repeat (first | exact Upd.here | apply Upd.there)) (by repeat (first | exact Put.done | apply Put.put | apply Put.skip))) ?_
      refine lnil ?_
      refine xw_then ?_
      refine cw_ret ?_
      refine xw_retC1 rfl rfl kd28 sz28 (by repeat (first | exact List.Mem.head _ | apply List.Mem.tail)) (by repeat (first | exact Sub.done | apply Sub.take | apply Sub.skip)) (fun w hS => ⟨rfl, hS.kept⟩)
end Go.Proofs.Ytfmbnobkenngaaa
namespace Go.Proofs.Ytfmbnobkenngaaa
open Go.RowKit En

structure ValidG (g : GroundD) : Prop where
  long : 0 ≤ g.long ∧ g.long ≤ 40
  rise : 0 ≤ g.rise ∧ g.rise ≤ 1000
  change : 0 ≤ g.change ∧ g.change ≤ 20
  len : g.pits.length ≤ 8
  pits : ∀ p ∈ g.pits, (0 ≤ p.at_ ∧ p.at_ ≤ g.long) ∧ pitB p = true
theorem pitsB_all {long : Int} : ∀ {bef : Int} {l : List PitD}, -1 ≤ bef → pitsB long bef l = true → ∀ p ∈ l, (0 ≤ p.at_ ∧ p.at_ ≤ long) ∧ pitB p = true
  | _, [], _, _ => fun p hp => by cases hp
  | bef, q :: r, hb, h => fun p hp => by
    simp only [pitsB, Bool.and_eq_true, Bool.not_eq_true', decide_eq_false_iff_not] at h
    obtain ⟨⟨⟨h1, h2⟩, h3⟩, h4⟩ := h
    rcases List.mem_cons.1 hp with rfl | hp
    · exact ⟨by omega, h3⟩
    · exact pitsB_all (by omega) h4 p hp
theorem validG {g : GroundD} (h : validB g = true) : ValidG g := by
  simp only [validB, upToB, Bool.and_eq_true, decide_eq_true_eq] at h
  obtain ⟨⟨⟨⟨h1, h2⟩, h3⟩, h4⟩, h5⟩ := h
  exact ⟨h1, h2, h3, h4, pitsB_all (by omega) h5⟩
def voicesL (g : GroundD) : List VoiceD := .bound :: g.pits.map fun p => .pit p g.rise
def hardL (g : GroundD) : List SpanD := (List.range (g.long + 1).toNat).map fun (i : Nat) => commonS (voicesL g) (i : Int)
def hardOk (g : GroundD) : Bool := (hardL g).all fun s => !decide (s.hi < s.lo)
theorem ValidG.voices {g : GroundD} (h : ValidG g) : ∀ v ∈ voicesL g, fineV v := fun v hv => by
  rcases List.mem_cons.1 hv with rfl | hv
  · trivial
  · obtain ⟨p, hp, rfl⟩ := List.mem_map.1 hv
    obtain ⟨h1, h2⟩ := h.pits p hp
    have := h.long
    simp only [pitB, withinB, Bool.and_eq_true, decide_eq_true_eq] at h2
    exact ⟨by omega, h.rise, by omega⟩
theorem voices_at {g : GroundD} {k : Nat} {p : PitD} (h : g.pits[k]? = some p) : (voicesL g)[k + 1]? = some (.pit p g.rise) := by simp [voicesL, h]
theorem voicesL_length (g : GroundD) : (voicesL g).length = g.pits.length + 1 := by simp [voicesL]
abbrev voicesC (l : List VoiceD) : List Value := l.map voiceV
theorem voices_succ {l : List VoiceD} {k : Nat} {v : VoiceD} (h : l[k]? = some v) : voicesC (l.take k) ++ [voiceV v] = voicesC (l.take (k + 1)) := by simp [voicesC, List.take_add_one, h]
theorem voicesAt_row {w : World} {b cap : Nat} {cur : List Value} {te : TypeId} {fr : Nat × Nat} {l : List VoiceD} {n : Nat} (h : w.heap[b]? = some (.cells cur.toArray te fr)) (hr : InRow 1 n cap cur (voicesC l)) : VoicesAt w (some ⟨b, 0, none⟩) l := rowsAt_cells h fun i r hi j v hj => by
  rw [List.getElem?_map] at hi
  obtain ⟨m, hm, rfl⟩ := Option.map_eq_some_iff.1 hi
  match j, hj with
  | 0, hj =>
    simp at hj
    refine hr.get ?_
    simp [hm, hj]
abbrev spansC (l : List SpanD) : List Value := l.flatMap spanC
theorem spansC_length (l : List SpanD) : (spansC l).length = l.length * 2 := by
  induction l with
  | nil => rfl
  | cons a r ih => simp only [spansC, List.flatMap_cons, List.length_append, List.length_cons, List.length_nil] at ih ⊢; omega
theorem spansC_at : ∀ (l : List SpanD) (i : Nat) (s : SpanD), l[i]? = some s → (spansC l)[i * 2]? = some (.int .i64 s.lo) ∧ (spansC l)[i * 2 + 1]? = some (.int .i64 s.hi)
  | [], i, s, h => by cases h
  | a :: r, 0, s, h => by cases h; exact ⟨rfl, rfl⟩
  | a :: r, i + 1, s, h => by
    have := spansC_at r i s h
    rw [show (i + 1) * 2 = i * 2 + 2 by omega]
    exact this
abbrev SpansAt (w : World) (a : Option Addr) (l : List SpanD) : Prop := RowsAt w a 2 (l.map spanC)
theorem spansAt_row {w : World} {b cap : Nat} {cur : List Value} {te : TypeId} {fr : Nat × Nat} {l : List SpanD} {n : Nat} (h : w.heap[b]? = some (.cells cur.toArray te fr)) (hr : InRow 2 n cap cur (spansC l)) : SpansAt w (some ⟨b, 0, none⟩) l := rowsAt_cells h fun i r hi j v hj => by
  rw [List.getElem?_map] at hi
  obtain ⟨m, hm, rfl⟩ := Option.map_eq_some_iff.1 hi
  obtain ⟨a1, a2⟩ := spansC_at l i m hm
  match j, hj with
  | 0, hj => cases hj; exact hr.get a1
  | 1, hj => cases hj; exact hr.get a2
theorem hardL_at {g : GroundD} {k : Nat} (h : k < (g.long + 1).toNat) : (hardL g)[k]? = some (commonS (voicesL g) (k : Int)) := by simp [hardL, h]
theorem hardL_length (g : GroundD) : (hardL g).length = (g.long + 1).toNat := by simp [hardL]
theorem hardL_succ {g : GroundD} {k : Nat} (h : k < (g.long + 1).toNat) : spansC ((hardL g).take k) ++ [.int .i64 (commonS (voicesL g) (k : Int)).lo, .int .i64 (commonS (voicesL g) (k : Int)).hi] = spansC ((hardL g).take (k + 1)) := by
  rw [List.take_add_one, hardL_at h]
  simp [spansC, List.flatMap_append]
theorem bs133 {t : TypeId} {v : Value} (w : World) : (Instr.buildSlice 133 1 [(0, .iface t v)].toArray).run Try.prog w = .ok (.slice (some ⟨w.heap.size, 0, none⟩) 1 1) (w.alloc (Obj.cells [.iface t v].toArray 148 (0, 0))) := by simp [go_sem]
set_option maxRecDepth 100000 in
set_option maxHeartbeats 4000000 in
theorem hardnessK (g : GroundD) (pa : Option Addr) (pc : Nat) (hs ms : Value) (w : World) (hg : ValidG g) (hp : PitsAt w pa g.pits) : CallsF Try.prog 82 (([.agg [.int .i64 g.long, .int .i64 g.rise, .int .i64 g.change, .slice pa g.pits.length pc, hs, ms].toArray] : List Value)).toArray w fun e w' => (hardOk g = true ∧ ∃ q : Nat × Nat × List Value, e = .returned (.slice (some ⟨q.1, 0, none⟩) (hardL g).length q.2.1) ∧ InRow 2 (hardL g).length q.2.1 q.2.2 (spansC (hardL g)) ∧ St w NoT [(q.1, Obj.cells q.2.2.toArray 28 (0, 0))] w') ∨ (hardOk g = false ∧ e = .panicked [errP 10] ∧ Below w.heap.size w w') := by
  have hlen := hg.len
  refine enter (n := 47) Try.func82 rfl rfl rfl (by repeat (first | exact Fill.nil | apply Fill.cons)) ?_
  refine cw_seq ?_
  refine cw_region ?_
  refine lstep rfl rfl rfl (run_boxN (.tmp rfl)) ?_
  intro b1 _
  refine lstepB rfl rfl rfl (run_assign .const) ?_
  refine lnil ?_
  refine xw_then ?_
  refine cw_seq ?_
  refine cw_region ?_
  refine lstepB rfl rfl rfl (run_build_at (.cons .const (.cons .const .nil)) (fun w => bd132_0_1 w)) ?_
  refine lstepB rfl rfl rfl (En.run_makeInterface (.tmp rfl) if132) ?_
  refine lstep rfl rfl rfl (LR.runs (lr_buildSlice_at (.cons (.tmp rfl) .nil) (fun w => bs133 w)) (by repeat (first | exact Pick.nil | (apply Pick.cons; focus (repeat (first | exact Del.here | apply Del.there))))) (by repeat (first | exact Dels.nil | (apply Dels.cons; focus (repeat (first | exact Del.here | apply Del.there)))))) ?_
  intro b11 _
  refine lstep rfl rfl rfl (run_alloc zr133) ?_
  intro b3 _
  refine lstep0 rfl rfl (run_store1 (.tmp rfl) (.tmp rfl) rfl sz133 (by repeat (first | exact Upd.here | apply Upd.there)) (by repeat (first | exact Put.done | apply Put.put | apply Put.skip))) ?_
  refine lnil ?_
  refine xw_then ?_
  refine cw_seq ?_
  refine cw_seq ?_
  refine cw_region ?_
  refine lstepB rfl rfl rfl (run_fieldAddr (.tmp rfl) fa78_0 (by first | exact Nat.zero_add _ | exact rfl)) ?_
  refine lstepB rfl rfl rfl (run_fieldAddr (.tmp rfl) fa24_3 (by first | exact Nat.zero_add _ | exact rfl)) ?_
  refine lstepB rfl rfl rfl (run_load1 (.tmp rfl) kd22 (by repeat (first | exact List.Mem.head _ | apply List.Mem.tail)) (by exact rfl)) ?_
  refine lstepB rfl rfl rfl (run_len (.tmp rfl) sl22) ?_
  refine lstepB rfl rfl rfl (run_move .const) ?_
  refine lnil ?_
  refine xw_then ?_
  refine cw_block ?_
  refine cw_loop (S := Nat × Nat × Nat × List Value) (fun s => [(16, .int .i64 (s.1 : Int))]) [(1, _), (3, _), (14, _), (15, _)] (fun s => [(s.2.1, Obj.cells s.2.2.2.toArray 148 (0, 0)), (b3, Obj.cells [.slice (some ⟨s.2.1, 0, none⟩) (s.1 + 1) s.2.2.1].toArray 133 (0, 0)), (b1, Obj.cells [.int .i64 g.long, .int .i64 g.rise, .int .i64 g.change, .slice pa g.pits.length pc, hs, ms].toArray 78 (0, 0))]) (fun s => s.1 ≤ g.pits.length ∧ InRow 1 (s.1 + 1) s.2.2.1 s.2.2.2 (voicesC ((voicesL g).take (s.1 + 1)))) (fun s => g.pits.length - s.1) (0, b11, 1, [voiceV .bound]) ⟨Nat.zero_le _, Nat.le_refl _, by show 1 ≤ maxLen; unfold maxLen; omega, rfl, rfl⟩ (by repeat (first | exact Less.nil | refine Less.cons rfl ?_)) (by repeat (first | exact Pick.nil | (apply Pick.cons; focus (repeat (first | exact Del.here | apply Del.there))))) ?_
  intro s hs
  obtain ⟨k, gV, cV, rV⟩ := s
  obtain ⟨hk, hV⟩ := hs
  dsimp only at hk hV ⊢
  refine cw_seq ?_
  refine cw_region ?_
  refine lstepB rfl rfl rfl (run_lss (.tmp rfl) (.tmp rfl) (by first | exact decide_eq_true (by omega) | exact decide_eq_false (by omega) | exact rfl)) ?_
  refine lnil ?_
  refine xw_then ?_
  refine cw_seq ?_
  refine cw_cond_p (.tmp rfl) (fun hl => ?_) (fun hl => ?_)
  ·
    obtain ⟨p, hpk⟩ : ∃ p, g.pits[k]? = some p := ⟨_, List.getElem?_eq_getElem (by omega)⟩
    obtain ⟨b, o, rfl, hb, hc⟩ := hp.pit (by omega)
    refine cw_skip ?_
    refine xw_then ?_
    refine cw_seq ?_
    refine cw_block ?_
    refine cw_seq ?_
    refine cw_region ?_
    refine lstepB rfl rfl rfl (run_indexAddr (off' := o + k * 9) (.tmp rfl) (.tmp rfl) el22 (by omega) rfl) ?_
    refine lstepB rfl rfl rfl (run_loadN_at (l := [.int .i64 p.at_, .int .i64 p.hard.lo, .int .i64 p.hard.hi, .int .i64 p.sand.lo, .int .i64 p.sand.hi, .int .i64 p.silt.lo, .int .i64 p.silt.hi, .int .i64 p.clay.lo, .int .i64 p.clay.hi]) (.tmp rfl) kd55 sz55 rfl (fun w' hS j v hj => hS.old_cell (fun h => h) (hc k p hpk j v hj))) ?_
    refine lstep rfl rfl rfl (run_alloc zr55) ?_
    intro b5 _
    refine lstep0 rfl rfl (run_storeN (.tmp rfl) (.tmp rfl) rfl sz55 rfl (by repeat (first | exact Upd.here | apply Upd.there)) (by repeat (first | exact Put.done | apply Put.put | apply Put.skip))) ?_
    refine lnil ?_
    refine xw_then ?_
    refine cw_region ?_
    refine lstepB rfl rfl rfl (run_load1 (.tmp rfl) kd133 (by repeat (first | exact List.Mem.head _ | apply List.Mem.tail)) (by exact rfl)) ?_
    refine lstepB rfl rfl rfl (run_loadN (.tmp rfl) kd55 sz55 (by repeat (first | exact List.Mem.head _ | apply List.Mem.tail)) (by repeat (first | exact Sub.done | apply Sub.take | apply Sub.skip))) ?_
    refine lstepB rfl rfl rfl (run_fieldAddr (.tmp rfl) fa78_0 (by first | exact Nat.zero_add _ | exact rfl)) ?_
    refine lstepB rfl rfl rfl (run_fieldAddr (.tmp rfl) fa24_1 (by first | exact Nat.zero_add _ | exact rfl)) ?_
    refine lstepB rfl rfl rfl (run_load1 (.tmp rfl) kd3 (by repeat (first | exact List.Mem.head _ | apply List.Mem.tail)) (by exact rfl)) ?_
    refine lstepB rfl rfl rfl (run_build_at (.cons (.tmp rfl) (.cons (.tmp rfl) .nil)) (fun w => bd135_0_1 w)) ?_
    refine lstepB rfl rfl rfl (En.run_makeInterface (.tmp rfl) if135) ?_
    refine lstep rfl rfl rfl (LR.runs (lr_buildSlice_at (.cons (.tmp rfl) .nil) (fun w => bs133 w)) (by repeat (first | exact Pick.nil | (apply Pick.cons; focus (repeat (first | exact Del.here | apply Del.there))))) (by repeat (first | exact Dels.nil | (apply Dels.cons; focus (repeat (first | exact Del.here | apply Del.there)))))) ?_
    intro b27 _
    refine lstep rfl rfl rfl (LR.runs (R := [(b27, _)]) (A := [(gV, _)]) (lr_append_row ap133 (.tmp rfl) hV (.tmp rfl) (news := [voiceV (.pit p g.rise)]) rfl rfl (by omega) (by unfold maxLen; omega) (news_own (by repeat (first | exact List.Mem.head _ | apply List.Mem.tail)))) (by repeat (first | exact Pick.nil | (apply Pick.cons; focus (repeat (first | exact Del.here | apply Del.there))))) (by repeat (first | exact Dels.nil | (apply Dels.cons; focus (repeat (first | exact Del.here | apply Del.there)))))) ?_
    intro ⟨gW, cgW, rgW⟩ hgW
    rw [voices_succ (voices_at hpk)] at hgW
    refine lstep0 rfl rfl (run_store1 (.tmp rfl) (.tmp rfl) rfl sz133 (by repeat (first | exact Upd.here | apply Upd.there)) (by repeat (first | exact Put.done | apply Put.put | apply Put.skip))) ?_
    refine lnil ?_
    refine xw_in ?_
    refine xw_then ?_
    refine cw_region ?_
    refine lstepB rfl rfl rfl (run_add (.tmp rfl) .const (by first | exact IntWalk.i64_in _ (by omega) | exact rfl)) ?_
    refine lstepB rfl rfl rfl (run_move (.tmp rfl)) ?_
    refine lnil ?_
    exact xw_round (k + 1, gW, cgW, rgW) ⟨by omega, hgW⟩ (by show g.pits.length - (k + 1) < g.pits.length - k; omega) (by repeat (first | exact Less.nil | refine Less.cons rfl ?_)) (by repeat (first | exact Pick.nil | (apply Pick.cons; focus (repeat (first | exact Del.here | apply Del.there)))))
  ·
    obtain rfl : k = g.pits.length := by omega
    have hV2 : InRow 1 (g.pits.length + 1) cV rV (voicesC (voicesL g)) := by rw [← voicesL_length, List.take_length, voicesL_length] at hV; exact hV
    refine cw_exit ?_
    refine xw_then_exit ?_
    refine xw_then_exit ?_
    refine xw_in_exit ?_
    refine xw_then ?_
    refine cw_seq ?_
    refine cw_region ?_
    refine lstep rfl rfl rfl (run_alloc zr58) ?_
    intro b6 _
    refine lnil ?_
    refine xw_then ?_
    refine cw_seq ?_
    refine cw_seq ?_
    refine cw_region ?_
    refine lstepB rfl rfl rfl (run_loadN (.tmp rfl) kd78 sz78 (by repeat (first | exact List.Mem.head _ | apply List.Mem.tail)) (by repeat (first | exact Sub.done | apply Sub.take | apply Sub.skip))) ?_
    refine lcallN rfl cb90 (.cons (.tmp rfl) (.cons .const .nil)) (F := fun (s : Nat × Nat) lo w' => lo ≤ s.1 ∧ lo ≤ s.2 ∧ w'.cell? ⟨s.1, 0, none⟩ = some (.int .i64 g.long) ∧ w'.cell? ⟨s.2, 0, none⟩ = some (.bool false)) (fun w _ => alongK g.long false _ _ _ _ _ w) ?_
    rintro ⟨z1, z2⟩ lo w1 ⟨a1, a2, c1, c2⟩ hlo hsz hsz2 h1
    dsimp only at a1 a2 c1 c2 ⊢
    have l1 : z1 < w1.heap.size := World.block_lt_of_cell? w1 _ c1
    have l2 : z2 < w1.heap.size := World.block_lt_of_cell? w1 _ c2
    refine lnil ?_
    refine xw_then ?_
    refine cw_block ?_
    refine cw_range (f := 105) (xs := alongL g.long false) (Cap := fun c => c = z1 ∨ c = z2) (S := Option (Nat × Nat × Nat × List Value))
      (fun s => (match s with | none => [(b6, Obj.cells [.slice none 0 0].toArray 58 (0, 0))] | some q => [(q.2.1, Obj.cells q.2.2.2.toArray 28 (0, 0)), (b6, Obj.cells [.slice (some ⟨q.2.1, 0, none⟩) q.1 q.2.2.1].toArray 58 (0, 0))]) ++ [(gV, Obj.cells rV.toArray 148 (0, 0)), (b3, Obj.cells [.slice (some ⟨gV, 0, none⟩) (g.pits.length + 1) cV].toArray 133 (0, 0))])
      (fun k s => (∀ j, j < k → ¬ (commonS (voicesL g) (j : Int)).hi < (commonS (voicesL g) (j : Int)).lo) ∧ match s with | none => k = 0 | some q => k = q.1 ∧ 1 ≤ q.1 ∧ InRow 2 q.1 q.2.2.1 q.2.2.2 (spansC ((hardL g).take q.1))) none
      cb105 (.tmp rfl) rfl (fun w hS => along1_iter g.long false z1 z2 w (by have := hg.long; omega) (hS.old_cell (fun h => absurd (hlo _ h) (by omega)) c1) (hS.old_cell (fun h => absurd (hlo _ h) (by omega)) c2))
      (fun c hc => by rcases hc with rfl | rfl; exact ⟨l1, fun h => absurd (hlo _ h) (by omega)⟩; exact ⟨l2, fun h => absurd (hlo _ h) (by omega)⟩) ⟨fun j h => absurd h (Nat.not_lt_zero j), rfl⟩ (by repeat (first | exact Pick.nil | (apply Pick.cons; focus (repeat (first | exact Del.here | apply Del.there))))) ?_ ?_
    ·
      intro L D fn tm k s x w2 hx hF h2
      have hk : k < (g.long + 1).toNat := by have := (List.getElem?_eq_some_iff.1 hx).1; rwa [alongL_length] at this
      rw [alongL_at hk] at hx
      cases hx
      obtain ⟨hbef, hF⟩ := hF
      have hlong := hg.long
      cases s
      case none =>
        dsimp only at hF ⊢
        subst hF
        refine cw_region ?_
        refine lstepB rfl rfl rfl (run_assign (.tmp rfl)) ?_
        refine lnil ?_
        refine xw_begin rfl ?_
        refine cw_block ?_
        refine cw_seq ?_
        refine cw_region ?_
        refine lstepB rfl rfl rfl (run_load1 (.tmp rfl) kd133 (by repeat (first | exact List.Mem.head _ | apply List.Mem.tail)) (by exact rfl)) ?_
        refine lstepB rfl rfl rfl (run_move (.tmp rfl)) ?_
        refine lstepB rfl rfl rfl (run_call1 cb96 (.cons (.tmp rfl) (.cons (.tmp rfl) .nil)) (fun w hS => by have := commonK (voicesL g) ((0 : Nat) : Int) (some ⟨gV, 0, none⟩) cV w (by rw [voicesL_length]; omega) (by rw [voicesL_length]; have := hg.len; omega) hg.voices (by omega) (voicesAt_row (hS.mem (by repeat (first | exact List.Mem.head _ | apply List.Mem.tail))) hV2); rw [voicesL_length] at this; exact this)) ?_
        refine lstep rfl rfl rfl (run_alloc zr28) ?_
        intro b8 _
        refine lstep0 rfl rfl (run_storeN (.tmp rfl) (.tmp rfl) rfl sz28 rfl (by repeat (first | exact Upd.here | apply Upd.there)) (by repeat (first | exact Put.done | apply Put.put | apply Put.skip))) ?_
        refine lnil ?_
        refine xw_then ?_
        refine cw_seq ?_
        refine cw_seq ?_
        refine cw_region ?_
        refine lstepB rfl rfl rfl (run_fieldAddr (.tmp rfl) fa28_0 (by first | exact Nat.zero_add _ | exact rfl)) ?_
        refine lstepB rfl rfl rfl (run_load1 (.tmp rfl) kd3 (by repeat (first | exact List.Mem.head _ | apply List.Mem.tail)) (by exact rfl)) ?_
        refine lstepB rfl rfl rfl (run_fieldAddr (.tmp rfl) fa28_1 (by first | exact Nat.zero_add _ | exact rfl)) ?_
        refine lstepB rfl rfl rfl (run_load1 (.tmp rfl) kd3 (by repeat (first | exact List.Mem.head _ | apply List.Mem.tail)) (by exact rfl)) ?_
        refine lstepB rfl rfl rfl (run_gtr (.tmp rfl) (.tmp rfl) rfl) ?_
        refine lnil ?_
        refine xw_then ?_
        refine cw_cond_p (.tmp rfl) (fun hc => ?_) (fun hc => ?_)
        ·
          refine cw_region ?_
          refine lstepB rfl rfl rfl (En.run_makeInterface .const if29) ?_
          refine lpanic (.tmp rfl) (fun w => rfl) ?_
          refine xw_then_panic ?_
          refine xw_in_panic ?_
          refine xw_rpanic (H' := []) (by repeat (first | exact Pick.nil | (apply Pick.cons; focus (repeat (first | exact Del.here | apply Del.there))))) ?_
          refine xw_in_panic ?_
          refine xw_then_panic ?_
          refine xw_panicD (fun w hS => .inr ⟨?_, rfl, (h1.join0 hS).kept⟩)
          rw [Bool.eq_false_iff]
          intro hh
          exact (by simpa using List.all_eq_true.1 hh _ (List.mem_of_getElem? (hardL_at hk)) : ¬ _) hc
        ·
          refine cw_skip ?_
          refine xw_then ?_
          refine cw_region ?_
          refine lstepB rfl rfl rfl (run_load1 (.tmp rfl) kd58 (by repeat (first | exact List.Mem.head _ | apply List.Mem.tail)) (by exact rfl)) ?_
          refine lstepB rfl rfl rfl (run_loadN (.tmp rfl) kd28 sz28 (by repeat (first | exact List.Mem.head _ | apply List.Mem.tail)) (by repeat (first | exact Sub.done | apply Sub.take | apply Sub.skip))) ?_
          refine lstep rfl rfl rfl (LR.runs (lr_buildSlice_at (.cons (.tmp rfl) .nil) (fun w => bs58_1_0 w)) (by repeat (first | exact Pick.nil | (apply Pick.cons; focus (repeat (first | exact Del.here | apply Del.there))))) (by repeat (first | exact Dels.nil | (apply Dels.cons; focus (repeat (first | exact Del.here | apply Del.there)))))) ?_
          intro b44 _
          refine lstep rfl rfl rfl (LR.runs (R := [(b44, _)]) (A := []) (lr_append_nil ap58 (.tmp rfl) (.tmp rfl) (news := [.int .i64 (commonS (voicesL g) ((0 : Nat) : Int)).lo, .int .i64 (commonS (voicesL g) ((0 : Nat) : Int)).hi]) rfl (by omega) (by omega) (by decide) (news_own (by repeat (first | exact List.Mem.head _ | apply List.Mem.tail)))) (by repeat (first | exact Pick.nil | (apply Pick.cons; focus (repeat (first | exact Del.here | apply Del.there))))) (by repeat (first | exact Dels.nil | (apply Dels.cons; focus (repeat (first | exact Del.here | apply Del.there)))))) ?_
          intro ⟨gT, cgT, rgT⟩ hgT
          refine lstep0 rfl rfl (run_store1 (.tmp rfl) (.tmp rfl) rfl sz58 (by repeat (first | exact Upd.here | apply Upd.there)) (by repeat (first | exact Put.done | apply Put.put | apply Put.skip))) ?_
          refine lnil ?_
          refine xw_in ?_
          change InRow _ _ _ _ (spansC ((hardL g).take 0) ++ _) at hgT
          rw [hardL_succ hk] at hgT
          exact xw_rnext (some (0 + 1, gT, cgT, rgT)) ⟨fun j hj => by rcases Nat.lt_succ_iff_lt_or_eq.1 hj with h | rfl; exact hbef j h; exact hc, rfl, by omega, hgT⟩ (by repeat (first | exact Pick.nil | (apply Pick.cons; focus (repeat (first | exact Del.here | apply Del.there)))))
      case some q =>
        obtain ⟨k1, gS, cS, rS⟩ := q
        obtain ⟨hk1, hk2, hS0⟩ := hF
        dsimp only at hk1 hk2 hS0 ⊢
        subst hk1
        refine cw_region ?_
        refine lstepB rfl rfl rfl (run_assign (.tmp rfl)) ?_
        refine lnil ?_
        refine xw_begin rfl ?_
        refine cw_block ?_
        refine cw_seq ?_
        refine cw_region ?_
        refine lstepB rfl rfl rfl (run_load1 (.tmp rfl) kd133 (by repeat (first | exact List.Mem.head _ | apply List.Mem.tail)) (by exact rfl)) ?_
        refine lstepB rfl rfl rfl (run_move (.tmp rfl)) ?_
        refine lstepB rfl rfl rfl (run_call1 cb96 (.cons (.tmp rfl) (.cons (.tmp rfl) .nil)) (fun w hS => by have := commonK (voicesL g) ((k : Nat) : Int) (some ⟨gV, 0, none⟩) cV w (by rw [voicesL_length]; omega) (by rw [voicesL_length]; have := hg.len; omega) hg.voices (by omega) (voicesAt_row (hS.mem (by repeat (first | exact List.Mem.head _ | apply List.Mem.tail))) hV2); rw [voicesL_length] at this; exact this)) ?_
        refine lstep rfl rfl rfl (run_alloc zr28) ?_
        intro b8 _
        refine lstep0 rfl rfl (run_storeN (.tmp rfl) (.tmp rfl) rfl sz28 rfl (by repeat (first | exact Upd.here | apply Upd.there)) (by repeat (first | exact Put.done | apply Put.put | apply Put.skip))) ?_
        refine lnil ?_
        refine xw_then ?_
        refine cw_seq ?_
        refine cw_seq ?_
        refine cw_region ?_
        refine lstepB rfl rfl rfl (run_fieldAddr (.tmp rfl) fa28_0 (by first | exact Nat.zero_add _ | exact rfl)) ?_
        refine lstepB rfl rfl rfl (run_load1 (.tmp rfl) kd3 (by repeat (first | exact List.Mem.head _ | apply List.Mem.tail)) (by exact rfl)) ?_
        refine lstepB rfl rfl rfl (run_fieldAddr (.tmp rfl) fa28_1 (by first | exact Nat.zero_add _ | exact rfl)) ?_
        refine lstepB rfl rfl rfl (run_load1 (.tmp rfl) kd3 (by repeat (first | exact List.Mem.head _ | apply List.Mem.tail)) (by exact rfl)) ?_
        refine lstepB rfl rfl rfl (run_gtr (.tmp rfl) (.tmp rfl) rfl) ?_
        refine lnil ?_
        refine xw_then ?_
        refine cw_cond_p (.tmp rfl) (fun hc => ?_) (fun hc => ?_)
        ·
          refine cw_region ?_
          refine lstepB rfl rfl rfl (En.run_makeInterface .const if29) ?_
          refine lpanic (.tmp rfl) (fun w => rfl) ?_
          refine xw_then_panic ?_
          refine xw_in_panic ?_
          refine xw_rpanic (H' := []) (by repeat (first | exact Pick.nil | (apply Pick.cons; focus (repeat (first | exact Del.here | apply Del.there))))) ?_
          refine xw_in_panic ?_
          refine xw_then_panic ?_
          refine xw_panicD (fun w hS => .inr ⟨?_, rfl, (h1.join0 hS).kept⟩)
          rw [Bool.eq_false_iff]
          intro hh
          exact (by simpa using List.all_eq_true.1 hh _ (List.mem_of_getElem? (hardL_at hk)) : ¬ _) hc
        ·
          refine cw_skip ?_
          refine xw_then ?_
          refine cw_region ?_
          refine lstepB rfl rfl rfl (run_load1 (.tmp rfl) kd58 (by repeat (first | exact List.Mem.head _ | apply List.Mem.tail)) (by exact rfl)) ?_
          refine lstepB rfl rfl rfl (run_loadN (.tmp rfl) kd28 sz28 (by repeat (first | exact List.Mem.head _ | apply List.Mem.tail)) (by repeat (first | exact Sub.done | apply Sub.take | apply Sub.skip))) ?_
          refine lstep rfl rfl rfl (LR.runs (lr_buildSlice_at (.cons (.tmp rfl) .nil) (fun w => bs58_1_0 w)) (by repeat (first | exact Pick.nil | (apply Pick.cons; focus (repeat (first | exact Del.here | apply Del.there))))) (by repeat (first | exact Dels.nil | (apply Dels.cons; focus (repeat (first | exact Del.here | apply Del.there)))))) ?_
          intro b44 _
          refine lstep rfl rfl rfl (LR.runs (R := [(b44, _)]) (A := [(gS, _)]) (lr_append_row ap58 (.tmp rfl) hS0 (.tmp rfl) (news := [.int .i64 (commonS (voicesL g) ((k : Nat) : Int)).lo, .int .i64 (commonS (voicesL g) ((k : Nat) : Int)).hi]) rfl rfl (by omega) (by unfold maxLen; omega) (news_own (by repeat (first | exact List.Mem.head _ | apply List.Mem.tail)))) (by repeat (first | exact Pick.nil | (apply Pick.cons; focus (repeat (first | exact Del.here | apply Del.there))))) (by repeat (first | exact Dels.nil | (apply Dels.cons; focus (repeat (first | exact Del.here | apply Del.there)))))) ?_
          intro ⟨gT, cgT, rgT⟩ hgT
          refine lstep0 rfl rfl (run_store1 (.tmp rfl) (.tmp rfl) rfl sz58 (by repeat (first | exact Upd.here | apply Upd.there)) (by repeat (first | exact Put.done | apply Put.put | apply Put.skip))) ?_
          refine lnil ?_
          refine xw_in ?_
          rw [hardL_succ hk] at hgT
          exact xw_rnext (some (k + 1, gT, cgT, rgT)) ⟨fun j hj => by rcases Nat.lt_succ_iff_lt_or_eq.1 hj with h | rfl; exact hbef j h; exact hc, rfl, by omega, hgT⟩ (by repeat (first | exact Pick.nil | (apply Pick.cons; focus (repeat (first | exact Del.here | apply Del.there)))))
    ·
      intro D s hF
      obtain ⟨hbef, hF⟩ := hF
      rw [alongL_length] at hbef hF
      have hlong := hg.long
      cases s
      case none =>
        dsimp only at hF; omega
      case some q =>
        obtain ⟨k1, gS, cS, rS⟩ := q
        obtain ⟨hk1, hk2, hS0⟩ := hF
        dsimp only at hk1 hk2 hS0 ⊢
        subst hk1
        rw [← hardL_length, List.take_length] at hS0
        refine xw_in ?_
        refine xw_then ?_
        refine cw_seq ?_
        refine cw_region ?_
        refine lstepB rfl rfl rfl (run_load1 (.tmp rfl) kd58 (by repeat (first | exact List.Mem.head _ | apply List.Mem.tail)) (by exact rfl)) ?_
        refine lstepB rfl rfl rfl (run_assign (.tmp rfl)) ?_
        refine lnil ?_
        refine xw_then ?_
        refine cw_ret ?_
        refine xw_pick (H' := [(D, dfr), (gS, _)]) (by repeat (first | exact Pick.nil | (apply Pick.cons; focus (repeat (first | exact Del.here | apply Del.there))))) ?_
        refine xw_retD1 Try.results82 rfl (fun w hS => .inl ⟨?_, (gS, cS, rS), by rw [hardL_length], hS0, h1.join0 hS⟩)
        · simp only [hardOk, List.all_eq_true]
          intro s hs
          obtain ⟨j, hj, rfl⟩ := List.getElem_of_mem hs
          rw [hardL_length] at hj
          have e := hardL_at (g := g) hj
          rw [List.getElem?_eq_getElem (by rw [hardL_length]; exact hj)] at e
          rw [Option.some.inj e]
          simpa using hbef j hj
end Go.Proofs.Ytfmbnobkenngaaa
