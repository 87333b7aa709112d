/- Soil: numbers that are drawn. -/
import Derived.Test.YtfmbnobkenngaaaHG
namespace Go.Proofs.Ytfmbnobkenngaaa
open Go.RowKit En

theorem enterT {P : Program} {fn : Func} {f : FuncId} {c : Code} {l : List Value} {n b : Nat} {o : Obj} {E : Env} {w : World} {R : Ending → World → Prop} (hf : P.funcs[f]? = some fn) (hb : fn.body = some c) (hn : fn.ntmps = n) (hl : Nat.ble l.length n = true) (hE : Fill 0 l E) (ho : w.heap[b]? = some o)
    (k : CW none [] P (bodyPostM (FF P none) 0 P fn R) c n E w (fun k => k = b) [(b, o)]) : CallsF P f l.toArray w R := by
  have hl' : l.length ≤ n := by simpa using hl
  refine (callsIn_of_wp_marks hf hb (show (P.funcs[f]?).isSome = true by rw [hf]; rfl) (k _ w ⟨by simp [hn]; omega, rfl, fun t v ht => ?_⟩ (own_one ho)) rfl)
  obtain ⟨_, h2⟩ := hE.get t v ht
  simp only [Nat.sub_zero] at h2
  have hlt : t < l.length := (List.getElem?_eq_some_iff.1 h2).1
  simp [Array.getD_eq_getD_getElem?, Array.getElem?_append_left (show t < l.toArray.size by simpa using hlt), h2]
theorem tr_one {w w' : World} {b : Nat} {o o' : Obj} {H : Heap} (h : St w (fun k => k = b) H w') (hm : (b, o') ∈ H) : Tr w w' [(b, o)] [(b, o')] :=
  ⟨h.os, h.tape, h.output, h.size, fun k hk hne => h.old k hk (fun e => hne (b, o) (by simp) e.symm), fun x hx => by rw [List.mem_singleton] at hx; subst hx; exact h.mem hm, fun x hx => by rw [List.mem_singleton] at hx; subst hx; exact .inl ⟨(b, o), by simp, rfl⟩, List.pairwise_singleton _ _⟩
/-- What a drawing function reads: numbers below 65536. -/
structure DrawOk (w : World) (b1 dC : Nat) (pb po cap : Nat) (l : List Int) : Prop where
  box : w.cell? ⟨b1, 0, none⟩ = some (.slice (some ⟨pb, po, none⟩) l.length cap)
  row : ∀ i x, l[i]? = some x → (0 ≤ x ∧ x ≤ 65535) ∧ w.cell? ⟨pb, po + i, none⟩ = some (.int .u16 x)
  n1 : b1 ≠ dC
  n2 : pb ≠ dC
  pos : 0 < l.length
  len : (l.length : Int) ≤ 9223372036854775807
abbrev cntO (c : Int) : Obj := Obj.cells [.int .i64 c].toArray 3 (0, 0)
theorem DrawOk.kept {w w' : World} {b1 dC pb po cap : Nat} {l : List Int} {H : Heap} (h : DrawOk w b1 dC pb po cap l) (hS : St w (fun k => k = dC) H w') : DrawOk w' b1 dC pb po cap l :=
  ⟨hS.old_cell h.n1 h.box, fun i x hi => ⟨(h.row i x hi).1, hS.old_cell h.n2 (h.row i x hi).2⟩, h.n1, h.n2, h.pos, h.len⟩
theorem DrawOk.below {w w' : World} {b1 dC pb po cap : Nat} {l : List Int} (h : DrawOk w b1 dC pb po cap l) (hB : Below w.heap.size w w') : DrawOk w' b1 dC pb po cap l :=
  ⟨by rw [cell_kept hB (World.block_lt_of_cell? w _ h.box)]; exact h.box, fun i x hi => ⟨(h.row i x hi).1, by rw [cell_kept hB (World.block_lt_of_cell? w _ (h.row i x hi).2)]; exact (h.row i x hi).2⟩, h.n1, h.n2, h.pos, h.len⟩
theorem idx_nat {c : Int} {m : Nat} (h0 : 0 ≤ c) (hm : 0 < m) : ∃ i : Nat, i < m ∧ c % (m : Int) = (i : Int) := ⟨(c % (m : Int)).toNat, by
  have h1 := Int.emod_nonneg c (show (m : Int) ≠ 0 by omega)
  have h2 := Int.emod_lt_of_pos c (show 0 < (m : Int) by omega)
  omega, by
  have h1 := Int.emod_nonneg c (show (m : Int) ≠ 0 by omega)
  omega⟩
set_option maxRecDepth 100000 in
set_option maxHeartbeats 4000000 in
theorem drawK (n c : Int) (b1 dC pb po cap : Nat) (l : List Int) (w : World) (hn : 1 ≤ n ∧ n ≤ 1000000) (hc : 0 ≤ c ∧ c ≤ 1000000) (hC : w.heap[dC]? = some (cntO c)) (hD : DrawOk w b1 dC pb po cap l) : CallsF Try.prog 74 (([.int .i64 n, .pointer (some ⟨dC, 0, none⟩), .pointer (some ⟨b1, 0, none⟩)] : List Value)).toArray w fun e w' => ∃ r : Int, (0 ≤ r ∧ r < n) ∧ e = .returned (.int .i64 r) ∧ Tr w w' [(dC, cntO c)] [(dC, cntO (c + 1))] := by
  refine enterT (n := 20) (b := dC) (o := cntO c) Try.func74 rfl rfl rfl (by repeat (first | exact Fill.nil | apply Fill.cons)) hC ?_
  refine cw_seq ?_
  refine cw_region ?_
  refine lstepB rfl rfl rfl (run_assign .const) ?_
  refine lnil ?_
  refine xw_then ?_
  refine cw_seq ?_
  refine cw_region ?_
  refine lstepB rfl rfl rfl (run_load1 (.tmp rfl) kd3 (by repeat (first | exact List.Mem.head _ | apply List.Mem.tail)) (by exact rfl)) ?_
  refine lstepB rfl rfl rfl (run_add (.tmp rfl) .const (by first | exact IntWalk.i64_in _ (by omega) | exact rfl)) ?_
  refine lstep0 rfl rfl (run_store1 (.tmp rfl) (.tmp rfl) rfl sz3 (by repeat (first | exact Upd.here | apply Upd.there)) (by repeat (first | exact Put.done | apply Put.put | apply Put.skip))) ?_
  refine lnil ?_
  refine xw_then ?_
  refine cw_seq ?_
  obtain ⟨i, hi, hmod⟩ := idx_nat (c := c + 1) (m := l.length) (by omega) hD.pos
  obtain ⟨x, hx⟩ : ∃ x, l[i]? = some x := ⟨_, List.getElem?_eq_getElem hi⟩
  have hx2 := hD.row i x hx
  have hlen := hD.len
  refine cw_chain2 (σ := [0, 1, 2, 3, 4, 5, 6, 7, 8, 9, 10, 11, 12, 13]) [⟨0, [], [], [], 0⟩, ⟨0, [0], [], [], 0⟩, ⟨0, [], [], [], 0⟩, ⟨0, [], [], [], 4⟩, ⟨0, [], [], [], 14⟩, ⟨0, [], [], [], 31⟩, ⟨0, [], [], [], 63⟩, ⟨0, [], [], [], 127⟩, ⟨0, [0], [], [], 0⟩, ⟨0, [], [], [], 256⟩, ⟨0, [], [], [], 1023⟩, ⟨0, [], [], [], 0⟩, ⟨0, [], [], [], 4095⟩, ⟨0, [], [], [], 8191⟩] [(0, _)] (by kernel_rfl) (by kernel_rfl) rfl ?_
  refine .det (B := []) rfl rfl (.inl rfl) .nil .nil rfl (RunB.lr (run_load1_at (v := .slice (some ⟨pb, po, none⟩) l.length cap) (.tmp rfl) kd42 (fun w' hS => hS.old_cell hD.n1 hD.box))) ?_
  refine .det (B := []) rfl rfl (.inl rfl) (.cons rfl .nil) .nil rfl (RunB.lr (run_load1 (.tmp rfl) kd3 (by repeat (first | exact List.Mem.head _ | apply List.Mem.tail)) (by exact rfl))) ?_
  refine .det (B := []) rfl rfl (.inl rfl) .nil .nil rfl (RunB.lr (run_load1_at (v := .slice (some ⟨pb, po, none⟩) l.length cap) (.tmp rfl) kd42 (fun w' hS => hS.old_cell hD.n1 hD.box))) ?_
  refine .det (B := []) rfl rfl (.inl rfl) .nil .nil rfl (RunB.lr (run_len (.tmp rfl) sl42)) ?_
  refine .det (B := []) rfl rfl (.inl rfl) .nil .nil rfl (RunB.lr (runB_to (run_rem (.tmp rfl) (.tmp rfl) (by omega) (by omega)) (congrArg (Value.int .i64) hmod))) ?_
  refine .det (B := []) rfl rfl (.inl rfl) .nil .nil rfl (RunB.lr (run_indexAddr (i := i) (off' := po + i) (.tmp rfl) (.tmp rfl) el42 hi (by omega))) ?_
  refine .det (B := []) rfl rfl (.inl rfl) .nil .nil rfl (RunB.lr (run_load1_at (v := .int .u16 x) (.tmp rfl) kd113 (fun w' hS => hS.old_cell hD.n2 hx2.2))) ?_
  refine .det (B := []) rfl rfl (.inl rfl) .nil .nil rfl (RunB.lr (run_convert_at (.tmp rfl) (fun w => cv113_3 (by first | exact IntWalk.i64_in _ (by omega) | exact rfl) w))) ?_
  refine .det (B := []) rfl rfl (.inl rfl) (.cons rfl .nil) .nil rfl (RunB.lr (run_load1 (.tmp rfl) kd3 (by repeat (first | exact List.Mem.head _ | apply List.Mem.tail)) (by exact rfl))) ?_
  refine .det (B := []) rfl rfl (.inl rfl) .nil .nil rfl (RunB.lr (run_mul .const (.tmp rfl) (by first | exact IntWalk.i64_in _ (by omega) | exact rfl))) ?_
  refine .det (B := []) rfl rfl (.inl rfl) .nil .nil rfl (RunB.lr (run_add (.tmp rfl) (.tmp rfl) (by first | exact IntWalk.i64_in _ (by omega) | exact rfl))) ?_
  refine .det (B := []) rfl rfl (.inl rfl) .nil .nil rfl (RunB.lr (run_move (.tmp rfl))) ?_
  refine .det (B := []) rfl rfl (.inl rfl) .nil .nil rfl (RunB.lr (run_rem (.tmp rfl) (.tmp rfl) (by omega) (by omega))) ?_
  refine .det (B := []) rfl rfl (.inl rfl) .nil .nil rfl (RunB.lr (run_assign (.tmp rfl))) ?_
  refine chain_nil (ts := [0]) (.cons rfl .nil) (by decide) ?_
  refine xw_then ?_
  refine cw_ret ?_
  refine xw_ret1 Try.results74 rfl (fun w hS => ⟨(x + 53 * (c + 1)) % n, ⟨Int.emod_nonneg _ (by omega), Int.emod_lt_of_pos _ (by omega)⟩, rfl, tr_one hS (by repeat (first | exact List.Mem.head _ | apply List.Mem.tail))⟩)
set_option maxRecDepth 100000 in
set_option maxHeartbeats 4000000 in
theorem drawsK (pa : Option Addr) (m cap : Nat) (w : World) : CallsF Try.prog 28 (([.slice pa m cap] : List Value)).toArray w fun e w' => ∃ q : Nat × Nat, True ∧ e = .returned (.func (.func 74) #[] ([.pointer (some ⟨q.1, 0, none⟩), .pointer (some ⟨q.2, 0, none⟩)] : List Value).toArray) ∧ St w NoT [(q.1, cntO 0), (q.2, Obj.cells [.slice pa m cap].toArray 42 (0, 0))] w' := by
  refine enter (n := 5) Try.func28 rfl rfl rfl (by repeat (first | exact Fill.nil | apply Fill.cons)) ?_
  refine cw_seq ?_
  refine cw_region ?_
  refine lstep rfl rfl rfl (run_box1 (.tmp rfl) rfl) ?_
  intro b1 _
  refine lstepB rfl rfl rfl (run_assign .const) ?_
  refine lnil ?_
  refine xw_then ?_
  refine cw_seq ?_
  refine cw_region ?_
  refine lstep rfl rfl rfl (run_alloc zr3) ?_
  intro b3 _
  refine lstep0 rfl rfl (run_store1 (.tmp rfl) .const rfl sz3 (by repeat (first | exact Upd.here | apply Upd.there)) (by repeat (first | exact Put.done | apply Put.put | apply Put.skip))) ?_
  refine lnil ?_
  refine xw_then ?_
  refine cw_seq ?_
  refine cw_region ?_
  refine lstepB rfl rfl rfl (En.run_makeFunc .nil (.cons (.tmp rfl) (.cons (.tmp rfl) .nil))) ?_
  refine lstepB rfl rfl rfl (run_assign (.tmp rfl)) ?_
  refine lnil ?_
  refine xw_then ?_
  refine cw_ret ?_
  refine xw_ret1 Try.results28 rfl (fun w hS => ⟨(b3, b1), trivial, rfl, hS⟩)
abbrev drawV (dC b1 : Nat) : Value := .func (.func 74) #[] ([.pointer (some ⟨dC, 0, none⟩), .pointer (some ⟨b1, 0, none⟩)] : List Value).toArray
set_option maxRecDepth 100000 in
set_option maxHeartbeats 4000000 in
theorem aroundK (n wd hi c : Int) (bB b1 dC pb po cap : Nat) (l : List Int) (w : World) (hn : 0 ≤ n ∧ n ≤ hi) (hh : hi ≤ 1000000) (hw : 1 ≤ wd ∧ wd ≤ 1000) (hc : 0 ≤ c ∧ c ≤ 900000) (hC : w.heap[dC]? = some (cntO c)) (hD : DrawOk w b1 dC pb po cap l) (hB0 : bB ≠ dC) (hB : w.cell? ⟨bB, 0, none⟩ = some (drawV dC b1)) : CallsF Try.prog 73 (([.int .i64 n, .int .i64 wd, .int .i64 hi, .pointer (some ⟨bB, 0, none⟩)] : List Value)).toArray w fun e w' => ∃ s : SpanD, (0 ≤ s.lo ∧ s.lo ≤ n ∧ n ≤ s.hi ∧ s.hi ≤ hi) ∧ e = .returned (.agg [.int .i64 s.lo, .int .i64 s.hi].toArray) ∧ Tr w w' [(dC, cntO c)] [(dC, cntO (c + 1 + 1))] := by
  refine enterT (n := 22) (b := dC) (o := cntO c) Try.func73 rfl rfl rfl (by repeat (first | exact Fill.nil | apply Fill.cons)) hC ?_
  refine cw_seq ?_
  refine cw_region ?_
  refine lstep rfl rfl rfl (run_alloc zr28) ?_
  intro b7 _
  refine lnil ?_
  refine xw_then ?_
  refine cw_seq ?_
  refine cw_chain2 (σ := [0, 1, 2, 6, 7, 8, 9, 3, 4, 5, 10, 11, 12, 13, 14]) [⟨0, [], [], [], 0⟩, ⟨0, [], [], [], 0⟩, ⟨0, [], [], [], 0⟩, ⟨1, [], [1], [1], 6⟩, ⟨0, [], [], [], 15⟩, ⟨0, [], [], [], 31⟩, ⟨0, [], [], [], 0⟩, ⟨0, [], [], [], 0⟩, ⟨0, [], [], [], 0⟩, ⟨0, [], [], [], 0⟩, ⟨1, [], [1], [1], 782⟩, ⟨0, [], [], [], 1934⟩, ⟨0, [], [], [], 4046⟩, ⟨0, [], [], [], 8191⟩, ⟨0, [], [0], [0], 16383⟩] [(0, _), (1, _)] (by kernel_rfl) (by kernel_rfl) rfl ?_
  refine .det (B := []) rfl rfl (.inl rfl) .nil .nil rfl (RunB.lr (run_move (.tmp rfl))) ?_
  refine .det (B := []) rfl rfl (.inl rfl) .nil .nil rfl (RunB.lr (run_load1_at (v := drawV dC b1) (.tmp rfl) kd47 (fun w' hS => hS.old_cell hB0 hB))) ?_
  refine .det (B := []) rfl rfl (.inl rfl) .nil .nil rfl (RunB.lr (run_move (.tmp rfl))) ?_
  refine .det (B := []) rfl rfl (.inl rfl) .nil .nil rfl (RunB.lr (run_move (.tmp rfl))) ?_
  refine .det (B := []) rfl rfl (.inl rfl) .nil .nil rfl (RunB.lr (run_move (.tmp rfl))) ?_
  refine .det (B := []) rfl rfl (.inl rfl) .nil .nil rfl (RunB.lr (run_load1_at (v := drawV dC b1) (.tmp rfl) kd47 (fun w' hS => hS.old_cell hB0 hB))) ?_
  refine .det (B := []) rfl rfl (.inl rfl) .nil .nil rfl (RunB.lr (run_move (.tmp rfl))) ?_
  refine .ext (B := fun _ => [(1, (dC, cntO (c + 1)))]) rfl rfl (.inl rfl) .nil (.cons rfl .nil) (fun _ => rfl) ⟨0, by omega, by omega⟩ (lr_callv (F := fun r : Int => 0 ≤ r ∧ r < wd) (r := fun r => .int .i64 r) (A := [(dC, cntO (c))]) (B := fun _ => [(dC, cntO (c + 1))]) cb74 (.tmp rfl) (.cons (.tmp rfl) .nil) rfl (fun w2 hS hA => drawK wd (c) b1 dC pb po cap l w2 (by omega) (by omega) (hA (dC, cntO (c)) (by simp)) (hD.kept hS))) ?_
  rintro r ⟨r0, r1⟩
  refine .det (B := []) rfl rfl (.inl rfl) .nil .nil rfl (RunB.lr (run_sub (.tmp rfl) (.tmp rfl) (by first | exact IntWalk.i64_in _ (by omega) | exact rfl))) ?_
  refine .det (B := []) rfl rfl (.inl rfl) .nil .nil rfl (RunB.lr (run_max2 .const (.tmp rfl))) ?_
  refine .ext (B := fun _ => [(1, (dC, cntO ((c + 1) + 1)))]) rfl rfl (.inl rfl) .nil (.cons rfl .nil) (fun _ => rfl) ⟨0, by omega, by omega⟩ (lr_callv (F := fun r : Int => 0 ≤ r ∧ r < wd) (r := fun r => .int .i64 r) (A := [(dC, cntO ((c + 1)))]) (B := fun _ => [(dC, cntO ((c + 1) + 1))]) cb74 (.tmp rfl) (.cons (.tmp rfl) .nil) rfl (fun w2 hS hA => drawK wd ((c + 1)) b1 dC pb po cap l w2 (by omega) (by omega) (hA (dC, cntO ((c + 1))) (by simp)) (hD.kept hS))) ?_
  rintro s ⟨s0, s1⟩
  refine .det (B := []) rfl rfl (.inl rfl) .nil .nil rfl (RunB.lr (run_add (.tmp rfl) (.tmp rfl) (by first | exact IntWalk.i64_in _ (by omega) | exact rfl))) ?_
  refine .det (B := []) rfl rfl (.inl rfl) .nil .nil rfl (RunB.lr (run_min2 (.tmp rfl) (.tmp rfl))) ?_
  refine .det (B := []) rfl rfl (.inl rfl) .nil .nil rfl (RunB.lr (run_call1 cb31 (.cons (.tmp rfl) (.cons (.tmp rfl) .nil)) (fun w _ => spanLK _ _ w))) ?_
  refine .det (B := [(0, (_, _))]) rfl rfl (.inl rfl) .nil (.cons rfl .nil) rfl (lr_storeN (.tmp rfl) (.tmp rfl) rfl sz28 rfl (by repeat (first | exact Put.done | apply Put.put | apply Put.skip))) ?_
  refine chain_nil (ts := [0, 1]) (.cons rfl (.cons rfl .nil)) (by decide) ?_
  refine xw_then ?_
  refine cw_ret ?_
  refine xw_retC1 rfl rfl kd28 sz28 (by repeat (first | exact List.Mem.head _ | apply List.Mem.tail)) (by repeat (first | exact Sub.done | apply Sub.take | apply Sub.skip)) (fun w hS => ⟨⟨max 0 (n - r), min hi (n + s)⟩, ⟨by simp only; omega, by simp only; omega, by simp only; omega, by simp only; omega⟩, rfl, tr_one hS (by repeat (first | exact List.Mem.head _ | apply List.Mem.tail))⟩)
end Go.Proofs.Ytfmbnobkenngaaa
