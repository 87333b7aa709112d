/- Furrow: numbers that are drawn. -/
import Derived.Test.YtjdeplehhmhpcaaGL
namespace Go.Proofs.Ytjdeplehhmhpcaa
open Go.RowKit En

theorem enterT {P : Program} {fn : Func} {f : FuncId} {c : Code} {l : List Value} {n b : Nat} {o : Obj} {E : Env} {w : World} {R : Ending → World → Prop} (hf : P.funcs[f]? = some fn) (hb : fn.body = some c) (hn : fn.ntmps = n) (hl : Nat.ble l.length n = true) (hE : Fill 0 l E) (ho : w.heap[b]? = some o)
    (k : CW none [] P (bodyPostM (FF P none) 0 P fn R) c n E w (fun k => k = b) [(b, o)]) : CallsF P f l.toArray w R := by
  have hl' : l.length ≤ n := by simpa using hl
  refine (callsIn_of_wp_marks hf hb (show (P.funcs[f]?).isSome = true by rw [hf]; rfl) (k _ w ⟨by simp [hn]; omega, rfl, fun t v ht => ?_⟩ (own_one ho)) rfl)
  obtain ⟨_, h2⟩ := hE.get t v ht
  simp only [Nat.sub_zero] at h2
  have hlt : t < l.length := (List.getElem?_eq_some_iff.1 h2).1
  simp [Array.getD_eq_getD_getElem?, Array.getElem?_append_left (show t < l.toArray.size by simpa using hlt), h2]
theorem tr_one {w w' : World} {b : Nat} {o o' : Obj} {H : Heap} (h : St w (fun k => k = b) H w') (hm : (b, o') ∈ H) : Tr w w' [(b, o)] [(b, o')] :=
  ⟨h.os, h.tape, h.output, h.size, fun k hk hne => h.old k hk (fun e => hne (b, o) (by simp) e.symm), fun x hx => by rw [List.mem_singleton] at hx; subst hx; exact h.mem hm, fun x hx => by rw [List.mem_singleton] at hx; subst hx; exact .inl ⟨(b, o), by simp, rfl⟩, List.pairwise_singleton _ _⟩
/-- What a drawing function reads: numbers below 65536. -/
structure DrawOk (w : World) (b1 dC : Nat) (pb po cap : Nat) (l : List Int) : Prop where
  box : w.cell? ⟨b1, 0, none⟩ = some (.slice (some ⟨pb, po, none⟩) l.length cap)
  row : ∀ i x, l[i]? = some x → (0 ≤ x ∧ x ≤ 65535) ∧ w.cell? ⟨pb, po + i, none⟩ = some (.int .u16 x)
  n1 : b1 ≠ dC
  n2 : pb ≠ dC
  pos : 0 < l.length
  len : (l.length : Int) ≤ 9223372036854775807
abbrev cntO (c : Int) : Obj := Obj.cells [.int .i64 c].toArray 3 (0, 0)
theorem DrawOk.kept {w w' : World} {b1 dC pb po cap : Nat} {l : List Int} {H : Heap} (h : DrawOk w b1 dC pb po cap l) (hS : St w (fun k => k = dC) H w') : DrawOk w' b1 dC pb po cap l :=
  ⟨hS.old_cell h.n1 h.box, fun i x hi => ⟨(h.row i x hi).1, hS.old_cell h.n2 (h.row i x hi).2⟩, h.n1, h.n2, h.pos, h.len⟩
theorem DrawOk.below {w w' : World} {b1 dC pb po cap : Nat} {l : List Int} (h : DrawOk w b1 dC pb po cap l) (hB : Below w.heap.size w w') : DrawOk w' b1 dC pb po cap l :=
  ⟨by rw [cell_kept hB (World.block_lt_of_cell? w _ h.box)]; exact h.box, fun i x hi => ⟨(h.row i x hi).1, by rw [cell_kept hB (World.block_lt_of_cell? w _ (h.row i x hi).2)]; exact (h.row i x hi).2⟩, h.n1, h.n2, h.pos, h.len⟩
theorem idx_nat {c : Int} {m : Nat} (h0 : 0 ≤ c) (hm : 0 < m) : ∃ i : Nat, i < m ∧ c % (m : Int) = (i : Int) := ⟨(c % (m : Int)).toNat, by
  have h1 := Int.emod_nonneg c (show (m : Int) ≠ 0 by omega)
  have h2 := Int.emod_lt_of_pos c (show 0 < (m : Int) by omega)
  omega, by
  have h1 := Int.emod_nonneg c (show (m : Int) ≠ 0 by omega)
  omega⟩
set_option maxRecDepth 100000 in
set_option maxHeartbeats 4000000 in
theorem drawK (n c : Int) (b1 dC pb po cap : Nat) (l : List Int) (w : World) (hn : 1 ≤ n ∧ n ≤ 1000000) (hc : 0 ≤ c ∧ c ≤ 1000000) (hC : w.heap[dC]? = some (cntO c)) (hD : DrawOk w b1 dC pb po cap l) : CallsF Try.prog 72 (([.int .i64 n, .pointer (some ⟨dC, 0, none⟩), .pointer (some ⟨b1, 0, none⟩)] : List Value)).toArray w fun e w' => ∃ r : Int, (0 ≤ r ∧ r < n) ∧ e = .returned (.int .i64 r) ∧ Tr w w' [(dC, cntO c)] [(dC, cntO (c + 1))] := by
  refine enterT (n := 20) (b := dC) (o := cntO c) Try.func72 rfl rfl rfl (by repeat (first | exact Fill.nil | apply Fill.cons)) hC ?_
  refine cw_seq ?_
  refine cw_region ?_
  refine lstepB rfl rfl rfl (run_assign .const) ?_
  refine lnil ?_
  refine xw_then ?_
  refine cw_seq ?_
  refine cw_region ?_
  refine lstepB rfl rfl rfl (run_load1 (.tmp rfl) kd3 (by repeat (first | exact List.Mem.head _ | apply List.Mem.tail)) (by exact rfl)) ?_
  refine lstepB rfl rfl rfl (run_add (.tmp rfl) .const (by first | exact IntWalk.i64_in _ (by omega) | exact rfl)) ?_
  refine lstep0 rfl rfl (run_store1 (.tmp rfl) (.tmp rfl) rfl sz3 (by repeat (first | exact Upd.here | apply Upd.there)) (by repeat (first | exact Put.done | apply Put.put | apply Put.skip))) ?_
  refine lnil ?_
  refine xw_then ?_
  refine cw_seq ?_
  obtain ⟨i, hi, hmod⟩ := idx_nat (c := c + 1) (m := l.length) (by omega) hD.pos
  obtain ⟨x, hx⟩ : ∃ x, l[i]? = some x := ⟨_, List.getElem?_eq_getElem hi⟩
  have hx2 := hD.row i x hx
  have hlen := hD.len
  refine cw_chain2 (σ := [0, 1, 2, 3, 4, 5, 6, 7, 8, 9, 10, 11, 12, 13]) [⟨0, [], [], [], 0⟩, ⟨0, [0], [], [], 0⟩, ⟨0, [], [], [], 0⟩, ⟨0, [], [], [], 4⟩, ⟨0, [], [], [], 14⟩, ⟨0, [], [], [], 31⟩, ⟨0, [], [], [], 63⟩, ⟨0, [], [], [], 127⟩, ⟨0, [0], [], [], 0⟩, ⟨0, [], [], [], 256⟩, ⟨0, [], [], [], 1023⟩, ⟨0, [], [], [], 0⟩, ⟨0, [], [], [], 4095⟩, ⟨0, [], [], [], 8191⟩] [(0, _)] (by kernel_rfl) (by kernel_rfl) rfl ?_
  refine .det (B := []) rfl rfl (.inl rfl) .nil .nil rfl (RunB.lr (run_load1_at (v := .slice (some ⟨pb, po, none⟩) l.length cap) (.tmp rfl) kd45 (fun w' hS => hS.old_cell hD.n1 hD.box))) ?_
  refine .det (B := []) rfl rfl (.inl rfl) (.cons rfl .nil) .nil rfl (RunB.lr (run_load1 (.tmp rfl) kd3 (by repeat (first | exact List.Mem.head _ | apply List.Mem.tail)) (by exact rfl))) ?_
  refine .det (B := []) rfl rfl (.inl rfl) .nil .nil rfl (RunB.lr (run_load1_at (v := .slice (some ⟨pb, po, none⟩) l.length cap) (.tmp rfl) kd45 (fun w' hS => hS.old_cell hD.n1 hD.box))) ?_
  refine .det (B := []) rfl rfl (.inl rfl) .nil .nil rfl (RunB.lr (run_len (.tmp rfl) sl45)) ?_
  refine .det (B := []) rfl rfl (.inl rfl) .nil .nil rfl (RunB.lr (runB_to (run_rem (.tmp rfl) (.tmp rfl) (by omega) (by omega)) (congrArg (Value.int .i64) hmod))) ?_
  refine .det (B := []) rfl rfl (.inl rfl) .nil .nil rfl (RunB.lr (run_indexAddr (i := i) (off' := po + i) (.tmp rfl) (.tmp rfl) el45 hi (by omega))) ?_
  refine .det (B := []) rfl rfl (.inl rfl) .nil .nil rfl (RunB.lr (run_load1_at (v := .int .u16 x) (.tmp rfl) kd102 (fun w' hS => hS.old_cell hD.n2 hx2.2))) ?_
  refine .det (B := []) rfl rfl (.inl rfl) .nil .nil rfl (RunB.lr (run_convert_at (.tmp rfl) (fun w => cv102_3 (by first | exact IntWalk.i64_in _ (by omega) | exact rfl) w))) ?_
  refine .det (B := []) rfl rfl (.inl rfl) (.cons rfl .nil) .nil rfl (RunB.lr (run_load1 (.tmp rfl) kd3 (by repeat (first | exact List.Mem.head _ | apply List.Mem.tail)) (by exact rfl))) ?_
  refine .det (B := []) rfl rfl (.inl rfl) .nil .nil rfl (RunB.lr (run_mul .const (.tmp rfl) (by first | exact IntWalk.i64_in _ (by omega) | exact rfl))) ?_
  refine .det (B := []) rfl rfl (.inl rfl) .nil .nil rfl (RunB.lr (run_add (.tmp rfl) (.tmp rfl) (by first | exact IntWalk.i64_in _ (by omega) | exact rfl))) ?_
  refine .det (B := []) rfl rfl (.inl rfl) .nil .nil rfl (RunB.lr (run_move (.tmp rfl))) ?_
  refine .det (B := []) rfl rfl (.inl rfl) .nil .nil rfl (RunB.lr (run_rem (.tmp rfl) (.tmp rfl) (by omega) (by omega))) ?_
  refine .det (B := []) rfl rfl (.inl rfl) .nil .nil rfl (RunB.lr (run_assign (.tmp rfl))) ?_
  refine chain_nil (ts := [0]) (.cons rfl .nil) (by decide) ?_
  refine xw_then ?_
  refine cw_ret ?_
  refine xw_ret1 Try.results72 rfl (fun w hS => ⟨(x + 23 * (c + 1)) % n, ⟨Int.emod_nonneg _ (by omega), Int.emod_lt_of_pos _ (by omega)⟩, rfl, tr_one hS (by repeat (first | exact List.Mem.head _ | apply List.Mem.tail))⟩)
set_option maxRecDepth 100000 in
set_option maxHeartbeats 4000000 in
theorem drawsK (pa : Option Addr) (m cap : Nat) (w : World) : CallsF Try.prog 31 (([.slice pa m cap] : List Value)).toArray w fun e w' => ∃ q : Nat × Nat, True ∧ e = .returned (.func (.func 72) #[] ([.pointer (some ⟨q.1, 0, none⟩), .pointer (some ⟨q.2, 0, none⟩)] : List Value).toArray) ∧ St w NoT [(q.1, cntO 0), (q.2, Obj.cells [.slice pa m cap].toArray 45 (0, 0))] w' := by
  refine enter (n := 5) Try.func31 rfl rfl rfl (by repeat (first | exact Fill.nil | apply Fill.cons)) ?_
  refine cw_seq ?_
  refine cw_region ?_
  refine lstep rfl rfl rfl (run_box1 (.tmp rfl) rfl) ?_
  intro b1 _
  refine lstepB rfl rfl rfl (run_assign .const) ?_
  refine lnil ?_
  refine xw_then ?_
  refine cw_seq ?_
  refine cw_region ?_
  refine lstep rfl rfl rfl (run_alloc zr3) ?_
  intro b3 _
  refine lstep0 rfl rfl (run_store1 (.tmp rfl) .const rfl sz3 (by repeat (first | exact Upd.here | apply Upd.there)) (by repeat (first | exact Put.done | apply Put.put | apply Put.skip))) ?_
  refine lnil ?_
  refine xw_then ?_
  refine cw_seq ?_
  refine cw_region ?_
  refine lstepB rfl rfl rfl (En.run_makeFunc .nil (.cons (.tmp rfl) (.cons (.tmp rfl) .nil))) ?_
  refine lstepB rfl rfl rfl (run_assign (.tmp rfl)) ?_
  refine lnil ?_
  refine xw_then ?_
  refine cw_ret ?_
  refine xw_ret1 Try.results31 rfl (fun w hS => ⟨(b3, b1), trivial, rfl, hS⟩)
abbrev drawV (dC b1 : Nat) : Value := .func (.func 72) #[] ([.pointer (some ⟨dC, 0, none⟩), .pointer (some ⟨b1, 0, none⟩)] : List Value).toArray
/-- A station as it truly is, and what is told of it. -/
structure TrueD where
  o : Int
  w : Int
  d : Int
  so : SpanD
  sw : SpanD
  sd : SpanD
structure OkT (r : TrueD) : Prop where
  o : -9 ≤ r.o ∧ r.o ≤ 9
  w : 10 ≤ r.w ∧ r.w ≤ 49
  d : 5 ≤ r.d ∧ r.d ≤ 34
  so : r.o - 3 ≤ r.so.lo ∧ r.so.lo ≤ r.o ∧ r.o ≤ r.so.hi ∧ r.so.hi ≤ r.o + 3
  sw : r.w - 4 ≤ r.sw.lo ∧ r.sw.lo ≤ r.w ∧ r.w ≤ r.sw.hi ∧ r.sw.hi ≤ r.w + 4
  sd : r.d - 4 ≤ r.sd.lo ∧ r.sd.lo ≤ r.d ∧ r.d ≤ r.sd.hi ∧ r.sd.hi ≤ r.d + 4
def furT (L : List TrueD) : FurrowD := ⟨L.map (·.so), L.map (·.sw), L.map (·.sd)⟩
def soilT : List TrueD → Int
  | [] => 0
  | r :: L => r.w * r.d + soilT L
theorem soilT_append : ∀ (L : List TrueD) (r : TrueD), soilT (L ++ [r]) = soilT L + r.w * r.d
  | [], r => by simp [soilT]
  | a :: L, r => by
    show a.w * a.d + soilT (L ++ [r]) = a.w * a.d + soilT L + r.w * r.d
    rw [soilT_append L r, Int.add_assoc]
theorem getD_map {α β : Type} [Inhabited α] [Inhabited β] {g : α → β} {L : List α} {k : Nat} {z : β} (h : k < L.length) : (L.map g).getD k z = g (L[k]'h) := by
  rw [List.getD_eq_getElem?_getD, List.getElem?_map, List.getElem?_eq_getElem h]; rfl
instance : Inhabited TrueD := ⟨⟨0, 0, 0, default, default, default⟩⟩
theorem furT_valid {L : List TrueD} (h : ∀ r ∈ L, OkT r) (h8 : L.length ≤ 8) : validB (furT L) = true := by
  simp only [validB, furT, Bool.and_eq_true, Bool.not_eq_true', decide_eq_false_iff_not, List.length_map]
  refine ⟨⟨⟨by omega, by omega⟩, by omega⟩, List.all_eq_true.2 fun k hk => ?_⟩
  have hk := List.mem_range.1 hk
  have hr := h _ (List.getElem_mem hk)
  have h1 := hr.o
  have h2 := hr.w
  have h3 := hr.d
  have h4 := hr.so
  have h5 := hr.sw
  have h6 := hr.sd
  simp only [okN, okSt, getD_map hk, Bool.and_eq_true, Bool.not_eq_true', decide_eq_false_iff_not]
  exact ⟨⟨⟨withinB_of ⟨by omega, by omega, by omega⟩, by omega⟩, withinB_of ⟨by omega, by omega, by omega⟩⟩, withinB_of ⟨by omega, by omega, by omega⟩⟩
theorem furT_inn {L : List TrueD} (h : ∀ r ∈ L, OkT r) : Inn (furT L).offs (L.map (·.o)) := by
  refine ⟨by simp [furT], fun j hj => ?_⟩
  have hj : j < L.length := by simpa [furT] using hj
  have hr := (h _ (List.getElem_mem hj)).so
  simp only [furT, getD_map hj]
  omega
theorem soilT_in {L : List TrueD} (h : ∀ r ∈ L, OkT r) : (soilS (furT L)).lo ≤ soilT L ∧ soilT L ≤ (soilS (furT L)).hi := by
  have key : ∀ n, n ≤ L.length → (sumN (prodL (furT L)) n).lo ≤ soilT (L.take n) ∧ soilT (L.take n) ≤ (sumN (prodL (furT L)) n).hi := by
    intro n
    induction n with
    | zero => intro _; exact ⟨Int.le_refl _, Int.le_refl _⟩
    | succ n ih =>
      intro hn
      have ih := ih (by omega)
      have hn' : n < L.length := by omega
      have e1 : (prodL (furT L)).getD n default = timesS ((furT L).wids.getD n default) ((furT L).deps.getD n default) := by rw [List.getD_eq_getElem?_getD, prodL, alongL_at (by simpa [furT] using hn')]; rfl
      have hr := h _ (List.getElem_mem hn')
      have h2 := hr.w
      have h3 := hr.d
      have h5 := hr.sw
      have h6 := hr.sd
      have e2 : soilT (L.take (n + 1)) = soilT (L.take n) + (L[n]).w * (L[n]).d := by rw [List.take_succ_eq_append_getElem hn', soilT_append]
      have e3 : (furT L).wids.getD n default = (L[n]).sw := getD_map hn'
      have e4 : (furT L).deps.getD n default = (L[n]).sd := getD_map hn'
      have m1 := mul_sub (a := (L[n]).sw.lo) (b := (L[n]).sd.lo) (by omega) (by omega) h5.2.1 h6.2.1
      have m2 := mul_sub (a := (L[n]).w) (b := (L[n]).d) (by omega) (by omega) h5.2.2.1 h6.2.2.1
      simp only [sumN, e1, e2, e3, e4, timesS]
      omega
  have := key L.length (Nat.le_refl _)
  rw [List.take_length] at this
  unfold soilS
  rw [show (furT L).offs.length = L.length by simp [furT]]
  exact this
theorem soilT_small {L : List TrueD} (h : ∀ r ∈ L, OkT r) : 0 ≤ soilT L ∧ soilT L ≤ 1666 * (L.length : Int) := by
  induction L with
  | nil => simp [soilT]
  | cons a L ih =>
    have ih := ih (fun r hr => h r (List.mem_cons_of_mem _ hr))
    have ha := h a List.mem_cons_self
    have h2 := ha.w
    have h3 := ha.d
    have m1 := mul_sub (a := a.w) (b := a.d) (c := 49) (d := 34) (by omega) (by omega) (by omega) (by omega)
    have m2 := Int.mul_nonneg (a := a.w) (b := a.d) (by omega) (by omega)
    show 0 ≤ a.w * a.d + soilT L ∧ a.w * a.d + soilT L ≤ 1666 * ((L.length + 1 : Nat) : Int)
    omega
end Go.Proofs.Ytjdeplehhmhpcaa
