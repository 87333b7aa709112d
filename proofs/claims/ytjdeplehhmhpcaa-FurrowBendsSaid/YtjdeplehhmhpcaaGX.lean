/- Furrow: the document's own list of ways: what it holds, and its rows in memory. -/
import Derived.Test.YtjdeplehhmhpcaaGV
import Derived.Test.YtjdeplehhmhpcaaGN
namespace Go.Proofs.Ytjdeplehhmhpcaa
open Go.RowKit En

/-- All courses that go on from some offsets, in order. -/
def allF (L : List SpanD) : Nat → List Int → List (List Int)
  | 0, t => [t]
  | d + 1, t => (upL (L.getD t.length default).lo (L.getD t.length default).hi).flatMap fun o => allF L d (t ++ [o])
def partF (L : List SpanD) (d : Nat) (t : List Int) (lo hi : Int) (j : Nat) : List (List Int) := ((upL lo hi).take j).flatMap fun o => allF L d (t ++ [o])
theorem partF_zero (L : List SpanD) (d : Nat) (t : List Int) (lo hi : Int) : partF L d t lo hi 0 = [] := rfl
theorem partF_succ {L : List SpanD} {d : Nat} {t : List Int} {lo hi : Int} {j : Nat} (h : j < (hi - lo + 1).toNat) : partF L d t lo hi (j + 1) = partF L d t lo hi j ++ allF L d (t ++ [lo + (j : Int)]) := by
  unfold partF
  rw [List.take_add_one, upL_at h, List.flatMap_append]
  simp
theorem partF_all {L : List SpanD} {d : Nat} {t : List Int} : partF L d t (L.getD t.length default).lo (L.getD t.length default).hi ((L.getD t.length default).hi - (L.getD t.length default).lo + 1).toNat = allF L (d + 1) t := by
  unfold partF
  rw [List.take_of_length_le (by rw [upL_length]; exact Nat.le_refl _)]
  rfl
theorem partF_le {L : List SpanD} {d : Nat} {t : List Int} {lo hi : Int} {i j : Nat} (h : i ≤ j) : (partF L d t lo hi i).length ≤ (partF L d t lo hi j).length := by
  unfold partF
  have e : (upL lo hi).take j = (upL lo hi).take i ++ ((upL lo hi).take j).drop i := by
    have h1 := List.take_append_drop i ((upL lo hi).take j)
    rw [List.take_take, Nat.min_eq_left h] at h1
    exact h1.symm
  rw [e, List.flatMap_append, List.length_append]
  omega
theorem mem_allF {L : List SpanD} : ∀ (d : Nat) (t u : List Int), L.length = t.length + d → (∀ j, j < t.length → (L.getD j default).lo ≤ t.getD j 0 ∧ t.getD j 0 ≤ (L.getD j default).hi) → (u ∈ allF L d t ↔ Inn L u ∧ u.take t.length = t)
  | 0, t, u, hl, ht => by
    simp only [allF, List.mem_singleton]
    constructor
    · rintro rfl; exact ⟨⟨by omega, fun j hj => ht j (by omega)⟩, List.take_length⟩
    · rintro ⟨h1, h2⟩; rw [← h2, List.take_of_length_le (by have := h1.1; omega)]
  | d + 1, t, u, hl, ht => by
    simp only [allF, List.mem_flatMap]
    have hlen : ∀ o : Int, (t ++ [o]).length = t.length + 1 := fun o => by simp
    have key : ∀ o : Int, (L.getD t.length default).lo ≤ o ∧ o ≤ (L.getD t.length default).hi → ∀ j, j < (t ++ [o]).length → (L.getD j default).lo ≤ (t ++ [o]).getD j 0 ∧ (t ++ [o]).getD j 0 ≤ (L.getD j default).hi := fun o ho j hj => by
      rw [hlen] at hj
      rcases Nat.lt_or_ge j t.length with h | h
      · rw [List.getD_eq_getElem?_getD (l := t ++ [o]), List.getElem?_append_left h, ← List.getD_eq_getElem?_getD]; exact ht j h
      · obtain rfl : j = t.length := by omega
        rw [List.getD_eq_getElem?_getD (l := t ++ [o]), List.getElem?_append_right (Nat.le_refl _)]
        simpa using ho
    constructor
    · rintro ⟨o, ho, hu⟩
      obtain ⟨h1, h2⟩ := (mem_allF d (t ++ [o]) u (by rw [hlen]; omega) (key o (mem_upL.1 ho))).1 hu
      rw [hlen] at h2
      refine ⟨h1, ?_⟩
      have h3 : (u.take (t.length + 1)).take t.length = u.take t.length := by rw [List.take_take]; congr 1; omega
      rw [← h3, h2, List.take_left']
      rfl
    · rintro ⟨h1, h2⟩
      have hul := h1.1
      have hin := h1.2 t.length (by omega)
      refine ⟨u.getD t.length 0, mem_upL.2 hin, (mem_allF d _ u (by rw [hlen]; omega) (key _ hin)).2 ⟨h1, ?_⟩⟩
      rw [hlen, List.take_add_one, h2, getI_some (show t.length < u.length by omega)]
      rfl
theorem mem_all {L : List SpanD} {u : List Int} : u ∈ allF L L.length [] ↔ Inn L u := by
  rw [mem_allF L.length [] u (by simp) (fun j hj => absurd hj (Nat.not_lt_zero j))]
  exact ⟨fun h => h.1, fun h => ⟨h, rfl⟩⟩
theorem leL_append : ∀ (t : List Int) {a b : Int} (x y : List Int), a < b → leL (t ++ a :: x) (t ++ b :: y)
  | [], _, _, _, _, h => .inl h
  | c :: t, _, _, x, y, h => .inr ⟨rfl, leL_append t x y h⟩
theorem allF_order {L : List SpanD} : ∀ (d : Nat) (t : List Int), (allF L d t).Pairwise leL ∧ ∀ u ∈ allF L d t, ∃ x, u = t ++ x
  | 0, t => ⟨List.pairwise_singleton _ _, fun u hu => ⟨[], by rw [List.mem_singleton.1 hu]; simp⟩⟩
  | d + 1, t => by
    constructor
    · show List.Pairwise leL (List.flatMap _ _)
      rw [List.pairwise_flatMap]
      refine ⟨fun o _ => (allF_order d (t ++ [o])).1, ?_⟩
      have hup : (upL (L.getD t.length default).lo (L.getD t.length default).hi).Pairwise (· < ·) := by
        unfold upL
        rw [List.pairwise_map]
        exact List.pairwise_lt_range.imp (fun h => by omega)
      refine hup.imp fun {a b} hab u hu v hv => ?_
      obtain ⟨x, rfl⟩ := (allF_order d (t ++ [a])).2 u hu
      obtain ⟨y, rfl⟩ := (allF_order d (t ++ [b])).2 v hv
      rw [List.append_assoc, List.append_assoc]
      exact leL_append t x y hab
    · intro u hu
      obtain ⟨o, _, ho⟩ := List.mem_flatMap.1 hu
      obtain ⟨x, rfl⟩ := (allF_order d (t ++ [o])).2 u ho
      exact ⟨o :: x, by simp⟩
theorem allF_len {L : List SpanD} (hw : ∀ s ∈ L, s.hi - s.lo ≤ 3) : ∀ (d : Nat) (t : List Int), t.length + d = L.length → (allF L d t).length ≤ 4 ^ d
  | 0, t, _ => Nat.le_refl _
  | d + 1, t, h => by
    show (List.flatMap _ _).length ≤ _
    rw [List.length_flatMap]
    have h1 : ∀ (l : List Int), (l.map fun o => (allF L d (t ++ [o])).length).sum ≤ l.length * 4 ^ d := fun l => by
      induction l with
      | nil => simp
      | cons a l ih =>
        have := allF_len hw d (t ++ [a]) (by simp; omega)
        rw [List.map_cons, List.sum_cons, List.length_cons, Nat.add_mul, Nat.one_mul]
        omega
    have h2 := h1 (upL (L.getD t.length default).lo (L.getD t.length default).hi)
    rw [upL_length] at h2
    have h3 := hw _ (List.mem_of_getElem? (getD_some (l := L) (k := t.length) (by omega)))
    have h4 : ((L.getD t.length default).hi - (L.getD t.length default).lo + 1).toNat ≤ 4 := by omega
    have h5 := Nat.mul_le_mul_right (4 ^ d) h4
    rw [Nat.pow_succ, Nat.mul_comm (4 ^ d)]
    omega
theorem allF_some {L : List SpanD} (hf : FineC L) : ∀ (d : Nat) (t : List Int), t.length + d = L.length → 0 < (allF L d t).length
  | 0, t, _ => Nat.lt_succ_self 0
  | d + 1, t, h => by
    have h3 := hf _ (List.mem_of_getElem? (getD_some (l := L) (k := t.length) (by omega)))
    obtain ⟨o, ho⟩ : ∃ o, o ∈ upL (L.getD t.length default).lo (L.getD t.length default).hi := ⟨(L.getD t.length default).lo, mem_upL.2 (by omega)⟩
    obtain ⟨x, hx⟩ := List.exists_mem_of_length_pos (allF_some hf d (t ++ [o]) (by simp; omega))
    exact List.length_pos_of_mem (List.mem_flatMap.2 ⟨o, ho, hx⟩)
/-! Rows of lists in memory. -/
abbrev OutD := Option (Nat × Nat × List Value)
def outV : OutD → Nat → Value
  | none, _ => .slice none 0 0
  | some g, m => .slice (some ⟨g.1, 0, none⟩) m g.2.1
def TofO : OutD → Nat → Prop
  | none => NoT
  | some g => fun k => k = g.1
def HofO : OutD → Heap
  | none => []
  | some g => [(g.1, Obj.cells g.2.2.toArray 33 (0, 0))]
/-- Where something lies, and that it is not the row's own block. -/
def Sep (w : World) (a : Option Addr) (o : OutD) : Prop := ∀ b off, a = some ⟨b, off, none⟩ → b < w.heap.size ∧ ¬ TofO o b
/-- What was made lies behind lo. -/
def Low (lo : Nat) (a : Option Addr) : Prop := ∀ b off, a = some ⟨b, off, none⟩ → lo ≤ b
def Entry (lo : Nat) (w : World) (o : OutD) (v : Value) (t : List Int) : Prop := ∃ (a : Option Addr) (c : Nat), v = .slice a t.length c ∧ IntsAt w a t ∧ Sep w a o ∧ Low lo a
def Entries (lo : Nat) (w : World) (o : OutD) (es : List Value) (Ls : List (List Int)) : Prop := es.length = Ls.length ∧ ∀ (i : Nat) (t : List Int), Ls[i]? = some t → ∃ v, es[i]? = some v ∧ Entry lo w o v t
def GoodO (lo : Nat) (w : World) (o : OutD) (Ls : List (List Int)) : Prop := match o with
  | none => Ls = []
  | some g => w.heap[g.1]? = some (Obj.cells g.2.2.toArray 33 (0, 0)) ∧ ∃ es, InRow 1 Ls.length g.2.1 g.2.2 es ∧ Entries lo w o es Ls
theorem sep_st {w w2 : World} {a : Option Addr} {o : OutD} {H : Heap} (h : Sep w a o) (hS : St w (TofO o) H w2) : Sep w2 a o := fun b off e => ⟨Nat.lt_of_lt_of_le (h b off e).1 hS.size, (h b off e).2⟩
theorem rows_st {w w2 : World} {a : Option Addr} {o : OutD} {H : Heap} {m : Nat} {L : List (List Value)} (h : RowsAt w a m L) (hs : Sep w a o) (hS : St w (TofO o) H w2) : RowsAt w2 a m L := rowsAt_old h hS fun b off e => (hs b off e).2
theorem entries_st {lo : Nat} {w w2 : World} {o : OutD} {H : Heap} {es : List Value} {Ls : List (List Int)} (h : Entries lo w o es Ls) (hS : St w (TofO o) H w2) : Entries lo w2 o es Ls := ⟨h.1, fun i t hi => by
  obtain ⟨v, hv, a, c, e, h1, h2, h3⟩ := h.2 i t hi
  exact ⟨v, hv, a, c, e, rows_st h1 h2 hS, sep_st h2 hS, h3⟩⟩
theorem good_st {lo : Nat} {w w2 : World} {o : OutD} {R : Heap} {Ls : List (List Int)} (h : GoodO lo w o Ls) (hS : St w (TofO o) R w2) (hH : ∀ x, x ∈ HofO o → x ∈ R) : GoodO lo w2 o Ls := by
  cases o with
  | none => exact h
  | some g =>
    obtain ⟨_, es, h2, h3⟩ := h
    exact ⟨hS.mem (hH _ (List.Mem.head _)), es, h2, entries_st h3 hS⟩
/-- What the list of ways does with the row that it is handed. -/
structure WaysG (lo : Nat) (w w' : World) (o : OutD) (g : Nat × Nat × List Value) (Ls : List (List Int)) : Prop where
  ch : St w (TofO o) [] w'
  good : GoodO lo w' (some g) Ls
  new : TofO o g.1 ∨ w.heap.size ≤ g.1
theorem WaysG.sep {lo : Nat} {w w' : World} {o : OutD} {g : Nat × Nat × List Value} {Ls : List (List Int)} {a : Option Addr} (h : WaysG lo w w' o g Ls) (hs : Sep w a o) : Sep w' a (some g) := fun b off e => by
  obtain ⟨h1, h2⟩ := hs b off e
  refine ⟨Nat.lt_of_lt_of_le h1 h.ch.size, fun (e2 : b = g.1) => ?_⟩
  rcases h.new with h3 | h3
  · rw [e2] at h2; exact h2 h3
  · omega
theorem st_weak {w w' : World} {T : Nat → Prop} {H : Heap} (h : St w T H w') : St w T [] w' := ⟨h.os, h.tape, h.output, h.size, h.old, fun _ hx => (List.not_mem_nil hx).elim, .nil⟩
/-- From the call's own world to the one of a later round. -/
structure ChainO (w wj : World) (o oj : OutD) : Prop where
  st : St w (TofO o) [] wj
  new : ∀ b, TofO oj b → TofO o b ∨ w.heap.size ≤ b
theorem ChainO.step {w wj w2 : World} {o oj : OutD} {H : Heap} (h : ChainO w wj o oj) (hS : St wj (TofO oj) H w2) : ChainO w w2 o oj :=
  ⟨⟨hS.os.trans h.st.os, hS.tape.trans h.st.tape, hS.output.trans h.st.output, Nat.le_trans h.st.size hS.size, fun b hb hT => by
    rw [hS.old b (Nat.lt_of_lt_of_le hb h.st.size) (fun hj => (h.new b hj).elim hT (fun h2 => by omega)), h.st.old b hb hT], fun _ hx => (List.not_mem_nil hx).elim, .nil⟩, h.new⟩
theorem ChainO.call {lo : Nat} {w w2 w' : World} {o oj : OutD} {g : Nat × Nat × List Value} {Ls : List (List Int)} (h : ChainO w w2 o oj) (hg : WaysG lo w2 w' oj g Ls) : ChainO w w' o (some g) :=
  ⟨(h.step hg.ch).st, fun b (e : b = g.1) => by
    rcases hg.new with h2 | h2
    · rw [e]; exact h.new _ h2
    · right; have := h.st.size; omega⟩
theorem st_own {lo : Nat} {w : World} {o : OutD} {Ls : List (List Int)} (h : GoodO lo w o Ls) : St w (TofO o) (HofO o) w := by
  cases o with
  | none => exact ⟨rfl, rfl, rfl, Nat.le_refl _, fun _ _ _ => rfl, fun _ hx => (List.not_mem_nil hx).elim, .nil⟩
  | some g => exact own_one h.1
section
variable {r : Option Nat} {ds : List Deferred} {P : Program} {ops : Array Oper} {Q : Exit → Act → World → Prop} {n : Nat} {E : Env} {w0 : World} {T : Nat → Prop} {H : Heap} {l : List Oper}
/-- A call that may change blocks, behind which a new base world begins. -/
theorem lcallW {dd : Nat} {f : FuncId} {xs : List Operand} {vs : List Value} {ts : Array TypeId} {ty : TypeId} {pos : String} {af : Array Edge} {X : Type} {G : X → World → World → Prop} {rv : X → Value}
    (hn : Nat.blt dd n = true) (hc : callB P f = true) (ha : Evs E xs vs) (h : ∀ w, St w0 T H w → CallsF P f vs.toArray w fun e w' => ∃ s, G s w w' ∧ e = .returned (rv s))
    (T1 : X → Nat → Prop) (H1 : X → Heap) (k0 : ∀ s w w1, St w0 T H w → G s w w1 → St w1 (T1 s) (H1 s) w1)
    (k1 : ∀ s w w1, St w0 T H w → G s w w1 → LW r ds P ops Q l n ((dd, rv s) :: E) w1 (T1 s) (H1 s)) :
    LW r ds P ops Q (⟨some dd, .call ⟨.value (.func f), xs.toArray, ts⟩, ty, pos, af, none⟩ :: l) n E w0 T H := fun a w hF hS => by
  have e1 := evs_map (ρ := a.eval) ha (fun x u _ hx => hF.ev hx)
  have e2 : a.eval (.func f) = .func (.func f) #[] #[] := rfl
  refine wpListIn_plain rfl fun K hK => ⟨call_about hc e2, ?_⟩
  rw [show (FF P r).round = r from rfl, Oper.semAt_eq r _ _ (by intro c; simp), done_call hc e2 e1]
  refine ⟨fun hh => by simp [FF] at hh, ?_⟩
  refine (CallsIn.mono (h w hS) ?_ : CallsIn (FF P none) (0 - 1) P f vs.toArray w _)
  rintro e w' ⟨s, h1, rfl⟩
  exact hK _ _ (k1 s w w' hS h1 _ _ (hF.put hn _) (k0 s w w' hS h1))
end
end Go.Proofs.Ytjdeplehhmhpcaa
