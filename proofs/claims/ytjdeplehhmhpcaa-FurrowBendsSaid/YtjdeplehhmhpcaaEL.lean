/- Walks by what is known: what operations do that make memory, turn it, or give what is not known. Laws over any program. -/
import Derived.Test.YtjdeplehhmhpcaaEC
import Derived.OrdersIn
import Derived.Laws.AppendOwn
namespace Go.Proofs.Ytjdeplehhmhpcaa.En
open Go.RowKit

def slotOf (l : List Oper) (i : Nat) : Option Tmp := (l[i]?).bind (·.dst)
/-- Does operation i wait for operation j? -/
def waits (l : List Oper) (i j : Nat) : Bool := match l[i]? with | some o => o.after.toList.any fun e => Region.binds .any e && e.on == j | none => false
def operTmps (o : Oper) : List Tmp := o.op.operands.toList.filterMap fun x => match x with | .tmp t => some t | _ => none
/-- What a region has to be: no slot twice; each operation waits for earlier ones alone; whatever it looks at was there before the region, or comes of one that it waits for; a guard is of one that it waits for. -/
def fineB (l : List Oper) (n : Nat) : Bool :=
  (List.range l.length).all fun i =>
    (match slotOf l i with | some t => decide (t < n) | none => true) &&
    (List.range l.length).all (fun j => (decide (i = j) || match slotOf l i with | some t => decide (slotOf l j ≠ some t) | none => true)) &&
    (match l[i]? with
     | some o => (o.after.toList.all fun e => !Region.binds .any e || decide (e.on < i)) && (operTmps o).all (fun t => (List.range l.length).all fun j => decide (slotOf l j ≠ some t) || (waits l i j || waits l j i)) &&
       (match o.guard with | some (g, _) => waits l i g && (slotOf l g).isSome | none => true)
     | none => true)
section
variable {P : Program} {l : List Oper} {a0 : Act} {n : Nat}
theorem fine_at (h : fineB l n = true) {i : Nat} {o : Oper} (hi : l[i]? = some o) : (∀ t, o.dst = some t → t < n) ∧ (∀ j, j < l.length → i ≠ j → ∀ t, o.dst = some t → slotOf l j ≠ some t) ∧ (∀ e ∈ o.after.toList, Region.binds .any e = true → e.on < i) ∧
    (∀ t ∈ operTmps o, ∀ j, j < l.length → slotOf l j = some t → waits l i j = true ∨ waits l j i = true) ∧ ∀ g b, o.guard = some (g, b) → waits l i g = true ∧ ∃ t, slotOf l g = some t := by
  have hlt : i < l.length := (List.getElem?_eq_some_iff.1 hi).1
  simp only [fineB, List.all_eq_true, List.mem_range, Bool.and_eq_true] at h
  obtain ⟨⟨h1, h2⟩, h3⟩ := h i hlt
  have hs : slotOf l i = o.dst := by simp [slotOf, hi]
  rw [hs] at h1
  rw [hi] at h3
  simp only [Bool.and_eq_true, List.all_eq_true, List.mem_range] at h3
  obtain ⟨⟨h4, h5⟩, h6⟩ := h3
  refine ⟨fun t ht => by rw [ht] at h1; simpa using h1, fun j hj hij t ht => ?_, fun e he hb => ?_, fun t ht j hj hjt => ?_, fun g b hg => ?_⟩
  · have := h2 j hj
    rw [hs, ht] at this
    simpa [hij] using this
  · have := h4 e he
    simpa [hb] using this
  · have := h5 t ht j hj
    simpa [hjt] using this
  · rw [hg] at h6
    simp only [Bool.and_eq_true, Option.isSome_iff_exists] at h6
    exact h6

theorem mem_ready {ops : Array Oper} {listed : Array Bool} {i : Nat} (h : i ∈ Region.ready .any ops listed) : i < ops.size ∧ listed.getD i true = false ∧ ∀ o, ops[i]? = some o → ∀ e ∈ o.after, Region.binds .any e = true → listed.getD e.on false = true := by
  simp only [Region.ready, List.mem_filter, List.mem_range, Bool.and_eq_true, Bool.not_eq_true'] at h
  obtain ⟨h1, h2, h3⟩ := h
  refine ⟨h1, h2, fun o ho e he hb => ?_⟩
  rw [ho] at h3
  simp only [Option.map_some, Option.getD_some] at h3
  rw [Array.all_eq_true_iff_forall_mem] at h3
  have := h3 e he
  simpa [hb] using this
theorem ready_nil {listed : Array Bool} (hp : fineB l n = true) (hs : listed.size = l.length) (h : Region.ready .any l.toArray listed = []) : ∀ i, i < l.length → listed.getD i false = true := by
  intro i
  induction i using Nat.strongRecOn with
  | _ i ih =>
    intro hi
    cases hb : listed.getD i false with
    | true => rfl
    | false =>
      exfalso
      have hmem : i ∈ Region.ready .any l.toArray listed := by
        simp only [Region.ready, List.mem_filter, List.mem_range, Bool.and_eq_true, Bool.not_eq_true']
        have hlt : i < listed.size := by omega
        refine ⟨by simpa using hi, by simpa [Array.getD, hlt] using hb, ?_⟩
        rw [List.getElem?_toArray, List.getElem?_eq_getElem hi]
        simp only [Option.map_some, Option.getD_some]
        rw [Array.all_eq_true_iff_forall_mem]
        intro e he
        cases hbe : Region.binds .any e with
        | false => rfl
        | true =>
          have hlt2 := (fine_at hp (List.getElem?_eq_getElem hi)).2.2.1 e (by simpa using he) hbe
          simpa using ih e.on hlt2 (by omega)
      rw [h] at hmem
      cases hmem
theorem wait_listed {listed : Array Bool} {i j : Nat} (h : i ∈ Region.ready .any l.toArray listed) (hw : waits l i j = true) : listed.getD j false = true := by
  obtain ⟨h1, h2, h3⟩ := mem_ready h
  unfold waits at hw
  split at hw
  · rename_i o ho
    obtain ⟨e, he, hb⟩ := List.any_eq_true.1 hw
    simp only [Bool.and_eq_true, beq_iff_eq] at hb
    have := h3 o (by simpa using ho) e (by simpa using he) hb.1
    rw [hb.2] at this
    exact this
  · cases hw
theorem getD_set (listed : Array Bool) (i j : Nat) (hi : i < listed.size) : (listed.setIfInBounds i true).getD j false = if j = i then true else listed.getD j false := by
  simp only [Array.getD_eq_getD_getElem?]
  by_cases h : j = i
  · subst h; rw [if_pos rfl, Array.getElem?_setIfInBounds_self_of_lt hi]; rfl
  · rw [if_neg h, Array.getElem?_setIfInBounds_ne (fun e => h e.symm)]
theorem count_set : ∀ (l : List Bool) (i : Nat) (h : i < l.length), l[i] = false → ((l.set i true).filter (! ·)).length + 1 = (l.filter (! ·)).length
  | [], i, h, _ => by simp at h
  | b :: r, 0, _, hb => by
    have hb : b = false := hb
    subst hb
    simp [List.filter_cons]
  | b :: r, i + 1, h, hb => by
    have := count_set r i (by simpa using h) (by simpa using hb)
    cases b <;> simp [List.filter_cons] at this ⊢ <;> omega
end

section
variable {l : List Oper} {n : Nat}
theorem slot_lt {j t : Nat} (h : slotOf l j = some t) : j < l.length := by
  cases hj : l[j]? with
  | none => simp [slotOf, hj] at h
  | some o => exact (List.getElem?_eq_some_iff.1 hj).1
theorem slot_one (hp : fineB l n = true) {i j t : Nat} (hi : slotOf l i = some t) (hj : slotOf l j = some t) : i = j := by
  by_cases e : i = j
  · exact e
  · have hl := slot_lt hi
    have ho : l[i]? = some l[i] := List.getElem?_eq_getElem hl
    have hd : l[i].dst = some t := by simpa [slotOf, ho] using hi
    exact absurd hj ((fine_at hp ho).2.1 j (slot_lt hj) e t hd)

end
end Go.Proofs.Ytjdeplehhmhpcaa.En
namespace Go.Proofs.Ytjdeplehhmhpcaa.En
open Go.RowKit

/-! Memory by tags: each block that is one's own has a number of its own, whatever its place. -/
abbrev THeap := List (Nat × (Nat × Obj))
def lookT (t : Nat) : THeap → Option (Nat × Obj)
  | [] => none
  | (s, v) :: r => bif Nat.beq t s then some v else lookT t r
theorem lookT_self (d : Nat) (v : Nat × Obj) (H : THeap) : lookT d ((d, v) :: H) = some v := by simp [lookT]
theorem lookT_other {d t : Nat} (h : t ≠ d) (v : Nat × Obj) (H : THeap) : lookT t ((d, v) :: H) = lookT t H := by
  have : Nat.beq t d = false := by
    cases hb : Nat.beq t d with
    | false => rfl
    | true => exact absurd (Nat.eq_of_beq_eq_true hb) h
  simp [lookT, this]
theorem lookT_append {A B : THeap} {t : Nat} : lookT t (A ++ B) = match lookT t A with | some x => some x | none => lookT t B := by
  induction A with
  | nil => rfl
  | cons a r ih =>
    obtain ⟨s, v⟩ := a
    by_cases h : t = s
    · subst h; rw [List.cons_append, lookT_self, lookT_self]
    · rw [List.cons_append, lookT_other h, lookT_other h, ih]
def tagsOf (A : THeap) : List Nat := A.map (·.1)
theorem lookT_none {A : THeap} {t : Nat} (h : t ∉ tagsOf A) : lookT t A = none := by
  induction A with
  | nil => rfl
  | cons a r ih =>
    obtain ⟨s, v⟩ := a
    simp only [tagsOf, List.map_cons, List.mem_cons, not_or] at h
    rw [lookT_other h.1]
    exact ih h.2
theorem lookT_some {A : THeap} {t : Nat} {x : Nat × Obj} (h : lookT t A = some x) : (t, x) ∈ A := by
  induction A with
  | nil => cases h
  | cons a r ih =>
    obtain ⟨s, v⟩ := a
    by_cases e : t = s
    · subst e; rw [lookT_self] at h; cases h; simp
    · rw [lookT_other e] at h; exact List.mem_cons_of_mem _ (ih h)
theorem lookT_mem {A : THeap} {t : Nat} (h : t ∈ tagsOf A) : ∃ x, lookT t A = some x := by
  induction A with
  | nil => cases h
  | cons a r ih =>
    obtain ⟨s, v⟩ := a
    by_cases e : t = s
    · subst e; exact ⟨v, lookT_self _ _ _⟩
    · rw [lookT_other e]
      simp only [tagsOf, List.map_cons, List.mem_cons] at h
      exact ih (h.resolve_left e)
structure StT (w0 : World) (T : Nat → Prop) (H : THeap) (w : World) : Prop where
  base : St w0 T [] w
  own : ∀ t x, lookT t H = some x → w.heap[x.1]? = some x.2 ∧ (w0.heap.size ≤ x.1 ∨ T x.1)
  apart : ∀ s t x y, s ≠ t → lookT s H = some x → lookT t H = some y → x.1 ≠ y.1
inductive Sel (H : THeap) : List Nat → Heap → Prop
  | nil : Sel H [] []
  | cons {t : Nat} {x : Nat × Obj} {ts : List Nat} {xs : Heap} : lookT t H = some x → Sel H ts xs → Sel H (t :: ts) (x :: xs)
theorem Sel.congr {H H2 : THeap} {ts : List Nat} {xs : Heap} (h : Sel H ts xs) (e : ∀ t, t ∈ ts → lookT t H2 = lookT t H) : Sel H2 ts xs := by
  induction h with
  | nil => exact .nil
  | cons h1 _ ih => exact .cons ((e _ (by simp)).trans h1) (ih fun t ht => e t (by simp [ht]))
theorem Sel.mem {H : THeap} {ts : List Nat} {xs : Heap} (h : Sel H ts xs) {x : Nat × Obj} (hx : x ∈ xs) : ∃ t, t ∈ ts ∧ lookT t H = some x := by
  induction h with
  | nil => cases hx
  | cons h1 _ ih =>
    rcases List.mem_cons.1 hx with rfl | hx
    · exact ⟨_, by simp, h1⟩
    · obtain ⟨t, h2, h3⟩ := ih hx
      exact ⟨t, by simp [h2], h3⟩
section
variable {w0 w : World} {T : Nat → Prop} {H : THeap}
theorem StT.sel (h : StT w0 T H w) {ts : List Nat} {xs : Heap} (hs : Sel H ts xs) (hn : ts.Nodup) : St w0 T xs w := by
  refine ⟨h.base.os, h.base.tape, h.base.output, h.base.size, h.base.old, fun x hx => ?_, ?_⟩
  · obtain ⟨t, _, h2⟩ := hs.mem hx
    exact h.own t x h2
  · induction hs with
    | nil => exact .nil
    | @cons t x ts xs h1 h2 ih =>
      rw [List.nodup_cons] at hn
      refine .cons (fun y hy => ?_) (ih hn.2)
      obtain ⟨s, hs1, hs2⟩ := h2.mem hy
      exact h.apart t s x y (fun e => hn.1 (e ▸ hs1)) h1 hs2
/-- Blocks numbered by their places in a list. -/
def tagFrom : Nat → Heap → THeap
  | _, [] => []
  | k, x :: r => (k, x) :: tagFrom (k + 1) r
theorem tagFrom_look : ∀ (H : Heap) (k t : Nat) (x : Nat × Obj), lookT t (tagFrom k H) = some x → k ≤ t ∧ H[t - k]? = some x
  | [], k, t, x, h => by cases h
  | y :: r, k, t, x, h => by
    by_cases e : t = k
    · subst e; rw [tagFrom, lookT_self] at h; cases h; simp
    · rw [tagFrom, lookT_other e] at h
      obtain ⟨h1, h2⟩ := tagFrom_look r (k + 1) t x h
      exact ⟨by omega, by rw [show t - k = (t - (k + 1)) + 1 by omega]; simpa using h2⟩
theorem St.tags {H : Heap} (h : St w0 T H w) : StT w0 T (tagFrom 0 H) w := by
  refine ⟨⟨h.os, h.tape, h.output, h.size, h.old, fun x hx => (List.not_mem_nil hx).elim, .nil⟩, fun t x ht => ?_, fun s t x y hne hs ht => ?_⟩
  · obtain ⟨_, h2⟩ := tagFrom_look H 0 t x ht
    exact h.own x (List.mem_of_getElem? h2)
  · obtain ⟨_, h1⟩ := tagFrom_look H 0 s x hs
    obtain ⟨_, h2⟩ := tagFrom_look H 0 t y ht
    simp only [Nat.sub_zero] at h1 h2
    have hp := List.pairwise_iff_getElem.1 h.apart
    obtain ⟨l1, e1⟩ := List.getElem?_eq_some_iff.1 h1
    obtain ⟨l2, e2⟩ := List.getElem?_eq_some_iff.1 h2
    rcases Nat.lt_or_gt_of_ne hne with hlt | hlt
    · have := hp s t l1 l2 hlt; rw [e1, e2] at this; exact this
    · have := hp t s l2 l1 hlt; rw [e1, e2] at this; exact fun e => this e.symm
end

/-- From one world to another one: some blocks have been turned, some are new. -/
structure Tr (w w' : World) (A B : Heap) : Prop where
  os : w'.os = w.os
  tape : w'.tape = w.tape
  output : w'.output = w.output
  size : w.heap.size ≤ w'.heap.size
  rest : ∀ k, k < w.heap.size → (∀ x, x ∈ A → x.1 ≠ k) → w'.heap[k]? = w.heap[k]?
  now : ∀ x, x ∈ B → w'.heap[x.1]? = some x.2
  new : ∀ x, x ∈ B → (∃ y, y ∈ A ∧ y.1 = x.1) ∨ w.heap.size ≤ x.1
  apart : B.Pairwise fun x y => x.1 ≠ y.1
theorem Tr.kept {w w' : World} (h : Below w.heap.size w w') : Tr w w' [] [] := ⟨h.os, h.tape, h.output, h.size, fun k hk _ => h.block k hk, fun _ h => (List.not_mem_nil h).elim, fun _ h => (List.not_mem_nil h).elim, .nil⟩
/-- What an operation does where it reads some blocks (R), and turns some (A). -/
def LR (P : Program) (E : Env) (w0 : World) (T : Nat → Prop) (R A : Heap) (o : Oper) {X : Type} (F : X → Prop) (v : X → Value) (B : X → Heap) : Prop :=
  ∀ (ρ : Operand → Value) (w : World), (∀ x u, x ∈ o.op.operands → Ev E x u → ρ x = u) → St w0 T [] w → (∀ x, x ∈ R → w.heap[x.1]? = some x.2) → (∀ x, x ∈ A → w.heap[x.1]? = some x.2) → St w0 T R w → A.Pairwise (fun x y => x.1 ≠ y.1) →
    DoneO P o ρ w fun u w' => ∃ x, F x ∧ u = v x ∧ Tr w w' A (B x)
def LR1 (P : Program) (E : Env) (w0 : World) (T : Nat → Prop) (R A : Heap) (o : Oper) (v : Value) (B : Heap) : Prop :=
  ∀ (ρ : Operand → Value) (w : World), (∀ x u, x ∈ o.op.operands → Ev E x u → ρ x = u) → St w0 T [] w → (∀ x, x ∈ R → w.heap[x.1]? = some x.2) → (∀ x, x ∈ A → w.heap[x.1]? = some x.2) → St w0 T R w → A.Pairwise (fun x y => x.1 ≠ y.1) →
    DoneO P o ρ w fun u w' => u = v ∧ Tr w w' A B
theorem RunB.lr {P : Program} {E : Env} {w0 : World} {T : Nat → Prop} {R : Heap} {o : Oper} {v : Value} (h : RunB P E w0 T R o v) : LR1 P E w0 T R [] o v [] := fun ρ w hρ _ _ _ hS _ => (h ρ w hρ hS).mono fun _ _ ⟨h1, h2⟩ => ⟨h1, .kept h2⟩

theorem StT.step {w0 w w' : World} {T : Nat → Prop} {H : THeap} {A : Heap} {ts : List Nat} {B : THeap} (h : StT w0 T H w) (hA : Sel H ts A) (hB : ∀ t, t ∈ ts → t ∈ tagsOf B) (hn : (tagsOf B).Nodup) (k : Tr w w' A (B.map (·.2))) : StT w0 T (B ++ H) w' := by
  have old : ∀ t x, t ∉ tagsOf B → lookT t H = some x → w'.heap[x.1]? = some x.2 := fun t x ht hx => by
    obtain ⟨h1, _⟩ := h.own t x hx
    rw [k.rest x.1 (Array.getElem?_eq_some_iff.1 h1).1 (fun y hy e => ?_)]
    · exact h1
    · obtain ⟨s, hs, hs2⟩ := hA.mem hy
      exact h.apart s t y x (fun e => ht (e ▸ hB s hs)) hs2 hx e
  have inB : ∀ t x, lookT t B = some x → x ∈ B.map (·.2) := fun t x hx => List.mem_map.2 ⟨(t, x), lookT_some hx, rfl⟩
  have far : ∀ s t x y, s ∈ tagsOf B → t ∉ tagsOf B → lookT s B = some x → lookT t H = some y → x.1 ≠ y.1 := fun s t x y _ ht hx hy e => by
    obtain ⟨h1, _⟩ := h.own t y hy
    rcases k.new x (inB s x hx) with ⟨z, hz, e2⟩ | hle
    · obtain ⟨q, hq, hq2⟩ := hA.mem hz
      exact h.apart q t z y (fun e => ht (e ▸ hB q hq)) hq2 hy (e2.trans e)
    · have := (Array.getElem?_eq_some_iff.1 h1).1
      omega
  refine ⟨⟨k.os.trans h.base.os, k.tape.trans h.base.tape, k.output.trans h.base.output, Nat.le_trans h.base.size k.size, fun b hb hT => ?_, fun x hx => (List.not_mem_nil hx).elim, .nil⟩, fun t x ht => ?_, fun s t x y hne hs ht => ?_⟩
  · rw [k.rest b (Nat.lt_of_lt_of_le hb h.base.size) (fun y hy e => ?_)]
    · exact h.base.old b hb hT
    · obtain ⟨s, _, hs2⟩ := hA.mem hy
      rcases (h.own s y hs2).2 with q | q
      · omega
      · exact hT (e ▸ q)
  · rw [lookT_append] at ht
    cases hb : lookT t B with
    | some y =>
      rw [hb] at ht
      cases ht
      refine ⟨k.now x (inB t x hb), ?_⟩
      rcases k.new x (inB t x hb) with ⟨z, hz, e⟩ | hle
      · obtain ⟨s, _, hs2⟩ := hA.mem hz
        rw [← e]; exact (h.own s z hs2).2
      · exact .inl (Nat.le_trans h.base.size hle)
    | none =>
      rw [hb] at ht
      have htn : t ∉ tagsOf B := fun hm => by obtain ⟨q, hq⟩ := lookT_mem hm; rw [hq] at hb; cases hb
      exact ⟨old t x htn ht, (h.own t x ht).2⟩
  · rw [lookT_append] at hs ht
    cases hsb : lookT s B with
    | some x' =>
      rw [hsb] at hs
      cases hs
      have hsm : s ∈ tagsOf B := List.mem_map.2 ⟨_, lookT_some hsb, rfl⟩
      cases htb : lookT t B with
      | some y' =>
        rw [htb] at ht
        cases ht
        have hp : B.Pairwise fun a b => a.2.1 ≠ b.2.1 := (List.pairwise_map (R := fun x y : Nat × Obj => x.1 ≠ y.1) (f := fun x : Nat × (Nat × Obj) => x.2)).1 k.apart
        have key : ∀ {B : THeap}, (B.Pairwise fun a b => a.2.1 ≠ b.2.1) → ∀ {a b : Nat × (Nat × Obj)}, a ∈ B → b ∈ B → a ≠ b → a.2.1 ≠ b.2.1 := by
          intro B hp
          induction hp with
          | nil => intro a b ha; cases ha
          | cons h1 _ ih =>
            intro a b ha hb hab
            rcases List.mem_cons.1 ha with ea | ha2
            · rcases List.mem_cons.1 hb with eb | hb2
              · exact absurd (ea.trans eb.symm) hab
              · rw [ea]; exact h1 b hb2
            · rcases List.mem_cons.1 hb with eb | hb2
              · rw [eb]; exact fun e => h1 a ha2 e.symm
              · exact ih ha2 hb2 hab
        exact key hp (lookT_some hsb) (lookT_some htb) (fun e => hne (congrArg Prod.fst e))
      | none =>
        rw [htb] at ht
        have htn : t ∉ tagsOf B := fun hm => by obtain ⟨q, hq⟩ := lookT_mem hm; rw [hq] at htb; cases htb
        exact far s t x y hsm htn hsb ht
    | none =>
      rw [hsb] at hs
      have hsn : s ∉ tagsOf B := fun hm => by obtain ⟨q, hq⟩ := lookT_mem hm; rw [hq] at hsb; cases hsb
      cases htb : lookT t B with
      | some y' =>
        rw [htb] at ht
        cases ht
        have htm : t ∈ tagsOf B := List.mem_map.2 ⟨_, lookT_some htb, rfl⟩
        exact fun e => far t s y x htm hsn htb hs e.symm
      | none =>
        rw [htb] at ht
        exact h.apart s t x y hne hs ht
end Go.Proofs.Ytjdeplehhmhpcaa.En
namespace Go.Proofs.Ytjdeplehhmhpcaa.En
open Go.RowKit

/-- What is told of a region's operations: a kind (0: gives one thing; 1: gives what is not known; 2: a new variable), the tags that it reads, turns, leaves; and, as bits, all that it waits for, however far. -/
structure Inf where
  kd : Nat
  rd : List Nat
  wr : List Nat
  pt : List Nat
  up : Nat
def infAt (I : List Inf) (i : Nat) : Inf := I.getD i ⟨0, [], [], [], 0⟩
def lookedAt (l : List Oper) (o : Oper) : List Tmp := operTmps o ++ match o.guard with | some (g, _) => (slotOf l g).toList | none => []
def disjB (a b : List Nat) : Bool := a.all fun x => !b.contains x
/-- May i, which comes before j, come behind j if j doesn't wait for it? -/
def pairB (l : List Oper) (I : List Inf) (i j : Nat) : Bool :=
  !waits l i j && ((infAt I j).up.testBit i || (((infAt I i).kd == 0 || (infAt I j).kd == 2) && disjB (infAt I i).pt ((infAt I j).rd ++ (infAt I j).wr ++ (infAt I j).pt) && disjB (infAt I j).pt ((infAt I i).rd ++ (infAt I i).wr)))
def pairsB (l : List Oper) (I : List Inf) : List Nat → Bool
  | [] => true
  | i :: r => r.all (pairB l I i) && pairsB l I r
def upB (l : List Oper) (I : List Inf) : Bool :=
  (List.range l.length).all fun i => (List.range l.length).all fun j => !(infAt I i).up.testBit j || waits l i j || (List.range i).any fun k => waits l i k && (infAt I k).up.testBit j
def okB (l : List Oper) (I : List Inf) (σ : List Nat) (n : Nat) : Bool :=
  fineB l n && upB l I && pairsB l I σ && (decide (σ.length = l.length)) && (List.range l.length).all (fun i => σ.contains i) && σ.all (fun i => decide (i < l.length)) &&
  ((List.range l.length).all fun i => (infAt I i).wr.all fun t => (infAt I i).pt.contains t) &&
  ((List.range l.length).all fun i => decide ((infAt I i).pt.Nodup) && decide ((infAt I i).rd.Nodup) && decide ((infAt I i).wr.Nodup)) && decide σ.Nodup

def dstE (o : Oper) (v : Value) (E : Env) : Env := match o.dst with | some d => (d, v) :: E | none => E
/-- Does a guard say yes, no? -/
def GuardYes (l : List Oper) (E : Env) (o : Oper) : Prop := o.guard = none ∨ ∃ g b t, o.guard = some (g, b) ∧ slotOf l g = some t ∧ look t E = some (.bool b)
def GuardNo (l : List Oper) (E : Env) (o : Oper) : Prop := ∃ g b c t, o.guard = some (g, b) ∧ slotOf l g = some t ∧ look t E = some c ∧ noB c b = true

/-- What slots hold, by what is known. -/
def rhoOf (E : Env) : Operand → Value
  | .tmp t => (look t E).getD undef
  | .const v => v
  | .func f => .func (.func f) #[] #[]
  | _ => undef
theorem rhoOf_ev {E : Env} {x : Operand} {u : Value} (h : Ev E x u) : rhoOf E x = u := by
  cases h with
  | tmp h => simp [rhoOf, h]
  | const => rfl
  | func => rfl
/-- An operation that makes something new, the same whatever there is in memory. -/
def New (P : Program) (E : Env) (o : Oper) (v : Nat → Value) (ob : Obj) : Prop :=
  noFnB o = true ∧ ∀ (ρ : Operand → Value) (w : World), (∀ x u, x ∈ o.op.operands → Ev E x u → ρ x = u) → (execOp ρ o).run P w = .ok (.value (v w.heap.size)) (w.alloc ob)
theorem exec_alloc {P : Program} {o : Oper} {t : TypeId} {z : List Value} (ho : o.op = .alloc t) (hz : zeroB P t = some z) (ρ : Operand → Value) (w : World) : (execOp ρ o).run P w = .ok (.value (.pointer (some ⟨w.heap.size, 0, none⟩))) (w.alloc (Obj.cells z.toArray t (0, 0))) := by
  obtain ⟨zv, h1, h2⟩ := run_zero hz w
  simp only [Value.cells] at h2
  simp [execOp, ho, go_sem, Instr.alloc, h1, newVar, newRow]
  rw [h2]
theorem New.alloc {P : Program} {E : Env} {o : Oper} {t : TypeId} {z : List Value} (ho : o.op = .alloc t) (hz : zeroB P t = some z) : New P E o (fun b => .pointer (some ⟨b, 0, none⟩)) (Obj.cells z.toArray t (0, 0)) := ⟨by simp [noFnB, ho], fun ρ w _ => exec_alloc ho hz ρ w⟩
theorem New.none {P : Program} {E : Env} {o : Oper} {t : TypeId} {ob : Obj} (h1 : o.op = .buildSlice t 0 #[]) (h2 : ∀ w : World, (Instr.buildSlice t 0 #[]).run P w = .ok (.slice (some ⟨w.heap.size, 0, Option.none⟩) 0 0) (w.alloc ob)) : New P E o (fun b => .slice (some ⟨b, 0, Option.none⟩) 0 0) ob := ⟨by simp [noFnB, h1], fun ρ w _ => by
  simp [execOp, h1, h2 w]⟩
theorem New.exec {P : Program} {E : Env} {o : Oper} {v : Nat → Value} {ob : Obj} (h : New P E o v ob) (ρ : Operand → Value) (w : World) (hρ : ∀ x u, x ∈ o.op.operands → Ev E x u → ρ x = u) : (execOp ρ o).run P w = .ok (.value (v w.heap.size)) (w.alloc ob) := h.2 ρ w hρ
theorem New.same {P : Program} {E : Env} {o : Oper} {v v' : Nat → Value} {ob ob' : Obj} (w : World) (h : New P E o v ob) (h' : New P E o v' ob') : v = v' ∧ ob = ob' := by
  have key : ∀ u : World, v u.heap.size = v' u.heap.size ∧ u.alloc ob = u.alloc ob' := fun u => by
    have e := (h.2 (rhoOf E) u (fun x y _ hx => rhoOf_ev hx)).symm.trans (h'.2 (rhoOf E) u (fun x y _ hx => rhoOf_ev hx))
    injection e with e1 e2
    injection e1 with e3
    exact ⟨e3, e2⟩
  constructor
  · funext k
    have hs : ({ w with heap := Array.replicate k ob } : World).heap.size = k := Array.size_replicate
    have := (key { w with heap := Array.replicate k ob }).1
    rw [hs] at this
    exact this
  · have e2 := congrArg (fun u : World => u.heap[w.heap.size]?) (key w).2
    simp only [World.alloc, Array.getElem?_push_size, Option.some.injEq] at e2
    exact e2
/-- What comes of the operations, in an order of one's own. -/
inductive Chain (P : Program) (w0 : World) (T : Nat → Prop) (l : List Oper) (I : List Inf) (K : Env → THeap → Prop) : List Nat → Env → THeap → Prop
  | nil {E : Env} {H : THeap} : K E H → Chain P w0 T l I K [] E H
  | det {i : Nat} {o : Oper} {r : List Nat} {E : Env} {H : THeap} {v : Value} {R A : Heap} {B : THeap} : (infAt I i).kd = 0 → l[i]? = some o → GuardYes l E o → Sel H (infAt I i).rd R → Sel H (infAt I i).wr A → tagsOf B = (infAt I i).pt →
      LR1 P E w0 T R A o v (B.map (·.2)) → Chain P w0 T l I K r (dstE o v E) (B ++ H) → Chain P w0 T l I K (i :: r) E H
  | skip {i : Nat} {o : Oper} {r : List Nat} {E : Env} {H : THeap} : (infAt I i).kd = 0 → l[i]? = some o → GuardNo l E o → (infAt I i).pt = [] → skipB P o = true → Chain P w0 T l I K r (dstE o undef E) H → Chain P w0 T l I K (i :: r) E H
  | ext {i : Nat} {o : Oper} {r : List Nat} {E : Env} {H : THeap} {X : Type} {F : X → Prop} {v : X → Value} {R A : Heap} {B : X → THeap} : (infAt I i).kd = 1 → l[i]? = some o → GuardYes l E o → Sel H (infAt I i).rd R → Sel H (infAt I i).wr A → (∀ x, tagsOf (B x) = (infAt I i).pt) → (∃ x, F x) →
      LR P E w0 T R A o F v (fun x => (B x).map (·.2)) → (∀ x, F x → Chain P w0 T l I K r (dstE o (v x) E) (B x ++ H)) → Chain P w0 T l I K (i :: r) E H
  | flo {i : Nat} {o : Oper} {r : List Nat} {E : Env} {H : THeap} {v : Nat → Value} {s : Nat} {ob : Obj} : (infAt I i).kd = 2 → l[i]? = some o → o.guard = none → New P E o v ob → True → (infAt I i).rd = [] → (infAt I i).wr = [] → (infAt I i).pt = [s] →
      (∀ b : Nat, Chain P w0 T l I K r (dstE o (v b) E) ((s, (b, ob)) :: H)) → Chain P w0 T l I K (i :: r) E H
section
variable {P : Program} {w0 : World} {T : Nat → Prop} {l : List Oper} {I : List Inf} {K : Env → THeap → Prop}
/-- What is known is known by looking. -/
def SameE (E E2 : Env) : Prop := ∀ t, look t E2 = look t E
def SameH (H H2 : THeap) : Prop := ∀ t, lookT t H2 = lookT t H
theorem SameE.dst {E E2 : Env} (h : SameE E E2) (o : Oper) (v : Value) : SameE (dstE o v E) (dstE o v E2) := by
  unfold dstE
  split
  · rename_i d _
    intro t
    by_cases e : t = d
    · subst e; rw [look_self, look_self]
    · rw [look_other e, look_other e]; exact h t
  · exact h
theorem SameH.app {H H2 : THeap} (h : SameH H H2) (B : THeap) : SameH (B ++ H) (B ++ H2) := fun t => by
  rw [lookT_append, lookT_append, h t]
theorem ev_same {E E2 : Env} {x : Operand} {u : Value} (h : Ev E2 x u) (hs : ∀ t, x = .tmp t → look t E2 = look t E) : Ev E x u := by
  cases h with
  | tmp h => exact .tmp ((hs _ rfl).symm.trans h)
  | const => exact .const
  | func => exact .func
theorem LR1.env {E E2 : Env} {R A : Heap} {o : Oper} {v : Value} {B : Heap} (h : LR1 P E w0 T R A o v B) (hs : ∀ t, t ∈ operTmps o → look t E2 = look t E) : LR1 P E2 w0 T R A o v B := fun ρ w hρ => by
  refine h ρ w (fun x u hx hu => hρ x u hx ?_)
  refine ev_same hu (fun t e => ?_)
  subst e
  exact (hs t (List.mem_filterMap.2 ⟨_, by simpa using hx, rfl⟩)).symm
theorem LR.env {E E2 : Env} {R A : Heap} {o : Oper} {X : Type} {F : X → Prop} {v : X → Value} {B : X → Heap} (h : LR P E w0 T R A o F v B) (hs : ∀ t, t ∈ operTmps o → look t E2 = look t E) : LR P E2 w0 T R A o F v B := fun ρ w hρ => by
  refine h ρ w (fun x u hx hu => hρ x u hx ?_)
  refine ev_same hu (fun t e => ?_)
  subst e
  exact (hs t (List.mem_filterMap.2 ⟨_, by simpa using hx, rfl⟩)).symm
theorem New.env {E E2 : Env} {o : Oper} {v : Nat → Value} {ob : Obj} (h : New P E o v ob) (hs : ∀ t, t ∈ operTmps o → look t E2 = look t E) : New P E2 o v ob := ⟨h.1, fun ρ w hρ => by
  refine h.2 ρ w (fun x u hx hu => hρ x u hx ?_)
  refine ev_same hu (fun t e => ?_)
  subst e
  exact (hs t (List.mem_filterMap.2 ⟨_, by simpa using hx, rfl⟩)).symm⟩
theorem GuardYes.env {E E2 : Env} {o : Oper} (h : GuardYes l E o) (hs : ∀ t, t ∈ lookedAt l o → look t E2 = look t E) : GuardYes l E2 o := by
  rcases h with h | ⟨g, b, t, h1, h2, h3⟩
  · exact .inl h
  · refine .inr ⟨g, b, t, h1, h2, (hs t ?_).trans h3⟩
    simp [lookedAt, h1, h2]
theorem GuardNo.env {E E2 : Env} {o : Oper} (h : GuardNo l E o) (hs : ∀ t, t ∈ lookedAt l o → look t E2 = look t E) : GuardNo l E2 o := by
  obtain ⟨g, b, c, t, h1, h2, h3, h4⟩ := h
  refine ⟨g, b, c, t, h1, h2, (hs t ?_).trans h3, h4⟩
  simp [lookedAt, h1, h2]
theorem looked_of {o : Oper} {t : Nat} (h : t ∈ operTmps o) : t ∈ lookedAt l o := List.mem_append_left _ h
theorem Chain.congr (hK : ∀ E E2 H H2, SameE E E2 → SameH H H2 → K E H → K E2 H2) {r : List Nat} {E : Env} {H : THeap} (h : Chain P w0 T l I K r E H) : ∀ {E2 : Env} {H2 : THeap}, SameE E E2 → SameH H H2 → Chain P w0 T l I K r E2 H2 := by
  induction h with
  | nil h => intro E2 H2 e1 e2; exact .nil (hK _ _ _ _ e1 e2 h)
  | det h1 h2 h3 h4 h5 h6 h7 _ ih => intro E2 H2 e1 e2; exact .det h1 h2 (h3.env fun t _ => e1 t) (h4.congr fun t _ => e2 t) (h5.congr fun t _ => e2 t) h6 (h7.env fun t _ => e1 t) (ih (e1.dst _ _) (e2.app _))
  | skip h1 h2 h3 h4 h5 _ ih => intro E2 H2 e1 e2; exact .skip h1 h2 (h3.env fun t _ => e1 t) h4 h5 (ih (e1.dst _ _) e2)
  | ext h1 h2 h3 h4 h5 h6 hne h7 _ ih => intro E2 H2 e1 e2; exact .ext h1 h2 (h3.env fun t _ => e1 t) (h4.congr fun t _ => e2 t) (h5.congr fun t _ => e2 t) h6 hne (h7.env fun t _ => e1 t) (fun x hx => ih x hx (e1.dst _ _) (e2.app _))
  | flo h1 h2 h3 h4 h5 h6 h7 h8 _ ih => intro E2 H2 e1 e2; exact .flo h1 h2 h3 (h4.env fun t _ => e1 t) h5 h6 h7 h8 (fun b => ih b (e1.dst _ _) (SameH.app e2 [_]))
theorem disj_look {a b : List Nat} (h : disjB a b = true) {t : Nat} (ha : t ∈ a) : t ∉ b := by
  have := List.all_eq_true.1 h t ha
  simpa using this
theorem swapE {o p : Oper} {v u : Value} {E : Env} (h : ∀ d, o.dst = some d → p.dst ≠ some d) : SameE (dstE p u (dstE o v E)) (dstE o v (dstE p u E)) := by
  unfold dstE
  cases ho : o.dst with
  | none => intro t; rfl
  | some d =>
    cases hp : p.dst with
    | none => intro t; rfl
    | some q =>
      have hne : d ≠ q := fun e => h d ho (by rw [hp, e])
      intro t
      by_cases e1 : t = d
      · subst e1; simp only; rw [look_self, look_other hne, look_self]
      · by_cases e2 : t = q
        · subst e2; simp only; rw [look_other e1, look_self, look_self]
        · simp only; rw [look_other e1, look_other e2, look_other e2, look_other e1]
theorem swapH {A B : THeap} {H : THeap} (h : ∀ t, t ∈ tagsOf A → t ∉ tagsOf B) : SameH (B ++ (A ++ H)) (A ++ (B ++ H)) := fun t => by
  rw [lookT_append, lookT_append, lookT_append, lookT_append]
  by_cases ha : t ∈ tagsOf A
  · obtain ⟨x, hx⟩ := lookT_mem ha
    rw [hx, lookT_none (h t ha)]
  · rw [lookT_none ha]
theorem look_dst {o : Oper} {v : Value} {E : Env} {t : Nat} (h : o.dst ≠ some t) : look t (dstE o v E) = look t E := by
  unfold dstE
  split
  · rename_i d hd
    exact look_other (fun e => h (by rw [hd, e])) _ _
  · rfl
theorem lookT_skip {B H : THeap} {t : Nat} (h : t ∉ tagsOf B) : lookT t (B ++ H) = lookT t H := by rw [lookT_append, lookT_none h]

/-- j comes ahead of i, for which it doesn't wait. -/
theorem Chain.bubble (hK : ∀ E E2 H H2, SameE E E2 → SameH H H2 → K E H → K E2 H2) {i j : Nat} {r : List Nat} {E : Env} {H : THeap}
    (hd : ∀ o p, l[i]? = some o → l[j]? = some p → (∀ d, o.dst = some d → p.dst ≠ some d) ∧ (∀ t, t ∈ lookedAt l p → o.dst ≠ some t) ∧ (∀ t, t ∈ lookedAt l o → p.dst ≠ some t))
    (hk : (infAt I i).kd = 0 ∨ (infAt I j).kd = 2) (h1 : disjB (infAt I i).pt ((infAt I j).rd ++ (infAt I j).wr ++ (infAt I j).pt) = true) (h2 : disjB (infAt I j).pt ((infAt I i).rd ++ (infAt I i).wr) = true)
    (h : Chain P w0 T l I K (i :: j :: r) E H) : Chain P w0 T l I K (j :: i :: r) E H := by
  have d1 : ∀ t, t ∈ (infAt I j).rd → t ∉ (infAt I i).pt := fun t a b => disj_look h1 b (by simp [a])
  have d2 : ∀ t, t ∈ (infAt I j).wr → t ∉ (infAt I i).pt := fun t a b => disj_look h1 b (by simp [a])
  have d3 : ∀ t, t ∈ (infAt I i).pt → t ∉ (infAt I j).pt := fun t a b => disj_look h1 a (by simp [b])
  have d4 : ∀ t, t ∈ (infAt I i).rd → t ∉ (infAt I j).pt := fun t a b => disj_look h2 b (by simp [a])
  have d5 : ∀ t, t ∈ (infAt I i).wr → t ∉ (infAt I j).pt := fun t a b => disj_look h2 b (by simp [a])
  cases h with
  | @det _ o _ _ _ v R A B a1 a2 a3 a4 a5 a6 a7 c =>
    cases c with
    | @det _ p _ _ _ u R' A' B' b1 b2 b3 b4 b5 b6 b7 c =>
      obtain ⟨q1, q2, q3⟩ := hd o p a2 b2
      refine .det b1 b2 (b3.env fun t ht => (look_dst (q2 t ht)).symm) (b4.congr fun t ht => (lookT_skip (by rw [a6]; exact d1 t ht)).symm) (b5.congr fun t ht => (lookT_skip (by rw [a6]; exact d2 t ht)).symm) b6 (b7.env fun t ht => (look_dst (q2 t (looked_of ht))).symm) ?_
      refine .det a1 a2 (a3.env fun t ht => look_dst (q3 t ht)) (a4.congr fun t ht => lookT_skip (by rw [b6]; exact d4 t ht)) (a5.congr fun t ht => lookT_skip (by rw [b6]; exact d5 t ht)) a6 (a7.env fun t ht => look_dst (q3 t (looked_of ht))) ?_
      exact c.congr hK (swapE q1) (swapH fun t ht => by rw [a6] at ht; rw [b6]; exact d3 t ht)
    | @skip _ p _ _ _ b1 b2 b3 b4 b5 c =>
      obtain ⟨q1, q2, q3⟩ := hd o p a2 b2
      refine .skip b1 b2 (b3.env fun t ht => (look_dst (q2 t ht)).symm) b4 b5 ?_
      refine .det a1 a2 (a3.env fun t ht => look_dst (q3 t ht)) a4 a5 a6 (a7.env fun t ht => look_dst (q3 t (looked_of ht))) ?_
      exact c.congr hK (swapE q1) (fun _ => rfl)
    | @ext _ p _ _ _ X F u R' A' B' b1 b2 b3 b4 b5 b6 bne b7 c =>
      obtain ⟨q1, q2, q3⟩ := hd o p a2 b2
      refine .ext b1 b2 (b3.env fun t ht => (look_dst (q2 t ht)).symm) (b4.congr fun t ht => (lookT_skip (by rw [a6]; exact d1 t ht)).symm) (b5.congr fun t ht => (lookT_skip (by rw [a6]; exact d2 t ht)).symm) b6 bne (b7.env fun t ht => (look_dst (q2 t (looked_of ht))).symm) (fun x hx => ?_)
      refine .det a1 a2 (a3.env fun t ht => look_dst (q3 t ht)) (a4.congr fun t ht => lookT_skip (by rw [b6 x]; exact d4 t ht)) (a5.congr fun t ht => lookT_skip (by rw [b6 x]; exact d5 t ht)) a6 (a7.env fun t ht => look_dst (q3 t (looked_of ht))) ?_
      exact (c x hx).congr hK (swapE q1) (swapH fun t ht => by rw [a6] at ht; rw [b6 x]; exact d3 t ht)
    | @flo _ p _ _ _ t' s z b1 b2 b3 b4 b5 b6 b7 b8 c =>
      obtain ⟨q1, q2, q3⟩ := hd o p a2 b2
      refine .flo b1 b2 b3 (b4.env fun t ht => (look_dst (q2 t (looked_of ht))).symm) b5 b6 b7 b8 (fun b => ?_)
      refine .det a1 a2 (a3.env fun t ht => look_dst (q3 t ht)) (a4.congr fun t ht => lookT_other (fun e => d4 t ht (by rw [b8, e]; simp)) _ _) (a5.congr fun t ht => lookT_other (fun e => d5 t ht (by rw [b8, e]; simp)) _ _) a6 (a7.env fun t ht => look_dst (q3 t (looked_of ht))) ?_
      exact (c b).congr hK (swapE q1) (swapH (B := [_]) fun t ht => by rw [a6] at ht; have := d3 t ht; rw [b8] at this; simpa [tagsOf] using this)
  | @skip _ o _ _ _ a1 a2 a3 a4 a5 c =>
    cases c with
    | @det _ p _ _ _ u R' A' B' b1 b2 b3 b4 b5 b6 b7 c =>
      obtain ⟨q1, q2, q3⟩ := hd o p a2 b2
      refine .det b1 b2 (b3.env fun t ht => (look_dst (q2 t ht)).symm) b4 b5 b6 (b7.env fun t ht => (look_dst (q2 t (looked_of ht))).symm) ?_
      exact .skip a1 a2 (a3.env fun t ht => look_dst (q3 t ht)) a4 a5 (c.congr hK (swapE q1) (fun _ => rfl))
    | @skip _ p _ _ _ b1 b2 b3 b4 b5 c =>
      obtain ⟨q1, q2, q3⟩ := hd o p a2 b2
      refine .skip b1 b2 (b3.env fun t ht => (look_dst (q2 t ht)).symm) b4 b5 ?_
      exact .skip a1 a2 (a3.env fun t ht => look_dst (q3 t ht)) a4 a5 (c.congr hK (swapE q1) (fun _ => rfl))
    | @ext _ p _ _ _ X F u R' A' B' b1 b2 b3 b4 b5 b6 bne b7 c =>
      obtain ⟨q1, q2, q3⟩ := hd o p a2 b2
      refine .ext b1 b2 (b3.env fun t ht => (look_dst (q2 t ht)).symm) b4 b5 b6 bne (b7.env fun t ht => (look_dst (q2 t (looked_of ht))).symm) (fun x hx => ?_)
      exact .skip a1 a2 (a3.env fun t ht => look_dst (q3 t ht)) a4 a5 ((c x hx).congr hK (swapE q1) (fun _ => rfl))
    | @flo _ p _ _ _ t' s z b1 b2 b3 b4 b5 b6 b7 b8 c =>
      obtain ⟨q1, q2, q3⟩ := hd o p a2 b2
      refine .flo b1 b2 b3 (b4.env fun t ht => (look_dst (q2 t (looked_of ht))).symm) b5 b6 b7 b8 (fun b => ?_)
      exact .skip a1 a2 (a3.env fun t ht => look_dst (q3 t ht)) a4 a5 ((c b).congr hK (swapE q1) (fun _ => rfl))
  | @ext _ o _ _ _ X F v R A B a1 a2 a3 a4 a5 a6 ane a7 c =>
    have hj : (infAt I j).kd = 2 := hk.resolve_left (by rw [a1]; decide)
    obtain ⟨x0, hx0⟩ := id ane
    have c0 := c x0 hx0
    cases c0 with
    | det b1 => rw [hj] at b1; cases b1
    | skip b1 => rw [hj] at b1; cases b1
    | ext b1 => rw [hj] at b1; cases b1
    | @flo _ p _ _ _ t' s z b1 b2 b3 b4 b5 b6 b7 b8 _ =>
      obtain ⟨q1, q2, q3⟩ := hd o p a2 b2
      refine .flo b1 b2 b3 (b4.env fun t ht => (look_dst (q2 t (looked_of ht))).symm) b5 b6 b7 b8 (fun b => ?_)
      refine .ext a1 a2 (a3.env fun t ht => look_dst (q3 t ht)) (a4.congr fun t ht => lookT_other (fun e => d4 t ht (by rw [b8, e]; simp)) _ _) (a5.congr fun t ht => lookT_other (fun e => d5 t ht (by rw [b8, e]; simp)) _ _) a6 ane (a7.env fun t ht => look_dst (q3 t (looked_of ht))) (fun x hx => ?_)
      have cx := c x hx
      cases cx with
      | det b1 => rw [hj] at b1; cases b1
      | skip b1 => rw [hj] at b1; cases b1
      | ext b1 => rw [hj] at b1; cases b1
      | @flo _ p2 _ _ _ t2 s2 z2 k1 k2 k3 k4 k5 k6 k7 k8 cc =>
        rw [b2] at k2; cases k2
        obtain ⟨rfl, rfl⟩ := New.same w0 (b4.env fun t ht => (look_dst (q2 t (looked_of ht))).symm) (k4.env fun t ht => (look_dst (q2 t (looked_of ht))).symm)
        rw [b8] at k8; cases k8
        exact (cc b).congr hK (swapE q1) (swapH (B := [_]) fun t ht => by rw [a6 x] at ht; have := d3 t ht; rw [b8] at this; simpa [tagsOf] using this)
  | @flo _ o _ _ _ t0 s0 z0 a1 a2 a3 a4 a5 a6 a7 a8 c =>
    have hj : (infAt I j).kd = 2 := hk.resolve_left (by rw [a1]; decide)
    have c0 := c 0
    cases c0 with
    | det b1 => rw [hj] at b1; cases b1
    | skip b1 => rw [hj] at b1; cases b1
    | ext b1 => rw [hj] at b1; cases b1
    | @flo _ p _ _ _ t' s z b1 b2 b3 b4 b5 b6 b7 b8 _ =>
      obtain ⟨q1, q2, q3⟩ := hd o p a2 b2
      refine .flo b1 b2 b3 (b4.env fun t ht => (look_dst (q2 t (looked_of ht))).symm) b5 b6 b7 b8 (fun b => ?_)
      refine .flo a1 a2 a3 (a4.env fun t ht => look_dst (q3 t (looked_of ht))) a5 a6 a7 a8 (fun b' => ?_)
      have cx := c b'
      cases cx with
      | det b1 => rw [hj] at b1; cases b1
      | skip b1 => rw [hj] at b1; cases b1
      | ext b1 => rw [hj] at b1; cases b1
      | @flo _ p2 _ _ _ t2 s2 z2 k1 k2 k3 k4 k5 k6 k7 k8 cc =>
        rw [b2] at k2; cases k2
        obtain ⟨rfl, rfl⟩ := New.same w0 (b4.env fun t ht => (look_dst (q2 t (looked_of ht))).symm) (k4.env fun t ht => (look_dst (q2 t (looked_of ht))).symm)
        rw [b8] at k8; cases k8
        refine (cc b).congr hK (swapE q1) (swapH (A := [_]) (B := [_]) fun t ht => ?_)
        simp only [tagsOf, List.map_cons, List.map_nil, List.mem_singleton] at ht ⊢
        intro e
        have := d3 s0 (by rw [a8]; simp)
        rw [b8] at this
        exact this (by rw [← e, ht]; simp)
theorem Chain.tail {i : Nat} {r r' : List Nat} {E : Env} {H : THeap} (h : Chain P w0 T l I K (i :: r) E H) (f : ∀ E' H', Chain P w0 T l I K r E' H' → Chain P w0 T l I K r' E' H') : Chain P w0 T l I K (i :: r') E H := by
  cases h with
  | det a1 a2 a3 a4 a5 a6 a7 c => exact .det a1 a2 a3 a4 a5 a6 a7 (f _ _ c)
  | skip a1 a2 a3 a4 a5 c => exact .skip a1 a2 a3 a4 a5 (f _ _ c)
  | ext a1 a2 a3 a4 a5 a6 ane a7 c => exact .ext a1 a2 a3 a4 a5 a6 ane a7 (fun x hx => f _ _ (c x hx))
  | flo a1 a2 a3 a4 a5 a6 a7 a8 c => exact .flo a1 a2 a3 a4 a5 a6 a7 a8 (fun b => f _ _ (c b))
theorem Chain.front {n : Nat} (hK : ∀ E E2 H H2, SameE E E2 → SameH H H2 → K E H → K E2 H2) (hp : fineB l n = true) {j : Nat} : ∀ {r : List Nat}, pairsB l I r = true → r.Nodup → j ∈ r → (∀ i, i ∈ r → i < l.length) → (∀ i, i ∈ r → waits l j i = false) → (∀ i, i ∈ r → (infAt I j).up.testBit i = false) →
    ∀ {E : Env} {H : THeap}, Chain P w0 T l I K r E H → Chain P w0 T l I K (j :: r.erase j) E H
  | i :: r, hpr, hnd, hj, hlt, hw, hup, E, H, h => by
    by_cases e : i = j
    · subst e
      rw [List.erase_cons_head]
      exact h
    · have hjr : j ∈ r := (List.mem_cons.1 hj).resolve_left (fun e2 => e e2.symm)
      simp only [pairsB, Bool.and_eq_true, List.all_eq_true] at hpr
      have hpij := hpr.1 j hjr
      simp only [pairB, Bool.and_eq_true, Bool.or_eq_true, Bool.not_eq_true', beq_iff_eq] at hpij
      obtain ⟨w1, w2⟩ := hpij
      rw [hup i (by simp)] at w2
      have w3 := w2.resolve_left (by simp)
      rw [List.erase_cons_tail (by simpa using e)]
      have step := h.tail (fun E' H' c => Chain.front hK hp hpr.2 (List.nodup_cons.1 hnd).2 hjr (fun k hk => hlt k (by simp [hk])) (fun k hk => hw k (by simp [hk])) (fun k hk => hup k (by simp [hk])) c)
      refine Chain.bubble hK (fun o p ho hp' => ?_) w3.1.1 w3.1.2 w3.2 step
      have f1 := fine_at hp ho
      have f2 := fine_at hp hp'
      have hi : i < l.length := hlt i (by simp)
      have hjl : j < l.length := hlt j hj
      refine ⟨fun d hd => ?_, fun t ht hot => ?_, fun t ht hpt => ?_⟩
      · have := f1.2.1 j hjl e d hd
        simpa [slotOf, hp'] using this
      · have hs : slotOf l i = some t := by simp [slotOf, ho, hot]
        have hwf := hw i (by simp)
        rcases List.mem_append.1 ht with ht | ht
        · rcases f2.2.2.2.1 t ht i hi hs with q | q
          · rw [q] at hwf; cases hwf
          · rw [q] at w1; cases w1
        · cases hg : p.guard with
          | none => rw [hg] at ht; cases ht
          | some gb =>
            obtain ⟨g, b⟩ := gb
            rw [hg] at ht
            simp only [Option.mem_toList] at ht
            obtain ⟨q1, _⟩ := f2.2.2.2.2 g b hg
            have : g = i := slot_one hp ht hs
            subst this
            rw [q1] at hwf; cases hwf
      · have hs : slotOf l j = some t := by simp [slotOf, hp', hpt]
        rcases List.mem_append.1 ht with ht | ht
        · have hwf := hw i (by simp)
          rcases f1.2.2.2.1 t ht j hjl hs with q | q
          · rw [q] at w1; cases w1
          · rw [q] at hwf; cases hwf
        · cases hg : o.guard with
          | none => rw [hg] at ht; cases ht
          | some gb =>
            obtain ⟨g, b⟩ := gb
            rw [hg] at ht
            simp only [Option.mem_toList] at ht
            obtain ⟨q1, _⟩ := f1.2.2.2.2 g b hg
            have : g = j := slot_one hp ht hs
            subst this
            rw [q1] at w1; cases w1
theorem up_listed {listed : Array Bool} (hu : upB l I = true) (hcl : ∀ i j, listed.getD i false = true → waits l i j = true → listed.getD j false = true) : ∀ j, j < l.length → (∀ k, waits l j k = true → listed.getD k false = true) → ∀ i, i < l.length → (infAt I j).up.testBit i = true → listed.getD i false = true := by
  intro j
  induction j using Nat.strongRecOn with
  | _ j ih =>
    intro hj hwj i hi hb
    simp only [upB, List.all_eq_true, List.mem_range] at hu
    have h := hu j hj i hi
    rw [hb] at h
    simp only [Bool.not_true, Bool.false_or, Bool.or_eq_true, List.any_eq_true, List.mem_range, Bool.and_eq_true] at h
    rcases h with h | ⟨k, hk, h1, h2⟩
    · exact hwj i h
    · exact ih k hk (by omega) (fun m hm => hcl k m (hwj k h1) hm) i hi h2
theorem tr_alloc (w : World) (o : Obj) : Tr w (w.alloc o) [] [(w.heap.size, o)] :=
  ⟨rfl, rfl, rfl, by simp, fun k hk _ => Below.heap_alloc _ _ _ hk, fun x hx => by
    rw [List.mem_singleton] at hx; subst hx; exact alloc_new w o, fun x hx => by
    rw [List.mem_singleton] at hx; subst hx; exact .inr (Nat.le_refl _), List.pairwise_singleton _ _⟩
variable {n : Nat} {Q : Exit → Act → World → Prop}
def KQ (ds : List Deferred) (Q : Exit → Act → World → Prop) (n : Nat) (w0 : World) (T : Nat → Prop) (E : Env) (H : THeap) : Prop := ∀ a w, Fr ds n E a → StT w0 T H w → Q .normal a w
theorem KQ.same {ds : List Deferred} (E E2 : Env) (H H2 : THeap) (h1 : SameE E E2) (h2 : SameH H H2) (k : KQ ds Q n w0 T E H) : KQ ds Q n w0 T E2 H2 := fun a w hF hS =>
  k a w ⟨hF.size, hF.defers, fun t v ht => hF.get t v ((h1 t).trans ht)⟩ ⟨hS.base, fun t x ht => hS.own t x ((h2 t).trans ht), fun s t x y hne hs ht => hS.apart s t x y hne ((h2 s).trans hs) ((h2 t).trans ht)⟩
theorem Fr.dst {ds : List Deferred} {E : Env} {a : Act} {o : Oper} (h : Fr ds n E a) (hd : ∀ d, o.dst = some d → d < n) (v : Value) : Fr ds n (dstE o v E) (a.put o.dst v) := by
  unfold dstE
  cases ho : o.dst with
  | none => exact h
  | some d => exact h.put (by simpa using hd d ho) v

theorem cw_chain {rr : Option Nat} {ds : List Deferred} {id : Nat} {E : Env} {H : Heap} {σ : List Nat} (I : List Inf) (hm : P.follows .mixedOrders = true) (hok : okB l I σ n = true) (h : Chain P w0 T l I (KQ ds Q n w0 T) σ E (tagFrom 0 H)) : CW rr ds P Q (.region id l.toArray true) n E w0 T H := fun a1 w1 hF1 hS1 => by
  simp only [okB, Bool.and_eq_true, List.all_eq_true, List.mem_range, decide_eq_true_eq] at hok
  obtain ⟨⟨⟨⟨⟨⟨⟨⟨k1, k2⟩, k3⟩, k4⟩, k5⟩, k6⟩, k7⟩, k8⟩, k9⟩ := hok
  have hK := KQ.same (ds := ds) (Q := Q) (n := n) (w0 := w0) (T := T)
  refine wpIn_region_any hm ?_
  have main : ∀ (fuel : Nat) (listed : Array Bool) (a : Act) (w : World) (r : List Nat) (E : Env) (H : THeap), listed.size = l.length → (listed.toList.filter (! ·)).length ≤ fuel → (∀ i, i < l.length → (listed.getD i false = true ↔ i ∉ r)) → (∀ i, i ∈ r → i < l.length) → pairsB l I r = true → r.Nodup →
      (∀ i j, listed.getD i false = true → waits l i j = true → listed.getD j false = true) → Fr ds n E a → StT w0 T H w → Chain P w0 T l I (KQ ds Q n w0 T) r E H → wpAnyIn (FF P rr) 0 P .any l.toArray Q fuel listed a w := by
    intro fuel
    have done : ∀ (listed : Array Bool) (a : Act) (w : World) (r : List Nat) (E : Env) (H : THeap), listed.size = l.length → (∀ i, i < l.length → (listed.getD i false = true ↔ i ∉ r)) → (∀ i, i ∈ r → i < l.length) → Fr ds n E a → StT w0 T H w → Chain P w0 T l I (KQ ds Q n w0 T) r E H → Region.ready .any l.toArray listed = [] → Q .normal a w := by
      intro listed a w r E H hs hl hr hF hS hc h0
      have hall := ready_nil k1 hs h0
      cases r with
      | nil =>
        cases hc with
        | nil k => exact k a w hF hS
      | cons i r =>
        have hi := hr i (by simp)
        exact absurd (show i ∈ i :: r by simp) ((hl i hi).1 (hall i hi))
    induction fuel with
    | zero =>
      intro listed a w r E H hs hc hl hr hp hnd hcl hF hS hch
      have h0 : Region.ready .any l.toArray listed = [] := by
        rw [List.eq_nil_iff_forall_not_mem]
        intro i hi
        obtain ⟨h1, h2, _⟩ := mem_ready hi
        have hlt : i < listed.size := by rw [hs]; simpa using h1
        have h3 : listed[i] = false := by simpa [Array.getD, hlt] using h2
        have : false ∈ listed.toList.filter (! ·) := by
          rw [List.mem_filter]
          exact ⟨by rw [← h3]; simp, rfl⟩
        have := List.length_pos_of_mem this
        omega
      exact ⟨h0, done listed a w r E H hs hl hr hF hS hch h0⟩
    | succ fuel ih =>
      intro listed a w r E H hs hc hl hr hp hnd hcl hF hS hch
      refine ⟨fun h => done listed a w r E H hs hl hr hF hS hch h, fun j hj => ?_⟩
      obtain ⟨h1, h2, _⟩ := mem_ready hj
      have hjl : j < l.length := by simpa using h1
      have hlt : j < listed.size := by omega
      have h3 : listed[j] = false := by simpa [Array.getD, hlt] using h2
      have h3' : listed.getD j false = false := by simp [Array.getD, hlt, h3]
      have hjr : j ∈ r := Classical.byContradiction fun e => by rw [(hl j hjl).2 e] at h3'; cases h3'
      have hwl : ∀ k, waits l j k = true → listed.getD k false = true := fun k hk => wait_listed hj hk
      have hrl : ∀ i, i ∈ r → listed.getD i false = false := fun i hi => by
        cases hb : listed.getD i false with
        | false => rfl
        | true => exact absurd hi ((hl i (hr i hi)).1 hb)
      have hch2 := hch.front hK k1 hp hnd hjr hr (fun i hi => by
        cases hb : waits l j i with
        | false => rfl
        | true => have := hwl i hb; rw [hrl i hi] at this; cases this) (fun i hi => by
        cases hb : (infAt I j).up.testBit i with
        | false => rfl
        | true => have := up_listed k2 hcl j hjl hwl i (hr i hi) hb; rw [hrl i hi] at this; cases this)
      have ho : l[j]? = some l[j] := List.getElem?_eq_getElem hjl
      have hfd := (fine_at k1 ho).1
      -- what holds behind it
      have next : ∀ (a' : Act) (w' : World) (E' : Env) (H' : THeap), Fr ds n E' a' → StT w0 T H' w' → Chain P w0 T l I (KQ ds Q n w0 T) (r.erase j) E' H' → wpAnyIn (FF P rr) 0 P .any l.toArray Q fuel (listed.setIfInBounds j true) a' w' := by
        intro a' w' E' H' hF' hS' hc'
        refine ih _ _ _ (r.erase j) E' H' (by simp [hs]) ?_ (fun i hi => ?_) (fun i hi => hr i (List.mem_of_mem_erase hi)) ?_ (hnd.erase j) ?_ hF' hS' hc'
        · have := count_set listed.toList j (by simpa using hlt) (by simpa using h3)
          rw [Array.toList_setIfInBounds]
          omega
        · rw [getD_set _ _ _ hlt, hnd.mem_erase_iff]
          by_cases e : i = j
          · simp [e]
          · rw [if_neg e, hl i hi]; simp [e]
        · have sub : ∀ {r r' : List Nat}, r'.Sublist r → pairsB l I r = true → pairsB l I r' = true := by
            intro r r' hs
            induction hs with
            | slnil => exact fun h => h
            | cons x _ ih => intro h; simp only [pairsB, Bool.and_eq_true] at h; exact ih h.2
            | cons_cons x hs2 ih =>
              intro h
              simp only [pairsB, Bool.and_eq_true, List.all_eq_true] at h ⊢
              exact ⟨fun y hy => h.1 y (hs2.subset hy), ih h.2⟩
          exact sub List.erase_sublist hp
        · intro m k hm2 hw
          rw [getD_set _ _ _ hlt] at hm2 ⊢
          by_cases hkj : k = j
          · rw [if_pos hkj]
          · rw [if_neg hkj]
            by_cases hmj : m = j
            · subst hmj; exact hwl k hw
            · rw [if_neg hmj] at hm2
              exact hcl m k hm2 hw
      have hyes : ∀ {E : Env}, Fr ds n E a → GuardYes l E l[j] → Region.wanted l[j] (yielded l.toArray a.tmps) = true := by
        intro E hF hg
        rcases hg with hg | ⟨g, b, t, hg, hgt, hb⟩
        · simp [Region.wanted, hg]
        · have hgl := slot_lt hgt
          have hgo : l[g]? = some l[g] := List.getElem?_eq_getElem hgl
          have htn := (fine_at k1 hgo).1 t (by simpa [slotOf, hgo] using hgt)
          simp [Region.wanted, hg, yielded_of (ops := l.toArray) hF (show (l.toArray[g]?).bind (·.dst) = some t by simpa [slotOf] using hgt) hb (by simpa using htn)]
      have hno : ∀ {E : Env}, Fr ds n E a → GuardNo l E l[j] → Region.wanted l[j] (yielded l.toArray a.tmps) = false := by
        intro E hF hg
        obtain ⟨g, b, c, t, hg, hgt, hb, hcb⟩ := hg
        have hgl := slot_lt hgt
        have hgo : l[g]? = some l[g] := List.getElem?_eq_getElem hgl
        have htn := (fine_at k1 hgo).1 t (by simpa [slotOf, hgo] using hgt)
        simp only [Region.wanted, hg]
        exact not_yielded (ops := l.toArray) hF (show (l.toArray[g]?).bind (·.dst) = some t by simpa [slotOf] using hgt) hb (by simpa using htn) hcb
      have hnd3 := k8 j hjl
      have hwp := k7 j hjl
      unfold wpOpIn
      simp only [List.getElem?_toArray, ho]
      cases hch2 with
      | @det _ o _ _ _ v R A B b1 b2 b3 b4 b5 b6 b7 c =>
        rw [ho] at b2; cases b2
        rw [if_pos (hyes hF b3)]
        have sA := hS.sel b5 hnd3.2
        have sR := hS.sel b4 hnd3.1.2
        refine (wpIn_of_done (b7 a.eval w (fun x u _ hx => hF.ev hx) hS.base (fun x hx => (sR.own x hx).1) (fun x hx => (sA.own x hx).1) sR sA.apart) ?_)
        rintro u w' ⟨rfl, ht⟩
        exact next _ w' _ _ (hF.dst hfd _) (hS.step b5 (fun t ht' => by rw [b6]; have := hwp t ht'; simpa using this) (by rw [b6]; exact hnd3.1.1) ht) c
      | @skip _ o _ _ _ b1 b2 b3 b4 b5 c =>
        rw [ho] at b2; cases b2
        rw [if_neg (by rw [hno hF b3]; simp)]
        exact ⟨skip_about b5 _ _, next _ w _ _ (hF.dst hfd _) hS c⟩
      | @ext _ o _ _ _ X F v R A B b1 b2 b3 b4 b5 b6 bne b7 c =>
        rw [ho] at b2; cases b2
        rw [if_pos (hyes hF b3)]
        have sA := hS.sel b5 hnd3.2
        have sR := hS.sel b4 hnd3.1.2
        refine (wpIn_of_done (b7 a.eval w (fun x u _ hx => hF.ev hx) hS.base (fun x hx => (sR.own x hx).1) (fun x hx => (sA.own x hx).1) sR sA.apart) ?_)
        rintro u w' ⟨x, hx, rfl, ht⟩
        exact next _ w' _ _ (hF.dst hfd _) (hS.step b5 (fun t ht' => by rw [b6 x]; have := hwp t ht'; simpa using this) (by rw [b6 x]; exact hnd3.1.1) ht) (c x hx)
      | @flo _ o _ _ _ t s z b1 b2 b3 b4 b5 b6 b7 b8 c =>
        rw [ho] at b2; cases b2
        rw [if_pos (hyes hF (.inl b3))]
        refine (wpIn_of_done (K := fun u w' => u = t w.heap.size ∧ w' = w.alloc z) (doneO b4.1 (by rw [b4.exec a.eval w (fun x u _ hx => hF.ev hx)]; exact ⟨rfl, rfl⟩)) ?_)
        rintro u w' ⟨rfl, rfl⟩
        refine next _ _ _ _ (hF.dst hfd _) (hS.step (B := [(s, (w.heap.size, z))]) (.nil : Sel H [] []) (fun t ht => by cases ht) (by simp [tagsOf]) (tr_alloc w _)) (c w.heap.size)
  refine main _ _ _ _ σ E (tagFrom 0 H) (by simp) (by simp) (fun i hi => ?_) k6 k3 k9 (fun i j h => ?_) hF1 hS1.drew.tags h
  · constructor
    · intro h
      simp [Array.getD_eq_getD_getElem?, Array.getElem?_replicate] at h
      split at h <;> simp at h
    · intro h
      exact absurd (by simpa using k5 i hi) h
  · simp [Array.getD_eq_getD_getElem?, Array.getElem?_replicate] at h
    split at h <;> simp at h
end
end Go.Proofs.Ytjdeplehhmhpcaa.En
namespace Go.Proofs.Ytjdeplehhmhpcaa.En
open Go.RowKit

section
variable {P : Program} {E : Env} {w0 w w' : World} {T : Nat → Prop} {H R A : Heap} {d : Option Tmp} {t ty : TypeId} {pos : String} {af : Array Edge} {g : Option (Nat × Bool)} {x y z : Operand} {v u : Value} {b off : Nat}
/-- Some blocks out of a list. -/
inductive Dels : Heap → Heap → Heap → Prop
  | nil {H : Heap} : Dels H [] H
  | cons {H H1 H2 r : Heap} {x : Nat × Obj} : Del H x H1 → Dels H1 r H2 → Dels H (x :: r) H2
theorem Dels.perm {H2 : Heap} (h : Dels H A H2) : H.Perm (A ++ H2) := by
  induction h with
  | nil => exact .refl _
  | cons hd _ ih => exact hd.perm.trans (List.Perm.cons _ ih)
theorem St.tr (h : St w0 T H w) {H2 B : Heap} (hd : Dels H A H2) (k : Tr w w' A B) : St w0 T (B ++ H2) w' := by
  have hp := h.perm hd.perm.symm
  have ap := List.pairwise_append.1 hp.apart
  refine ⟨k.os.trans h.os, k.tape.trans h.tape, k.output.trans h.output, Nat.le_trans h.size k.size, fun c hc hT => ?_, fun q hq => ?_, ?_⟩
  · rw [k.rest c (Nat.lt_of_lt_of_le hc h.size) (fun y hy e => ?_)]
    · exact h.old c hc hT
    · rcases (hp.own y (List.mem_append_left _ hy)).2 with q | q
      · omega
      · exact hT (e ▸ q)
  · rcases List.mem_append.1 hq with hq | hq
    · refine ⟨k.now q hq, ?_⟩
      rcases k.new q hq with ⟨y, hy, e⟩ | hle
      · rw [← e]; exact (hp.own y (List.mem_append_left _ hy)).2
      · exact .inl (Nat.le_trans h.size hle)
    · obtain ⟨h1, h2⟩ := hp.own q (List.mem_append_right _ hq)
      refine ⟨?_, h2⟩
      rw [k.rest q.1 (Array.getElem?_eq_some_iff.1 h1).1 (fun y hy => ap.2.2 y hy q hq)]
      exact h1
  · refine List.pairwise_append.2 ⟨k.apart, ap.2.1, fun p hp' q hq e => ?_⟩
    obtain ⟨h1, _⟩ := hp.own q (List.mem_append_right _ hq)
    rcases k.new p hp' with ⟨y, hy, e2⟩ | hle
    · exact ap.2.2 y hy q hq (e2.trans e)
    · have := (Array.getElem?_eq_some_iff.1 h1).1
      omega
/-- Where operations come in their order. -/
theorem LR.runs {o : Oper} {X : Type} {F : X → Prop} {v : X → Value} {B : X → Heap} {H2 : Heap} (h : LR P E w0 T R A o F v B) (hR : Pick H R) (hA : Dels H A H2) : Runs P E w0 T H o F v (fun x => B x ++ H2) := fun ρ w hρ hS => by
  have hp := hS.perm hA.perm.symm
  have hr := hS.pick hR
  refine (h ρ w hρ (hS.pick .nil) (fun x hx => (hr.own x hx).1) (fun x hx => (hp.own x (List.mem_append_left _ hx)).1) hr (List.pairwise_append.1 hp.apart).1).mono ?_
  rintro u w' ⟨x, h1, h2, h3⟩
  exact ⟨x, h1, h2, hS.tr hA h3⟩
theorem LR1.run1 {o : Oper} {v : Value} {B : Heap} {H2 : Heap} (h : LR1 P E w0 T R A o v B) (hR : Pick H R) (hA : Dels H A H2) : Run1 P E w0 T H o v (B ++ H2) := fun ρ w hρ hS => by
  have hp := hS.perm hA.perm.symm
  have hr := hS.pick hR
  refine (h ρ w hρ (hS.pick .nil) (fun x hx => (hr.own x hx).1) (fun x hx => (hp.own x (List.mem_append_left _ hx)).1) hr (List.pairwise_append.1 hp.apart).1).mono ?_
  rintro u w' ⟨h2, h3⟩
  exact ⟨h2, hS.tr hA h3⟩
/-- Run alone, over the world as it is. -/
theorem st_self {cs : Array Value} {te : TypeId} {fr : Nat × Nat} (hb : w.heap[b]? = some (Obj.cells cs te fr)) : St w (fun k => k = b) [(b, Obj.cells cs te fr)] w :=
  ⟨rfl, rfl, rfl, Nat.le_refl _, fun _ _ _ => rfl, fun x hx => by rw [List.mem_singleton] at hx; subst hx; exact ⟨hb, .inr rfl⟩, List.pairwise_singleton _ _⟩
theorem tr_of_run1 {o : Oper} {ob o' : Obj} {cs : Array Value} {te : TypeId} {fr : Nat × Nat} (e : ob = Obj.cells cs te fr) (h : ∀ w : World, Run1 P E w (fun k => k = b) [(b, ob)] o v [(b, o')]) : LR1 P E w0 T R [(b, ob)] o v [(b, o')] := fun ρ w hρ _ _ hA _ _ => by
  subst e
  refine (h w ρ w hρ (st_self (hA (b, Obj.cells cs te fr) (by simp)))).mono ?_
  rintro u w' ⟨h1, h2⟩
  refine ⟨h1, h2.os, h2.tape, h2.output, h2.size, fun k hk hn => h2.old k hk (fun e => hn (b, Obj.cells cs te fr) (by simp) e.symm), fun x hx => (h2.own x hx).1, fun x hx => ?_, List.pairwise_singleton _ _⟩
  rw [List.mem_singleton] at hx; subst hx; exact .inl ⟨(b, Obj.cells cs te fr), by simp, rfl⟩
theorem lr_store1 {cs cs' : List Value} {te : TypeId} (hx : Ev E x (.pointer (some ⟨b, off, none⟩))) (hy : Ev E y v) (hv : plainV v = true) (hz : sizeB P t = some 1) (hs : Put cs off [v] cs') :
    LR1 P E w0 T R [(b, Obj.cells cs.toArray te (0, 0))] ⟨d, .store t x y, ty, pos, af, g⟩ undef [(b, Obj.cells cs'.toArray te (0, 0))] :=
  tr_of_run1 rfl fun _ => run_store1 hx hy hv hz .here hs
theorem lr_storeN {cs cs' l : List Value} {te : TypeId} {k : Nat} (hx : Ev E x (.pointer (some ⟨b, off, none⟩))) (hy : Ev E y (.agg l.toArray)) (hv : l.all plainV = true) (hz : sizeB P t = some k) (hl : l.length = k) (hs : Put cs off l cs') :
    LR1 P E w0 T R [(b, Obj.cells cs.toArray te (0, 0))] ⟨d, .store t x y, ty, pos, af, g⟩ undef [(b, Obj.cells cs'.toArray te (0, 0))] :=
  tr_of_run1 rfl fun _ => run_storeN hx hy hv hz hl .here hs
/-- Something new, whatever there is. -/
theorem lr_new {o : Oper} {F : Nat → Prop} {v : Nat → Value} {ob : Obj} (h : ∀ (ρ : Operand → Value) (w : World), (∀ x u, x ∈ o.op.operands → Ev E x u → ρ x = u) → DoneO P o ρ w fun u w' => u = v w.heap.size ∧ F w.heap.size ∧ w' = w.alloc ob) : LR P E w0 T R [] o F v (fun b => [(b, ob)]) := fun ρ w hρ _ _ _ _ _ => by
  refine (h ρ w hρ).mono ?_
  rintro u w' ⟨h1, h2, rfl⟩
  exact ⟨_, h2, h1, tr_alloc w ob⟩
theorem lr_box1 (hx : Ev E x v) (hv : plainV v = true) : LR P E w0 T R [] ⟨d, .box t x, ty, pos, af, g⟩ (fun _ : Nat => True) (fun b => .pointer (some ⟨b, 0, none⟩)) (fun b => [(b, Obj.cells [v].toArray t (0, 0))]) :=
  lr_new fun ρ w hρ => by
    refine doneO rfl ?_
    have e := hρ x _ (by simp [Op.operands]) hx
    have hc := plain_cells hv
    simp only [Value.cells] at hc
    simp [execOp, Done, go_sem, Instr.box, e, newVar, newRow]
    rw [hc]
theorem lr_boxN {l : List Value} (hx : Ev E x (.agg l.toArray)) : LR P E w0 T R [] ⟨d, .box t x, ty, pos, af, g⟩ (fun _ : Nat => True) (fun b => .pointer (some ⟨b, 0, none⟩)) (fun b => [(b, Obj.cells l.toArray t (0, 0))]) :=
  lr_new fun ρ w hρ => by
    refine doneO rfl ?_
    have e := hρ x _ (by simp [Op.operands]) hx
    simp [execOp, Done, go_sem, Instr.box, e, newVar, newRow, Value.cells]
inductive Evp (E : Env) : List (Nat × Operand) → List (Nat × Value) → Prop
  | nil : Evp E [] []
  | cons {i : Nat} {x : Operand} {v : Value} {r : List (Nat × Operand)} {vs : List (Nat × Value)} : Ev E x v → Evp E r vs → Evp E ((i, x) :: r) ((i, v) :: vs)
theorem Evp.map {ρ : Operand → Value} {ps : List (Nat × Operand)} {vs : List (Nat × Value)} (h : Evp E ps vs) (hρ : ∀ i x u, (i, x) ∈ ps → Ev E x u → ρ x = u) : (ps.map fun q => (q.1, ρ q.2)) = vs := by
  induction h with
  | nil => rfl
  | @cons i x v r vs h1 _ ih =>
    have e := hρ i x v (by simp) h1
    rw [List.map_cons, ih (fun i x u hm => hρ i x u (by simp [hm]))]
    simp only [e]
theorem run_build_at {ps : List (Nat × Operand)} {vs : List (Nat × Value)} (he : Evp E ps vs) (h : ∀ w, (Instr.build t vs.toArray).run P w = .ok v w) : RunB P E w0 T H ⟨d, .build t ps.toArray, ty, pos, af, g⟩ v := fun ρ w hρ _ => by
  refine doneO rfl ?_
  have e := he.map (ρ := ρ) (fun i x u hm => hρ x u (by simp [Op.operands]; exact ⟨i, hm⟩))
  have h1 := h w
  have e2 : (ps.toArray.map fun (i, x) => (i, ρ x)) = vs.toArray := by rw [List.map_toArray]; exact congrArg _ e
  have h2 : (execOp ρ ⟨d, .build t ps.toArray, ty, pos, af, g⟩).run P w = .ok (.value v) w := by
    simp only [execOp]
    rw [e2]
    simp [h1]
  rw [h2]
  exact ⟨rfl, Below.refl _ _⟩
theorem lr_buildSlice_at {m : Nat} {ob : Obj} {ps : List (Nat × Operand)} {vs : List (Nat × Value)} (he : Evp E ps vs) (h : ∀ w : World, (Instr.buildSlice t m vs.toArray).run P w = .ok (.slice (some ⟨w.heap.size, 0, none⟩) m m) (w.alloc ob)) :
    LR P E w0 T R [] ⟨d, .buildSlice t m ps.toArray, ty, pos, af, g⟩ (fun _ : Nat => True) (fun b => .slice (some ⟨b, 0, none⟩) m m) (fun b => [(b, ob)]) :=
  lr_new fun ρ w hρ => by
    refine doneO rfl ?_
    have e := he.map (ρ := ρ) (fun i x u hm => hρ x u (by simp [Op.operands]; exact ⟨i, hm⟩))
    have h1 := h w
    have e2 : (ps.toArray.map fun (i, x) => (i, ρ x)) = vs.toArray := by rw [List.map_toArray]; exact congrArg _ e
    have h2 : (execOp ρ ⟨d, .buildSlice t m ps.toArray, ty, pos, af, g⟩).run P w = .ok (.value (.slice (some ⟨w.heap.size, 0, none⟩) m m)) (w.alloc ob) := by
      simp only [execOp]
      rw [e2]
      simp [h1]
    rw [h2]
    exact ⟨rfl, trivial, rfl⟩
/-- A slice out of parts is new, and the same whatever there is in memory. -/
theorem New.lit {o : Oper} {m : Nat} {ob : Obj} {ps : List (Nat × Operand)} {vs : List (Nat × Value)} (ho : o.op = .buildSlice t m ps.toArray) (he : Evp E ps vs) (h : ∀ w : World, (Instr.buildSlice t m vs.toArray).run P w = .ok (.slice (some ⟨w.heap.size, 0, Option.none⟩) m m) (w.alloc ob)) :
    New P E o (fun b => .slice (some ⟨b, 0, Option.none⟩) m m) ob := ⟨by simp [noFnB, ho], fun ρ w hρ => by
  have e := he.map (ρ := ρ) (fun i x u hm => hρ x u (by rw [ho]; simp [Op.operands]; exact ⟨i, hm⟩))
  have h1 := h w
  have e2 : (ps.toArray.map fun (i, x) => (i, ρ x)) = vs.toArray := by rw [List.map_toArray]; exact congrArg _ e
  simp only [execOp, ho]
  rw [e2]
  simp [h1]⟩
/-! What is appended to a slice of one's own: n elements, of sz cells each; behind them whatever there is. -/
def InRow (sz n cap : Nat) (cur xs : List Value) : Prop := n ≤ cap ∧ cap ≤ maxLen ∧ cur.length = cap * sz ∧ cur.take (n * sz) = xs
theorem InRow.get {sz n cap : Nat} {cur xs : List Value} (h : InRow sz n cap cur xs) {i : Nat} {v : Value} (hi : xs[i]? = some v) : cur[i]? = some v := by
  obtain ⟨_, _, _, h4⟩ := h
  rw [← h4, List.getElem?_take] at hi
  split at hi
  · exact hi
  · cases hi
/-- What an append asks of types and sizes. -/
structure AppT (P : Program) (t e : TypeId) (sz by_ : Nat) : Prop where
  sl : P.underlying t = some (.slice e)
  info : ∃ i z, P.info? e = some i ∧ i.zero = some z ∧ i.size = sz ∧ i.bytes = by_ ∧ z.cells.size = sz
def appB (P : Program) (t e sz by_ : Nat) : Bool :=
  (match P.underlying t with | some (.slice e') => e' == e | _ => false) && (match P.info? e with | some i => i.size == sz && i.bytes == by_ && (match i.zero with | some z => z.cells.size == sz | none => false) | none => false)
theorem appT_of {e sz by_ : Nat} (h : appB P t e sz by_ = true) : AppT P t e sz by_ := by
  simp only [appB, Bool.and_eq_true] at h
  obtain ⟨h1, h2⟩ := h
  constructor
  · split at h1
    · rename_i hu; simp at h1; rw [← h1]; exact hu
    · cases h1
  · split at h2
    · rename_i i hi
      simp only [Bool.and_eq_true, beq_iff_eq] at h2
      obtain ⟨⟨h3, h4⟩, h5⟩ := h2
      split at h5
      · rename_i z hz
        exact ⟨i, z, hi, hz, h3, h4, by simpa using h5⟩
      · cases h5
    · cases h2
theorem done_append {ρ : Operand → Value} {u1 u2 : Value} {v : Value} (h1 : ρ x = u1) (h2 : ρ y = u2) (h : (Builtin.append_ #[t, t] ty #[u1, u2]).run P w = .ok v w') :
    (execOp ρ ⟨d, .call ⟨.builtin .append, [x, y].toArray, [t, t].toArray⟩, ty, pos, af, g⟩).run P w = .ok (.value v) w' := by
  subst h1; subst h2
  simp [execOp, resolve, invoke, builtin, h]
theorem lr_append_nil {e sz by_ : Nat} (ht : appB P t e sz by_ = true) {m c : Nat} {news : List Value} (hx : Ev E x (.slice none 0 0)) (hy : Ev E y (.slice (some ⟨b, off, none⟩) m c)) (hl : news.length = m * sz) (hm : 0 < m) (hmax : m * by_ ≤ 140737488355328) (hmx : m ≤ maxLen)
    (hnews : ∀ w, St w0 T R w → ∀ j u, news[j]? = some u → w.cell? ⟨b, off + j, none⟩ = some u) :
    LR P E w0 T R [] ⟨d, .call ⟨.builtin .append, [x, y].toArray, [t, t].toArray⟩, ty, pos, af, g⟩ (fun q : Nat × Nat × List Value => InRow sz m q.2.1 q.2.2 news) (fun q => .slice (some ⟨q.1, 0, none⟩) m q.2.1) (fun q => [(q.1, Obj.cells q.2.2.toArray e (0, 0))]) := fun ρ w hρ _ _ _ hR _ => by
  refine doneO rfl ?_
  have e1 := hρ x _ (by simp [Op.operands, Call.operands]) hx
  have e2 := hρ y _ (by simp [Op.operands, Call.operands]) hy
  obtain ⟨hsl, i, z, hi, hz, rfl, rfl, hzs⟩ := appT_of ht
  unfold maxLen at hmx
  have hr := run_append_nil (P := P) w t ty e i z hsl hi hz ⟨b, off, none⟩ m c news hl (fun j v hj => by rw [add_cell]; exact hnews w hR j v hj) hm (by omega) (by omega)
  rw [done_append e1 e2 hr]
  have hge := grownCap_ge w m 0 e
  refine ⟨(w.heap.size, grownCap w m 0 e, news ++ (Builtin.zeroCells z.cells (grownCap w m 0 e - m)).toList), ⟨hge, grownCap_le_maxLen w m 0 e (by unfold maxLen; omega), ?_, ?_⟩, rfl, ?_⟩
  · simp only [List.length_append, hl, Array.length_toList, size_zeroCells, hzs, ← Nat.add_mul]; congr 1; omega
  · rw [List.take_append_of_le_length (by omega), ← hl, List.take_length]
  · have := tr_alloc w.drew (Obj.cells (news.toArray ++ Builtin.zeroCells z.cells (grownCap w m 0 e - m)) e)
    show Tr w _ [] [(w.heap.size, Obj.cells (news ++ (Builtin.zeroCells z.cells (grownCap w m 0 e - m)).toList).toArray e)]
    rw [show (news ++ (Builtin.zeroCells z.cells (grownCap w m 0 e - m)).toList).toArray = news.toArray ++ Builtin.zeroCells z.cells (grownCap w m 0 e - m) by apply Array.ext'; simp]
    exact ⟨this.os, this.tape, this.output, this.size, this.rest, this.now, this.new, this.apart⟩
theorem lr_append_row {e sz by_ : Nat} (ht : appB P t e sz by_ = true) {k n cap m c : Nat} {cur xs news : List Value} (hx : Ev E x (.slice (some ⟨k, 0, none⟩) n cap)) (hrow : InRow sz n cap cur xs) (hy : Ev E y (.slice (some ⟨b, off, none⟩) m c)) (hl : news.length = m * sz) (hp : news.all plainV = true)
    (hmax : (n + m) * by_ ≤ 140737488355328) (hmx : n + m ≤ maxLen) (hnews : ∀ w, St w0 T R w → ∀ j u, news[j]? = some u → w.cell? ⟨b, off + j, none⟩ = some u) :
    LR P E w0 T R [(k, Obj.cells cur.toArray e (0, 0))] ⟨d, .call ⟨.builtin .append, [x, y].toArray, [t, t].toArray⟩, ty, pos, af, g⟩ (fun q : Nat × Nat × List Value => InRow sz (n + m) q.2.1 q.2.2 (xs ++ news)) (fun q => .slice (some ⟨q.1, 0, none⟩) (n + m) q.2.1) (fun q => [(q.1, Obj.cells q.2.2.toArray e (0, 0))]) := fun ρ w hρ _ _ hA hR _ => by
  refine doneO rfl ?_
  have e1 := hρ x _ (by simp [Op.operands, Call.operands]) hx
  have e2 := hρ y _ (by simp [Op.operands, Call.operands]) hy
  obtain ⟨hsl, i, z, hi, hz, rfl, rfl, hzs⟩ := appT_of ht
  obtain ⟨r1, r2, r3, r4⟩ := hrow
  have hk : w.heap[k]? = some (Obj.cells cur.toArray e (0, 0)) := hA (k, _) (by simp)
  have hxl : xs.length = n * i.size := by rw [← r4, List.length_take, r3]; exact Nat.min_eq_left (Nat.mul_le_mul_right _ r1)
  have hn2 : ∀ j u, news[j]? = some u → w.cell? ((⟨b, off, none⟩ : Addr).add j) = some u := fun j v hj => by rw [add_cell]; exact hnews w hR j v hj
  unfold maxLen at hmx
  by_cases hroom : n + m ≤ cap
  · have hfit : n * i.size + news.length ≤ cur.toArray.size := by simp only [List.size_toArray]; rw [hl, r3, ← Nat.add_mul]; exact Nat.mul_le_mul_right _ hroom
    have hr := run_append_room (P := P) w t ty e i hsl hi k n cap cur.toArray hk ⟨b, off, none⟩ m c news hl hn2 (fun u hu => by
      have := List.all_eq_true.1 hp u hu
      cases u <;> first | rfl | (simp [plainV] at this)) hroom hfit
    rw [done_append e1 e2 hr]
    refine ⟨(k, cap, xs ++ news ++ cur.drop (n * i.size + news.length)), ⟨hroom, r2, ?_, ?_⟩, rfl, ⟨rfl, rfl, rfl, by simp, fun q hq hne => ?_, fun q hq => ?_, fun q hq => ?_, List.pairwise_singleton _ _⟩⟩
    · simp only [List.size_toArray] at hfit
      simp only [List.length_append, List.length_drop, hxl]
      omega
    · rw [List.take_append_of_le_length (by simp [hxl, hl, Nat.add_mul]), List.take_of_length_le (by simp [hxl, hl, Nat.add_mul])]
    · exact setRow_other w k q _ (fun e2 => hne (k, Obj.cells cur.toArray e) (by simp) e2.symm)
    · rw [List.mem_singleton] at hq; subst hq
      simp only
      rw [show xs ++ news ++ cur.drop (n * i.size + news.length) = cur.toArray.toList.take (n * i.size) ++ news ++ cur.toArray.toList.drop (n * i.size + news.length) by simp [r4]]
      exact setRow_heap w k cur.toArray _ e _ hk
    · rw [List.mem_singleton] at hq; subst hq; exact .inl ⟨(k, Obj.cells cur.toArray e), by simp, rfl⟩
  · have hcell : ∀ j v, xs[j]? = some v → w.cell? ((⟨k, 0, none⟩ : Addr).add j) = some v := fun j v hj => by
      have := InRow.get ⟨r1, r2, r3, r4⟩ hj
      rw [add_cell, Nat.zero_add]
      simp [World.cell?, hk, this]
    have hr := run_append_grow (P := P) w t ty e i z hsl hi hz ⟨k, 0, none⟩ n cap xs hxl hcell ⟨b, off, none⟩ m c news hl hn2 (by omega) (by omega) (growslice_fits (by omega) hmax)
    rw [done_append e1 e2 hr]
    have hge := grownCap_ge w (n + m) cap e
    refine ⟨(w.heap.size, grownCap w (n + m) cap e, xs ++ news ++ (Builtin.zeroCells z.cells (grownCap w (n + m) cap e - (n + m))).toList), ⟨hge, grownCap_le_maxLen w (n + m) cap e (by unfold maxLen; omega), ?_, ?_⟩, rfl, ?_⟩
    · simp only [List.length_append, hl, hxl, Array.length_toList, size_zeroCells, hzs, ← Nat.add_mul]; congr 1; omega
    · rw [List.take_append_of_le_length (by simp [hxl, hl, Nat.add_mul]), List.take_of_length_le (by simp [hxl, hl, Nat.add_mul])]
    · have := tr_alloc w.drew (Obj.cells (xs.toArray ++ news.toArray ++ Builtin.zeroCells z.cells (grownCap w (n + m) cap e - (n + m))) e)
      show Tr w _ [(k, Obj.cells cur.toArray e)] [(w.heap.size, Obj.cells (xs ++ news ++ (Builtin.zeroCells z.cells (grownCap w (n + m) cap e - (n + m))).toList).toArray e)]
      rw [show (xs ++ news ++ (Builtin.zeroCells z.cells (grownCap w (n + m) cap e - (n + m))).toList).toArray = xs.toArray ++ news.toArray ++ Builtin.zeroCells z.cells (grownCap w (n + m) cap e - (n + m)) by apply Array.ext'; simp]
      exact ⟨this.os, this.tape, this.output, this.size, fun q hq _ => this.rest q hq (fun x hx => (List.not_mem_nil hx).elim), this.now, fun q hq => by
        rcases this.new q hq with ⟨_, h, _⟩ | h
        · cases h
        · exact .inr h, this.apart⟩
/-! Calls. -/
theorem lr_call {f : FuncId} {xs : List Operand} {vs : List Value} {ts : Array TypeId} {X : Type} {F : X → Prop} {r : X → Value} {B : X → Heap} (hc : callB P f = true) (ha : Evs E xs vs)
    (h : ∀ w, St w0 T R w → (∀ x, x ∈ A → w.heap[x.1]? = some x.2) → CallsF P f vs.toArray w fun e w' => ∃ s, F s ∧ e = .returned (r s) ∧ Tr w w' A (B s)) : LR P E w0 T R A ⟨d, .call ⟨.value (.func f), xs.toArray, ts⟩, ty, pos, af, g⟩ F r B := fun ρ w hρ _ _ hA hR _ => by
  have e1 := evs_map ha (fun x u hm => hρ x u (by simp [Op.operands, Call.operands, hm]))
  have e2 := hρ (.func f) _ (by simp [Op.operands, Call.operands]) .func
  refine ⟨call_about hc e2, ?_⟩
  rw [done_call hc e2 e1]
  exact (h w hR hA).mono fun e w' ⟨s, h1, h2, h3⟩ => ⟨r s, h2, s, h1, rfl, h3⟩
theorem lr_callv {f : FuncId} {xs : List Operand} {vs cs as : List Value} {ts : Array TypeId} {X : Type} {F : X → Prop} {r : X → Value} {B : X → Heap} (hc : callB P f = true) (hx : Ev E x (.func (.func f) #[] cs.toArray)) (ha : Evs E xs vs) (hcat : vs ++ cs = as)
    (h : ∀ w, St w0 T R w → (∀ x, x ∈ A → w.heap[x.1]? = some x.2) → CallsF P f as.toArray w fun e w' => ∃ s, F s ∧ e = .returned (r s) ∧ Tr w w' A (B s)) : LR P E w0 T R A ⟨d, .call ⟨.value x, xs.toArray, ts⟩, ty, pos, af, g⟩ F r B := fun ρ w hρ _ _ hA hR _ => by
  have e1 := evs_map ha (fun x u hm => hρ x u (by simp [Op.operands, Call.operands, hm]))
  have e2 := hρ x _ (by simp [Op.operands, Call.operands]) hx
  refine ⟨callv_about hc e2, ?_⟩
  rw [done_callv hc e2 e1 hcat]
  exact (h w hR hA).mono fun e w' ⟨s, h1, h2, h3⟩ => ⟨r s, h2, s, h1, rfl, h3⟩
/-! The end of a region whose order is open. -/
theorem chain_nil {ds : List Deferred} {l : List Oper} {I : List Inf} {Q : Exit → Act → World → Prop} {n : Nat} {H : THeap} {ts : List Nat} {xs : Heap} (hs : Sel H ts xs) (hn : ts.Nodup) (k : XW ds Q .normal n E w0 T xs) : Chain P w0 T l I (KQ ds Q n w0 T) [] E H :=
  .nil fun a w hF hS => k a w hF (hS.sel hs hn)
theorem St.toTr {B : Heap} (h : St w T H w') (hT : ∀ k, T k → (∃ x, x ∈ A ∧ x.1 = k) ∨ ∃ o, (k, o) ∈ H ∧ w.heap[k]? = some o) (hB : ∀ x, x ∈ B → x ∈ H) (hn : ∀ x, x ∈ B → (∃ y, y ∈ A ∧ y.1 = x.1) ∨ w.heap.size ≤ x.1) (hp : B.Pairwise fun x y => x.1 ≠ y.1) : Tr w w' A B := by
  refine ⟨h.os, h.tape, h.output, h.size, fun k hk hne => ?_, fun x hx => (h.own x (hB x hx)).1, hn, hp⟩
  by_cases ht : T k
  · rcases hT k ht with ⟨x, h1, h2⟩ | ⟨o, h1, h2⟩
    · exact absurd h2 (hne x h1)
    · rw [h2]; exact (h.own _ h1).1
  · exact h.old k hk ht
theorem inRow_ne {sz m : Nat} {L : List Value} (hl : L.length = m * sz) (hm : m ≤ maxLen) : ∃ q : Nat × Nat × List Value, InRow sz m q.2.1 q.2.2 L := ⟨(0, m, L), Nat.le_refl _, hm, hl, by simp only; rw [← hl, List.take_length]⟩
end
end Go.Proofs.Ytjdeplehhmhpcaa.En
