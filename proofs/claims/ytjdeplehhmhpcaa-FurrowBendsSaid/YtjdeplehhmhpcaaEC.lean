/- Walks by what is known: addresses, calls, lengths, what is appended. Laws over any program. -/
import Derived.WalkKit
import Derived.Orders
import Derived.Deep.LoopGhost
import Derived.Lib.Hide
import Derived.Sort.LoopGhostIn
import Derived.RangeFuncIn
import Derived.RangeFuncLeaves
import Derived.RangeFuncRecord
import Derived.TacticsIn
import Derived.IntWalk
import Derived.ChangeKeysEq
import Derived.Laws.AppendOwn
namespace Go.Proofs.Ytjdeplehhmhpcaa.En
open Go.RowKit

/-- The functions that there are; a round's frame, or a function's. -/
def FF (P : Program) (r : Option Nat) : Fence := { fn := fun x => (P.funcs[x]?).isSome = true, depth := none, alive := false, round := r }
def CallsF (P : Program) (f : FuncId) (args : Array Value) (w : World) (R : Ending → World → Prop) : Prop := CallsIn (FF P none) 0 P f args w R
theorem CallsF.mono {P : Program} {f : FuncId} {args : Array Value} {w : World} {R R' : Ending → World → Prop} (h : CallsF P f args w R) (hr : ∀ e w', R e w' → R' e w') : CallsF P f args w R' := CallsIn.mono h hr
theorem CallsF.calls {P : Program} {f : FuncId} {args : Array Value} {w : World} {R : Ending → World → Prop} (h : CallsF P f args w R) : Calls P f args w R := fun cs => by
  obtain ⟨_, h⟩ := h
  obtain ⟨e, w', fr, h1, h2, h3, h4⟩ := h cs (fun d hd => by cases hd)
  exact ⟨e, w', fr, h1, h2.comes, h3, h4⟩
end Go.Proofs.Ytjdeplehhmhpcaa.En
namespace Go.Proofs.Ytjdeplehhmhpcaa.En
open Go.RowKit

/-! What is known of a frame. -/
abbrev Env := List (Nat × Value)
def look (t : Nat) : Env → Option Value
  | [] => none
  | (s, v) :: r => bif Nat.beq t s then some v else look t r
inductive Ev (E : Env) : Operand → Value → Prop
  | tmp {t : Nat} {v : Value} : look t E = some v → Ev E (.tmp t) v
  | const {v : Value} : Ev E (.const v) v
  | func {f : FuncId} : Ev E (.func f) (.func (.func f) #[] #[])
inductive Evs (E : Env) : List Operand → List Value → Prop
  | nil : Evs E [] []
  | cons {x : Operand} {v : Value} {xs : List Operand} {vs : List Value} : Ev E x v → Evs E xs vs → Evs E (x :: xs) (v :: vs)
structure Fr (ds : List Deferred) (n : Nat) (E : Env) (a : Act) : Prop where
  size : a.tmps.size = n
  defers : a.defers = ds
  get : ∀ t v, look t E = some v → a.tmps.getD t undef = v
theorem look_self (d : Nat) (v : Value) (E : Env) : look d ((d, v) :: E) = some v := by simp [look]
theorem look_other {d t : Nat} (h : t ≠ d) (v : Value) (E : Env) : look t ((d, v) :: E) = look t E := by
  have : Nat.beq t d = false := by
    cases hb : Nat.beq t d with
    | false => rfl
    | true => exact absurd (Nat.eq_of_beq_eq_true hb) h
  simp [look, this]
section
variable {ds : List Deferred} {n : Nat} {E : Env} {a : Act} {x : Operand} {v : Value}
theorem Fr.ev (h : Fr ds n E a) (hx : Ev E x v) : a.eval x = v := by
  cases hx with
  | tmp h' => exact h.get _ _ h'
  | const => rfl
  | func => rfl
theorem Fr.put (h : Fr ds n E a) {d : Nat} (hd : Nat.blt d n = true) (v : Value) : Fr ds n ((d, v) :: E) (a.put (some d) v) := by
  have hd' : d < n := by simpa using hd
  obtain ⟨h1, h2, h3⟩ := h
  refine ⟨by simpa [Act.put] using h1, h2, fun t u ht => ?_⟩
  by_cases e : t = d
  · subst e
    rw [look_self] at ht
    cases ht
    simp [Act.put, Array.getElem?_setIfInBounds_self_of_lt (show t < a.tmps.size by omega)]
  · rw [look_other e] at ht
    have := h3 t u ht
    simp only [Act.put, Array.getD_eq_getD_getElem?] at this ⊢
    rw [Array.getElem?_setIfInBounds_ne (fun h => e h.symm)]
    exact this
/-- What is known at less slots. -/
inductive Less (E : Env) : Env → Prop
  | nil : Less E []
  | cons {t : Nat} {v : Value} {r : Env} : look t E = some v → Less E r → Less E ((t, v) :: r)
theorem Less.look {E' : Env} (h : Less E E') : ∀ t v, look t E' = some v → look t E = some v := by
  induction h with
  | nil => intro t v h; cases h
  | @cons s u r h1 _ ih =>
    intro t v h
    by_cases e : t = s
    · subst e; rw [look_self] at h; cases h; exact h1
    · rw [look_other e] at h; exact ih t v h
theorem Fr.less {E' : Env} (h : Fr ds n E a) (hl : Less E E') : Fr ds n E' a := ⟨h.size, h.defers, fun t v ht => h.get t v (hl.look t v ht)⟩
end

/-! What is known of memory. -/
abbrev Heap := List (Nat × Obj)
structure St (w0 : World) (T : Nat → Prop) (H : Heap) (w : World) : Prop where
  os : w.os = w0.os
  tape : w.tape = w0.tape
  output : w.output = w0.output
  size : w0.heap.size ≤ w.heap.size
  old : ∀ b, b < w0.heap.size → ¬ T b → w.heap[b]? = w0.heap[b]?
  own : ∀ x, x ∈ H → w.heap[x.1]? = some x.2 ∧ (w0.heap.size ≤ x.1 ∨ T x.1)
  apart : H.Pairwise fun x y => x.1 ≠ y.1
def NoT : Nat → Prop := fun _ => False
section
variable {w0 w : World} {T : Nat → Prop} {H : Heap}
theorem St.init (w : World) (T : Nat → Prop) : St w T [] w := ⟨rfl, rfl, rfl, Nat.le_refl _, fun _ _ _ => rfl, fun _ h => (List.not_mem_nil h).elim, .nil⟩
theorem St.kept (h : St w0 NoT H w) : Below w0.heap.size w0 w := ⟨h.os, h.tape, h.output, h.size, fun b hb => h.old b hb (fun h => h)⟩
theorem St.lt (h : St w0 T H w) {b : Nat} {o : Obj} (hm : (b, o) ∈ H) : b < w.heap.size := by
  obtain ⟨h1, _⟩ := h.own _ hm
  exact (Array.getElem?_eq_some_iff.1 h1).1
theorem St.drew (h : St w0 T H w) : St w0 T H { w with drawn := w.drawn + 1 } := ⟨h.os, h.tape, h.output, h.size, h.old, h.own, h.apart⟩
theorem alloc_new (w : World) (o : Obj) : (w.alloc o).heap[w.heap.size]? = some o := by
  show (w.heap.push o)[w.heap.size]? = _
  simp
/-- A callee leaves what was there. -/
theorem St.call (h : St w0 T H w) {w' : World} (k : Below w.heap.size w w') : St w0 T H w' :=
  ⟨k.os.trans h.os, k.tape.trans h.tape, k.output.trans h.output, Nat.le_trans h.size k.size, fun b hb hT => (k.block b (Nat.lt_of_lt_of_le hb h.size)).trans (h.old b hb hT),
    fun x hx => by
      obtain ⟨h1, h2⟩ := h.own x hx
      exact ⟨(k.block _ (Array.getElem?_eq_some_iff.1 h1).1).trans h1, h2⟩, h.apart⟩
theorem St.alloc (h : St w0 T H w) (o : Obj) : St w0 T ((w.heap.size, o) :: H) (w.alloc o) := by
  have k : Below w.heap.size w (w.alloc o) := (Below.refl _ _).alloc (Nat.le_refl _) o
  have h' := h.call k
  refine ⟨h'.os, h'.tape, h'.output, h'.size, h'.old, fun x hx => ?_, .cons (fun y hy => ?_) h.apart⟩
  · rcases List.mem_cons.1 hx with rfl | hx
    · exact ⟨alloc_new w o, .inl h.size⟩
    · exact h'.own x hx
  · have := h.lt (b := y.1) (o := y.2) hy
    simp only; omega
/-- One block of a list turned into another one. -/
inductive Upd : Heap → Nat → Obj → Obj → Heap → Prop
  | here {b : Nat} {o o' : Obj} {r : Heap} : Upd ((b, o) :: r) b o o' ((b, o') :: r)
  | there {x : Nat × Obj} {r r' : Heap} {b : Nat} {o o' : Obj} : Upd r b o o' r' → Upd (x :: r) b o o' (x :: r')
theorem Upd.mem {b : Nat} {o o' : Obj} {H' : Heap} (h : Upd H b o o' H') : (b, o) ∈ H := by
  induction h with
  | here => simp
  | there _ ih => simp [ih]
theorem Upd.names {b : Nat} {o o' : Obj} {H' : Heap} (h : Upd H b o o' H') : H'.map (·.1) = H.map (·.1) := by
  induction h with
  | here => simp
  | there _ ih => simp [ih]
theorem Upd.at {b : Nat} {o o' : Obj} {H' : Heap} (h : Upd H b o o' H') (ha : H.Pairwise fun x y => x.1 ≠ y.1) : ∀ x, x ∈ H' → x = (b, o') ∨ x ∈ H ∧ x.1 ≠ b := by
  induction h with
  | here =>
    intro x hx
    rcases List.mem_cons.1 hx with rfl | hx
    · exact .inl rfl
    · exact .inr ⟨List.mem_cons_of_mem _ hx, fun e => (List.rel_of_pairwise_cons ha hx) e.symm⟩
  | there hu ih =>
    intro x hx
    rcases List.mem_cons.1 hx with rfl | hx
    · exact .inr ⟨by simp, fun e => (List.rel_of_pairwise_cons ha hu.mem) e⟩
    · rcases ih (List.Pairwise.of_cons ha) x hx with h | ⟨h1, h2⟩
      · exact .inl h
      · exact .inr ⟨List.mem_cons_of_mem _ h1, h2⟩
theorem pairwise_names {H H' : Heap} (h : H'.map (·.1) = H.map (·.1)) (ha : H.Pairwise fun x y => x.1 ≠ y.1) : H'.Pairwise fun x y => x.1 ≠ y.1 := by
  have h1 : (H.map (·.1)).Pairwise (· ≠ ·) := List.pairwise_map.2 ha
  rw [← h] at h1
  exact List.pairwise_map.1 h1
/-- A world in which one of one's own blocks is another one. -/
theorem St.upd (h : St w0 T H w) {b : Nat} {o o' : Obj} {H' : Heap} (hu : Upd H b o o' H') {w' : World} (h1 : w'.os = w.os) (h2 : w'.tape = w.tape) (h3 : w'.output = w.output) (h4 : w.heap.size ≤ w'.heap.size)
    (h5 : ∀ k, k < w.heap.size → k ≠ b → w'.heap[k]? = w.heap[k]?) (h6 : w'.heap[b]? = some o') : St w0 T H' w' := by
  obtain ⟨m1, m2⟩ := h.own _ hu.mem
  refine ⟨h1.trans h.os, h2.trans h.tape, h3.trans h.output, Nat.le_trans h.size h4, fun k hk hT => ?_, fun x hx => ?_, pairwise_names hu.names h.apart⟩
  · have hs := h.size
    have hne : k ≠ b := by
      intro e
      subst e
      rcases m2 with m2 | m2
      · simp only at m2; omega
      · exact hT m2
    rw [h5 k (by omega) hne]
    exact h.old k hk hT
  · rcases hu.at h.apart x hx with rfl | ⟨q1, q2⟩
    · exact ⟨h6, m2⟩
    · obtain ⟨r1, r2⟩ := h.own x q1
      exact ⟨(h5 _ (Array.getElem?_eq_some_iff.1 r1).1 q2).trans r1, r2⟩
theorem St.mem {b : Nat} {o : Obj} (h : St w0 T H w) (hm : (b, o) ∈ H) : w.heap[b]? = some o := (h.own _ hm).1
theorem St.cell (h : St w0 T H w) {b off : Nat} {cs : List Value} {ty : TypeId} {fr : Nat × Nat} {v : Value} (hm : (b, Obj.cells cs.toArray ty fr) ∈ H) (hc : cs[off]? = some v) : w.cell? ⟨b, off, none⟩ = some v := by
  simp [World.cell?, h.mem hm, hc]
theorem St.old_cell (h : St w0 T H w) {b off : Nat} {v : Value} (hT : ¬ T b) (hc : w0.cell? ⟨b, off, none⟩ = some v) : w.cell? ⟨b, off, none⟩ = some v := by
  have hb : b < w0.heap.size := World.block_lt_of_cell? w0 _ hc
  rw [← hc]
  exact World.cell?_of_block (w := w0) (h.old b hb hT)
theorem St.set (h : St w0 T H w) {b off : Nat} {cs : List Value} {ty : TypeId} {fr : Nat × Nat} {H' : Heap} (v : Value) (hu : Upd H b (Obj.cells cs.toArray ty fr) (Obj.cells (cs.set off v).toArray ty fr) H') : St w0 T H' (w.setCell ⟨b, off, none⟩ v) := by
  refine h.upd hu rfl rfl rfl (by simp [World.setCell]) (fun k hk hne => Below.heap_setCell _ _ _ _ hne) ?_
  simp [World.setCell, Array.getElem?_modify, h.mem hu.mem]
/-- A block out of a list. -/
inductive Del : Heap → Nat × Obj → Heap → Prop
  | here {x : Nat × Obj} {r : Heap} : Del (x :: r) x r
  | there {x y : Nat × Obj} {r r' : Heap} : Del r x r' → Del (y :: r) x (y :: r')
inductive Pick : Heap → Heap → Prop
  | nil {H : Heap} : Pick H []
  | cons {H H1 r : Heap} {x : Nat × Obj} : Del H x H1 → Pick H1 r → Pick H (x :: r)
theorem Del.perm {x : Nat × Obj} {H1 : Heap} (h : Del H x H1) : H.Perm (x :: H1) := by
  induction h with
  | here => exact .refl _
  | there _ ih => exact (List.Perm.cons _ ih).trans (List.Perm.swap _ _ _)
theorem Pick.sub {H' : Heap} (h : Pick H H') : ∃ R : Heap, H.Perm (H' ++ R) := by
  induction h with
  | @nil H => exact ⟨H, .refl _⟩
  | cons hd _ ih =>
    obtain ⟨R, hR⟩ := ih
    exact ⟨R, hd.perm.trans (List.Perm.cons _ hR)⟩
/-- Less is one's own. -/
theorem St.less (h : St w0 T H w) {H' : Heap} (hs : H'.Sublist H) : St w0 T H' w := ⟨h.os, h.tape, h.output, h.size, h.old, fun x hx => h.own x (hs.subset hx), h.apart.sublist hs⟩
theorem St.perm (h : St w0 T H w) {H' : Heap} (hs : H'.Perm H) : St w0 T H' w := ⟨h.os, h.tape, h.output, h.size, h.old, fun x hx => h.own x (hs.mem_iff.1 hx), hs.symm.pairwise h.apart (fun h e => h e.symm)⟩
theorem St.pick (h : St w0 T H w) {H' : Heap} (hp : Pick H H') : St w0 T H' w := by
  obtain ⟨R, hR⟩ := hp.sub
  exact (h.perm hR.symm).less (List.sublist_append_left _ _)
end
end Go.Proofs.Ytjdeplehhmhpcaa.En
namespace Go.Proofs.Ytjdeplehhmhpcaa.En
open Go.RowKit

/-- What an operation gives, and what it does to the world, frames aside. -/
def Done (P : Program) (r : Result Next) (K : Value → World → Prop) : Prop :=
  match r with
  | .ok (.value v) w' => K v w'
  | .ok .skip w' => K undef w'
  | .ok (.enter f args) w' => CallsF P f args w' fun e w'' => ∃ v, e = .returned v ∧ K v w''
  | _ => False
theorem Done.mono {P : Program} {r : Result Next} {K K' : Value → World → Prop} (h : Done P r K) (hk : ∀ v w, K v w → K' v w) : Done P r K' := by
  unfold Done at *
  split at h
  · exact hk _ _ h
  · exact hk _ _ h
  · exact h.mono fun e w' ⟨v, he, hv⟩ => ⟨v, he, hk _ _ hv⟩
  · exact h.elim
/-- An operation that calls no function. -/
def noFnB (o : Oper) : Bool := match o.op with | .call c => (match c.callee with | .builtin _ => true | _ => false) | .defer _ => false | _ => true
theorem noFn_about {P : Program} {o : Oper} (h : noFnB o = true) (w : World) (ρ : Operand → Value) : o.about P w ρ = none := by
  unfold noFnB at h
  unfold Oper.about
  split at h
  · rename_i c hc
    split at h
    · rename_i b hb
      simp only [hc, resolve, hb]
      rfl
    · cases h
  · cases h
  · rename_i h1 h2
    cases ho : o.op <;> first | rfl | exact absurd ho (h1 _)
/-- What may be left out: it calls a function that there is, or none. -/
def skipB (P : Program) (o : Oper) : Bool := noFnB o || match o.op with | .call ⟨.value (.func f), _, _⟩ => (P.funcs[f]?).isSome | _ => false
theorem skip_about {P : Program} {o : Oper} (h : skipB P o = true) (w : World) (a : Act) : ∀ f, o.about P w a.eval = some f → (P.funcs[f]?).isSome = true := fun f hf => by
  simp only [skipB, Bool.or_eq_true] at h
  rcases h with h | h
  · rw [noFn_about h] at hf; cases hf
  · split at h
    · rename_i g xs ts ho
      simp only [Oper.about, ho, resolve] at hf
      have e : a.eval (.func g) = .func (.func g) #[] #[] := rfl
      rw [e] at hf
      simp [Deferred.ofValue, Target.leads, go_sem] at hf
      rw [← hf]; exact h
    · cases h
theorem exec_defer {P : Program} {o : Oper} {c : Call} (ho : o.op = .defer c) (ρ : Operand → Value) (w : World) {K : Value → World → Prop} (h : Done P ((execOp ρ o).run P w) K) : False := by
  unfold execOp at h
  rw [ho] at h
  simp only [Sem.run_bind] at h
  generalize (resolve ρ c o.type).run P w = q at h
  cases q with
  | ok d w' => exact h
  | halt x w' => exact h
/-- What it does, and that it calls a function that there is. -/
def DoneO (P : Program) (o : Oper) (ρ : Operand → Value) (w : World) (K : Value → World → Prop) : Prop := (∀ f, o.about P w ρ = some f → (P.funcs[f]?).isSome = true) ∧ Done P ((execOp ρ o).run P w) K
theorem DoneO.mono {P : Program} {o : Oper} {ρ : Operand → Value} {w : World} {K K' : Value → World → Prop} (h : DoneO P o ρ w K) (hk : ∀ v w, K v w → K' v w) : DoneO P o ρ w K' := ⟨h.1, h.2.mono hk⟩
theorem doneO {P : Program} {o : Oper} {ρ : Operand → Value} {w : World} {K : Value → World → Prop} (hn : noFnB o = true) (h : Done P ((execOp ρ o).run P w) K) : DoneO P o ρ w K := ⟨fun f hf => (by rw [noFn_about hn] at hf; cases hf), h⟩
theorem wpIn_of_done {r : Option Nat} {P : Program} {o : Oper} {a : Act} {w : World} {K : Value → World → Prop} {K' : Act → World → Prop} {Q : Exit → Act → World → Prop} (h : DoneO P o a.eval w K) (hK : ∀ v w', K v w' → K' (a.put o.dst v) w') : o.wpIn (FF P r) 0 P a w K' Q := by
  refine ⟨h.1, ?_⟩
  replace h := h.2
  have hd : ∀ c, o.op ≠ .defer c := fun c e => exec_defer e a.eval w h
  rw [show (FF P r).round = r from rfl, Oper.semAt_eq r _ _ hd]
  unfold Done at h
  generalize (execOp a.eval o).run P w = q at *
  cases q with
  | ok n w' =>
    cases n with
    | value v => exact hK _ _ h
    | skip => exact hK _ _ h
    | enter f args =>
      refine ⟨fun hh => by simp [FF] at hh, ?_⟩
      refine (CallsIn.mono h ?_ : CallsIn (FF P none) (0 - 1) P f args w' _)
      rintro e w'' ⟨v, rfl, hv⟩
      exact hK _ _ hv
    | _ => exact h.elim
  | halt x w' => exact h.elim

/-- What an operation does wherever as much is known of the frame as E says, and as much of memory as H says. X: what is not known before. -/
def Runs (P : Program) (E : Env) (w0 : World) (T : Nat → Prop) (H : Heap) (o : Oper) {X : Type} (F : X → Prop) (v : X → Value) (H' : X → Heap) : Prop :=
  ∀ (ρ : Operand → Value) (w : World), (∀ x u, x ∈ o.op.operands → Ev E x u → ρ x = u) → St w0 T H w → DoneO P o ρ w fun u w' => ∃ x, F x ∧ u = v x ∧ St w0 T (H' x) w'
def Run1 (P : Program) (E : Env) (w0 : World) (T : Nat → Prop) (H : Heap) (o : Oper) (v : Value) (H' : Heap) : Prop :=
  ∀ (ρ : Operand → Value) (w : World), (∀ x u, x ∈ o.op.operands → Ev E x u → ρ x = u) → St w0 T H w → DoneO P o ρ w fun u w' => u = v ∧ St w0 T H' w'

/-- What an operation does that leaves what was there. -/
def RunB (P : Program) (E : Env) (w0 : World) (T : Nat → Prop) (H : Heap) (o : Oper) (v : Value) : Prop :=
  ∀ (ρ : Operand → Value) (w : World), (∀ x u, x ∈ o.op.operands → Ev E x u → ρ x = u) → St w0 T H w → DoneO P o ρ w fun u w' => u = v ∧ Below w.heap.size w w'
theorem RunB.run1 {P : Program} {E : Env} {w0 : World} {T : Nat → Prop} {H : Heap} {o : Oper} {v : Value} (h : RunB P E w0 T H o v) : Run1 P E w0 T H o v H := fun ρ w hρ hS => (h ρ w hρ hS).mono fun _ _ ⟨h1, h2⟩ => ⟨h1, hS.call h2⟩

/-- Does a guard's value say no, to who waits for b? -/
def noB (v : Value) (b : Bool) : Bool := match v with | .bool c => !(c == b) | _ => true
section
variable {r : Option Nat} {ds : List Deferred} {P : Program} {ops : Array Oper} {Q : Exit → Act → World → Prop} {n : Nat} {E : Env} {w0 : World} {T : Nat → Prop} {H : Heap}
def LW (r : Option Nat) (ds : List Deferred) (P : Program) (ops : Array Oper) (Q : Exit → Act → World → Prop) (l : List Oper) (n : Nat) (E : Env) (w0 : World) (T : Nat → Prop) (H : Heap) : Prop :=
  ∀ a w, Fr ds n E a → St w0 T H w → wpListIn (FF P r) 0 P ops Q l a w
def CW (r : Option Nat) (ds : List Deferred) (P : Program) (Q : Exit → Act → World → Prop) (c : Code) (n : Nat) (E : Env) (w0 : World) (T : Nat → Prop) (H : Heap) : Prop :=
  ∀ a w, Fr ds n E a → St w0 T H w → c.wpIn (FF P r) 0 P Q a w
def XW (ds : List Deferred) (Q : Exit → Act → World → Prop) (e : Exit) (n : Nat) (E : Env) (w0 : World) (T : Nat → Prop) (H : Heap) : Prop :=
  ∀ a w, Fr ds n E a → St w0 T H w → Q e a w

/-! An operation, where operations come in their order. -/
theorem lstep {o : Oper} {l : List Oper} {d : Nat} {X : Type} {F : X → Prop} {v : X → Value} {H' : X → Heap} (hg : o.guard = none) (hd : o.dst = some d) (hn : Nat.blt d n = true) (hr : Runs P E w0 T H o F v H')
    (k : ∀ x, F x → LW r ds P ops Q l n ((d, v x) :: E) w0 T (H' x)) : LW r ds P ops Q (o :: l) n E w0 T H := fun a w hF hS => by
  refine wpListIn_plain hg fun K hK => wpIn_of_done (hr a.eval w (fun x u _ hx => hF.ev hx) hS) fun u w' hu => ?_
  obtain ⟨x, hx, rfl, hS'⟩ := hu
  refine hK _ _ (k x hx _ _ ?_ hS')
  rw [hd]
  exact hF.put hn _
theorem lstep1 {o : Oper} {l : List Oper} {d : Nat} {v : Value} {H' : Heap} (hg : o.guard = none) (hd : o.dst = some d) (hn : Nat.blt d n = true) (hr : Run1 P E w0 T H o v H')
    (k : LW r ds P ops Q l n ((d, v) :: E) w0 T H') : LW r ds P ops Q (o :: l) n E w0 T H := fun a w hF hS => by
  refine wpListIn_plain hg fun K hK => wpIn_of_done (hr a.eval w (fun x u _ hx => hF.ev hx) hS) fun u w' hu => ?_
  obtain ⟨rfl, hS'⟩ := hu
  refine hK _ _ (k _ _ ?_ hS')
  rw [hd]
  exact hF.put hn _
theorem lstep0 {o : Oper} {l : List Oper} {v : Value} {H' : Heap} (hg : o.guard = none) (hd : o.dst = none) (hr : Run1 P E w0 T H o v H')
    (k : LW r ds P ops Q l n E w0 T H') : LW r ds P ops Q (o :: l) n E w0 T H := fun a w hF hS => by
  refine wpListIn_plain hg fun K hK => wpIn_of_done (hr a.eval w (fun x u _ hx => hF.ev hx) hS) fun u w' hu => ?_
  obtain ⟨rfl, hS'⟩ := hu
  refine hK _ _ (k _ _ ?_ hS')
  rw [hd]
  exact hF
theorem yielded_of {a : Act} (hF : Fr ds n E a) {g t : Nat} {b : Bool} (ht : (ops[g]?).bind (·.dst) = some t) (hv : look t E = some (.bool b)) (hn : Nat.blt t n = true) : yielded ops a.tmps g = some b := by
  have h1 := hF.get t _ hv
  have hlt : t < a.tmps.size := by rw [hF.size]; simpa using hn
  unfold yielded
  rw [ht]
  simp only [Array.getD_eq_getD_getElem?, Array.getElem?_eq_getElem hlt, Option.getD_some] at h1
  simp [Array.getElem?_eq_getElem hlt, h1]
theorem lstepB {o : Oper} {l : List Oper} {d : Nat} {v : Value} (hg : o.guard = none) (hd : o.dst = some d) (hn : Nat.blt d n = true) (hr : RunB P E w0 T H o v)
    (k : LW r ds P ops Q l n ((d, v) :: E) w0 T H) : LW r ds P ops Q (o :: l) n E w0 T H := lstep1 hg hd hn hr.run1 k
/-- An operation with a guard that says yes. -/
theorem lstep1g {o : Oper} {l : List Oper} {d g t : Nat} {b : Bool} {v : Value} {H' : Heap} (hg : o.guard = some (g, b)) (ht : (ops[g]?).bind (·.dst) = some t) (hb : look t E = some (.bool b)) (htn : Nat.blt t n = true) (hd : o.dst = some d) (hn : Nat.blt d n = true) (hr : Run1 P E w0 T H o v H')
    (k : LW r ds P ops Q l n ((d, v) :: E) w0 T H') : LW r ds P ops Q (o :: l) n E w0 T H := fun a w hF hS => by
  unfold wpListIn
  rw [if_pos (by simp [Region.wanted, hg, yielded_of hF ht hb htn])]
  refine (wpIn_of_done (hr a.eval w (fun x u _ hx => hF.ev hx) hS) fun u w' hu => ?_)
  obtain ⟨rfl, hS'⟩ := hu
  refine k _ _ ?_ hS'
  rw [hd]
  exact hF.put hn _
theorem lstepBg {o : Oper} {l : List Oper} {d g t : Nat} {b : Bool} {v : Value} (hg : o.guard = some (g, b)) (ht : (ops[g]?).bind (·.dst) = some t) (hb : look t E = some (.bool b)) (htn : Nat.blt t n = true) (hd : o.dst = some d) (hn : Nat.blt d n = true) (hr : RunB P E w0 T H o v)
    (k : LW r ds P ops Q l n ((d, v) :: E) w0 T H) : LW r ds P ops Q (o :: l) n E w0 T H := lstep1g hg ht hb htn hd hn hr.run1 k
theorem lstepg {o : Oper} {l : List Oper} {d g t : Nat} {b : Bool} {X : Type} {F : X → Prop} {v : X → Value} {H' : X → Heap} (hg : o.guard = some (g, b)) (ht : (ops[g]?).bind (·.dst) = some t) (hb : look t E = some (.bool b)) (htn : Nat.blt t n = true) (hd : o.dst = some d) (hn : Nat.blt d n = true) (hr : Runs P E w0 T H o F v H')
    (k : ∀ x, F x → LW r ds P ops Q l n ((d, v x) :: E) w0 T (H' x)) : LW r ds P ops Q (o :: l) n E w0 T H := fun a w hF hS => by
  unfold wpListIn
  rw [if_pos (by simp [Region.wanted, hg, yielded_of hF ht hb htn])]
  refine (wpIn_of_done (hr a.eval w (fun x u _ hx => hF.ev hx) hS) fun u w' hu => ?_)
  obtain ⟨x, hx, rfl, hS'⟩ := hu
  refine k x hx _ _ ?_ hS'
  rw [hd]
  exact hF.put hn _
theorem not_yielded {a : Act} (hF : Fr ds n E a) {g t : Nat} {b : Bool} {v : Value} (ht : (ops[g]?).bind (·.dst) = some t) (hv : look t E = some v) (hn : Nat.blt t n = true) (hc : noB v b = true) : (yielded ops a.tmps g == some b) = false := by
  have h1 := hF.get t _ hv
  have hlt : t < a.tmps.size := by rw [hF.size]; simpa using hn
  unfold yielded
  rw [ht]
  simp only [Array.getD_eq_getD_getElem?, Array.getElem?_eq_getElem hlt, Option.getD_some] at h1
  simp only [Option.bind_some, Array.getElem?_eq_getElem hlt, h1]
  cases v <;> first | rfl | (simpa [noB] using hc)
theorem lskip {o : Oper} {l : List Oper} {d g t : Nat} {b : Bool} {v : Value} (hg : o.guard = some (g, b)) (ht : (ops[g]?).bind (·.dst) = some t) (hb : look t E = some v) (htn : Nat.blt t n = true) (hc : noB v b = true) (hd : o.dst = some d) (hn : Nat.blt d n = true)
    (k : LW r ds P ops Q l n ((d, undef) :: E) w0 T H) (hs : skipB P o = true := by first | rfl | kernel_rfl) : LW r ds P ops Q (o :: l) n E w0 T H := fun a w hF hS => by
  unfold wpListIn
  rw [if_neg (by simp only [Region.wanted, hg, not_yielded hF ht hb htn hc]; exact Bool.false_ne_true)]
  refine ⟨skip_about hs _ _, k _ _ ?_ hS⟩
  rw [hd]
  exact hF.put hn _
/-- An operation that is done, whatever its guard. -/
def LG (r : Option Nat) (ds : List Deferred) (P : Program) (ops : Array Oper) (Q : Exit → Act → World → Prop) (o : Oper) (l : List Oper) (n : Nat) (E : Env) (w0 : World) (T : Nat → Prop) (H : Heap) : Prop :=
  ∀ a w, Fr ds n E a → St w0 T H w → o.wpIn (FF P r) 0 P a w (wpListIn (FF P r) 0 P ops Q l) Q
theorem lyes {o : Oper} {l : List Oper} {g t : Nat} {b : Bool} (hg : o.guard = some (g, b)) (ht : (ops[g]?).bind (·.dst) = some t) (hb : look t E = some (.bool b)) (htn : Nat.blt t n = true) (k : LG r ds P ops Q o l n E w0 T H) : LW r ds P ops Q (o :: l) n E w0 T H := fun a w hF hS => by
  unfold wpListIn
  rw [if_pos (by simp [Region.wanted, hg, yielded_of hF ht hb htn])]
  exact k a w hF hS
theorem gstepB {o : Oper} {l : List Oper} {d : Nat} {v : Value} (hd : o.dst = some d) (hn : Nat.blt d n = true) (hr : RunB P E w0 T H o v) (k : LW r ds P ops Q l n ((d, v) :: E) w0 T H) : LG r ds P ops Q o l n E w0 T H := fun a w hF hS => by
  refine wpIn_of_done (hr.run1 a.eval w (fun x u _ hx => hF.ev hx) hS) fun u w' hu => ?_
  obtain ⟨rfl, hS'⟩ := hu
  refine k _ _ ?_ hS'
  rw [hd]
  exact hF.put hn _
theorem gstep1 {o : Oper} {l : List Oper} {d : Nat} {v : Value} {H' : Heap} (hd : o.dst = some d) (hn : Nat.blt d n = true) (hr : Run1 P E w0 T H o v H') (k : LW r ds P ops Q l n ((d, v) :: E) w0 T H') : LG r ds P ops Q o l n E w0 T H := fun a w hF hS => by
  refine wpIn_of_done (hr a.eval w (fun x u _ hx => hF.ev hx) hS) fun u w' hu => ?_
  obtain ⟨rfl, hS'⟩ := hu
  refine k _ _ ?_ hS'
  rw [hd]
  exact hF.put hn _
theorem gstep {o : Oper} {l : List Oper} {d : Nat} {X : Type} {F : X → Prop} {v : X → Value} {H' : X → Heap} (hd : o.dst = some d) (hn : Nat.blt d n = true) (hr : Runs P E w0 T H o F v H') (k : ∀ x, F x → LW r ds P ops Q l n ((d, v x) :: E) w0 T (H' x)) : LG r ds P ops Q o l n E w0 T H := fun a w hF hS => by
  refine wpIn_of_done (hr a.eval w (fun x u _ hx => hF.ev hx) hS) fun u w' hu => ?_
  obtain ⟨x, hx, rfl, hS'⟩ := hu
  refine k x hx _ _ ?_ hS'
  rw [hd]
  exact hF.put hn _
/-- What a guard says is either. -/
theorem lsplit {l : List Oper} (b : Bool) {p : Prop} (h : b = true → LW r ds P ops Q l n E w0 T H) (h' : b = false → LW r ds P ops Q l n E w0 T H) : LW r ds P ops Q l n E w0 T H := by
  cases b
  · exact h' rfl
  · exact h rfl
theorem lnil (k : XW ds Q .normal n E w0 T H) : LW r ds P ops Q [] n E w0 T H := fun a w hF hS => wpListIn_nil (k a w hF hS)

/-! Code. -/
theorem cw_region {id : Nat} {l : List Oper} (k : LW r ds P l.toArray Q l n E w0 T H) : CW r ds P Q (.region id l.toArray false) n E w0 T H := fun a w hF hS => wpIn_region_lit (k a w hF hS)
theorem cw_seq {x y : Code} (k : CW r ds P (Exit.then (y.wpIn (FF P r) 0 P Q) Q) x n E w0 T H) : CW r ds P Q (.seq x y) n E w0 T H := fun a w hF hS => wpIn_seq (k a w hF hS)
theorem cw_block {id : Nat} {c : Code} (k : CW r ds P (Exit.inBlock id Q) c n E w0 T H) : CW r ds P Q (.block id c) n E w0 T H := fun a w hF hS => wpIn_block (k a w hF hS)
theorem cw_skip (k : XW ds Q .normal n E w0 T H) : CW r ds P Q .skip n E w0 T H := fun a w hF hS => wpIn_skip (k a w hF hS)
theorem cw_exit {id : Nat} (k : XW ds Q (.exit id) n E w0 T H) : CW r ds P Q (.exit id) n E w0 T H := fun a w hF hS => wpIn_exit (k a w hF hS)
theorem cw_ret (k : XW ds Q .ret n E w0 T H) : CW r ds P Q .ret n E w0 T H := fun a w hF hS => wpIn_ret (k a w hF hS)
theorem cw_cond_true {c : Operand} {x y : Code} (h : Ev E c (.bool true)) (k : CW r ds P Q x n E w0 T H) : CW r ds P Q (.cond c x y) n E w0 T H := fun a w hF hS => wpIn_cond_true (hF.ev h) (k a w hF hS)
theorem cw_cond_false {c : Operand} {x y : Code} (h : Ev E c (.bool false)) (k : CW r ds P Q y n E w0 T H) : CW r ds P Q (.cond c x y) n E w0 T H := fun a w hF hS => wpIn_cond_false (hF.ev h) (k a w hF hS)
theorem cw_cond {c : Operand} {x y : Code} {t : Bool} (h : Ev E c (.bool t)) (k1 : t = true → CW r ds P Q x n E w0 T H) (k2 : t = false → CW r ds P Q y n E w0 T H) : CW r ds P Q (.cond c x y) n E w0 T H := fun a w hF hS =>
  wpIn_cond_split (hF.ev h) (fun e => k1 e a w hF hS) (fun e => k2 e a w hF hS)
theorem cw_cond_p {c : Operand} {x y : Code} {p : Prop} [Decidable p] (h : Ev E c (.bool (decide p))) (k1 : p → CW r ds P Q x n E w0 T H) (k2 : ¬ p → CW r ds P Q y n E w0 T H) : CW r ds P Q (.cond c x y) n E w0 T H :=
  cw_cond h (fun e => k1 (of_decide_eq_true e)) (fun e => k2 (of_decide_eq_false e))
theorem cw_less {c : Code} {E' : Env} (h : Less E E') (k : CW r ds P Q c n E' w0 T H) : CW r ds P Q c n E w0 T H := fun a w hF hS => k a w (hF.less h) hS
theorem cw_drop {c : Code} {H' : Heap} (h : Pick H H') (k : CW r ds P Q c n E w0 T H') : CW r ds P Q c n E w0 T H := fun a w hF hS => k a w hF (hS.pick h)
theorem xw_then {y : Code} (k : CW r ds P Q y n E w0 T H) : XW ds (Exit.then (y.wpIn (FF P r) 0 P Q) Q) .normal n E w0 T H := k
theorem xw_then_ret {K : Act → World → Prop} (k : XW ds Q .ret n E w0 T H) : XW ds (Exit.then K Q) .ret n E w0 T H := k
theorem xw_then_exit {K : Act → World → Prop} {id : Nat} (k : XW ds Q (.exit id) n E w0 T H) : XW ds (Exit.then K Q) (.exit id) n E w0 T H := k
theorem xw_in {id : Nat} (k : XW ds Q .normal n E w0 T H) : XW ds (Exit.inBlock id Q) .normal n E w0 T H := k
theorem xw_in_ret {id : Nat} (k : XW ds Q .ret n E w0 T H) : XW ds (Exit.inBlock id Q) .ret n E w0 T H := k
theorem xw_in_exit {id : Nat} (k : XW ds Q .normal n E w0 T H) : XW ds (Exit.inBlock id Q) (.exit id) n E w0 T H := fun a w hF hS => by
  show (if id = id then _ else _)
  rw [if_pos rfl]; exact k a w hF hS
theorem xw_in_other {id j : Nat} (hj : Nat.beq j id = false) (k : XW ds Q (.exit j) n E w0 T H) : XW ds (Exit.inBlock id Q) (.exit j) n E w0 T H := fun a w hF hS => by
  show (if j = id then _ else _)
  rw [if_neg (fun e => by subst e; simp at hj)]; exact k a w hF hS
/-- A loop: what is known at its head, in each of some states (Ec: what does not change); each round goes on with less. -/
theorem cw_loop {c : Code} {S : Type} (Ei : S → Env) (Ec : Env) (Hi : S → Heap) (F : S → Prop) (μ : S → Nat) (s0 : S) (hF0 : F s0) (hE : Less E (Ei s0 ++ Ec)) (hH : Pick H (Hi s0))
    (round : ∀ s, F s → CW r ds P (Exit.then (fun a w => ∃ s', F s' ∧ μ s' < μ s ∧ Fr ds n (Ei s' ++ Ec) a ∧ St w0 T (Hi s') w) Q) c n (Ei s ++ Ec) w0 T (Hi s)) : CW r ds P Q (.loop c) n E w0 T H := fun a w hF hS => by
  refine wpIn_loop_ghost (fun k a w => ∃ s, F s ∧ μ s = k ∧ Fr ds n (Ei s ++ Ec) a ∧ St w0 T (Hi s) w) (μ s0) ⟨s0, hF0, rfl, hF.less hE, hS.pick hH⟩ ?_
  rintro k a w ⟨s, hs, rfl, hF', hS'⟩
  refine wpIn_mono (round s hs a w hF' hS') ?_
  intro e a' w' hq
  cases e with
  | normal =>
    obtain ⟨s', h1, h2, h3, h4⟩ := hq
    exact ⟨μ s', h2, s', h1, rfl, h3, h4⟩
  | exit id => exact hq
  | goto l => exact hq
  | ret => exact hq
  | panic ch => exact hq
  | outgrown => exact hq
theorem xw_round {S : Type} {Ei : S → Env} {Hi : S → Heap} {F : S → Prop} {μ : S → Nat} {m : Nat} (s' : S) (hF : F s') (hμ : μ s' < m) (hE : Less E (Ei s')) (hH : Pick H (Hi s')) :
    XW ds (Exit.then (fun a w => ∃ s', F s' ∧ μ s' < m ∧ Fr ds n (Ei s') a ∧ St w0 T (Hi s') w) Q) .normal n E w0 T H := fun _ _ hF' hS => ⟨s', hF, hμ, hF'.less hE, hS.pick hH⟩
/-- Ways meet again: what is known where they meet, in each of some states. -/
theorem cw_meet {x y : Code} {S : Type} (Ei : S → Env) (Ec : Env) (Hi : S → Heap) (F : S → Prop) (hE : Less E Ec) (first : CW r ds P (Exit.then (fun a w => ∃ s, F s ∧ Fr ds n (Ei s ++ Ec) a ∧ St w0 T (Hi s) w) Q) x n E w0 T H)
    (rest : ∀ s, F s → CW r ds P Q y n (Ei s ++ Ec) w0 T (Hi s)) : CW r ds P Q (.seq x y) n E w0 T H := fun a w hF hS => by
  refine wpIn_seq (wpIn_mono (first a w hF hS) ?_)
  intro e a' w' hq
  cases e with
  | normal =>
    obtain ⟨s, h1, h2, h3⟩ := hq
    exact rest s h1 a' w' h2 h3
  | exit id => exact hq
  | goto l => exact hq
  | ret => exact hq
  | panic ch => exact hq
  | outgrown => exact hq
theorem xw_meet {S : Type} {Ei : S → Env} {Hi : S → Heap} {F : S → Prop} (s : S) (hF : F s) (hE : Less E (Ei s)) (hH : Pick H (Hi s)) :
    XW ds (Exit.then (fun a w => ∃ s, F s ∧ Fr ds n (Ei s) a ∧ St w0 T (Hi s) w) Q) .normal n E w0 T H := fun _ _ hF' hS => ⟨s, hF, hF'.less hE, hS.pick hH⟩

inductive Fill : Nat → List Value → Env → Prop
  | nil {i : Nat} : Fill i [] []
  | cons {i : Nat} {v : Value} {l : List Value} {r : Env} : Fill (i + 1) l r → Fill i (v :: l) ((i, v) :: r)
theorem Fill.get {i : Nat} {l : List Value} {r : Env} (h : Fill i l r) : ∀ t v, look t r = some v → i ≤ t ∧ l[t - i]? = some v := by
  induction h with
  | nil => intro t v h; cases h
  | @cons i v l r _ ih =>
    intro t u h
    by_cases e : t = i
    · subst e; rw [look_self] at h; cases h; simp
    · rw [look_other e] at h
      obtain ⟨h1, h2⟩ := ih t u h
      refine ⟨by omega, ?_⟩
      rw [show t - i = (t - (i + 1)) + 1 by omega]
      simpa using h2
end
end Go.Proofs.Ytjdeplehhmhpcaa.En
namespace Go.Proofs.Ytjdeplehhmhpcaa.En
open Go.RowKit

section
variable {P : Program} {E : Env} {w0 : World} {T : Nat → Prop} {H : Heap} {d : Option Tmp} {ty : TypeId} {pos : String} {af : Array Edge} {g : Option (Nat × Bool)} {x y z : Operand} {v u : Value} {k : IntKind} {a b c : Int} {p q : Bool} {tx tyy : TypeId}

theorem run_move (hx : Ev E x v) : RunB P E w0 T H ⟨d, .move x, ty, pos, af, g⟩ v := fun ρ w hρ _ => by
  refine doneO rfl ?_
  have e := hρ x v (by simp [Op.operands]) hx
  simp [execOp, e, Done, go_sem, Below.refl]
theorem run_assign (hx : Ev E x v) : RunB P E w0 T H ⟨d, .assign x, ty, pos, af, g⟩ v := fun ρ w hρ _ => by
  refine doneO rfl ?_
  have e := hρ x v (by simp [Op.operands]) hx
  simp [execOp, e, Done, go_sem, Below.refl]
theorem run_pick_true (hx : Ev E x (.bool true)) (hy : Ev E y v) : RunB P E w0 T H ⟨d, .pick x y z, ty, pos, af, g⟩ v := fun ρ w hρ _ => by
  refine doneO rfl ?_
  have e := hρ x _ (by simp [Op.operands]) hx
  have e' := hρ y _ (by simp [Op.operands]) hy
  simp [execOp, e, e', Done, go_sem, Below.refl]
theorem run_pick_false (hx : Ev E x (.bool false)) (hz : Ev E z v) : RunB P E w0 T H ⟨d, .pick x y z, ty, pos, af, g⟩ v := fun ρ w hρ _ => by
  refine doneO rfl ?_
  have e := hρ x _ (by simp [Op.operands]) hx
  have e' := hρ z _ (by simp [Op.operands]) hz
  simp [execOp, e, e', Done, go_sem, Below.refl]
theorem run_extract {vs : List Value} {i : Nat} (hx : Ev E x (.tuple vs.toArray)) (hi : vs[i]? = some v) : RunB P E w0 T H ⟨d, .extract x i, ty, pos, af, g⟩ v := fun ρ w hρ _ => by
  refine doneO rfl ?_
  have e := hρ x _ (by simp [Op.operands]) hx
  simp [execOp, e, Done, go_sem, Below.refl, Instr.extract, hi]
theorem run_not (hx : Ev E x (.bool p)) (hp : (!p) = q) : RunB P E w0 T H ⟨d, .unOp .not tx x, ty, pos, af, g⟩ (.bool q) := fun ρ w hρ _ => by
  refine doneO rfl ?_
  have e := hρ x _ (by simp [Op.operands]) hx
  subst hp
  simp [execOp, e, Done, go_sem, Below.refl]
theorem run_add (hx : Ev E x (.int k a)) (hy : Ev E y (.int k b)) (h : k.wrap (a + b) = c) : RunB P E w0 T H ⟨d, .binOp .add tx x y tyy, ty, pos, af, g⟩ (.int k c) := fun ρ w hρ _ => by
  refine doneO rfl ?_
  have e := hρ x _ (by simp [Op.operands]) hx
  have e' := hρ y _ (by simp [Op.operands]) hy
  subst h
  simp [execOp, e, e', Done, go_sem, Below.refl, eqGuard, binOp, Op.intArith]
theorem run_sub (hx : Ev E x (.int k a)) (hy : Ev E y (.int k b)) (h : k.wrap (a - b) = c) : RunB P E w0 T H ⟨d, .binOp .sub tx x y tyy, ty, pos, af, g⟩ (.int k c) := fun ρ w hρ _ => by
  refine doneO rfl ?_
  have e := hρ x _ (by simp [Op.operands]) hx
  have e' := hρ y _ (by simp [Op.operands]) hy
  subst h
  simp [execOp, e, e', Done, go_sem, Below.refl, eqGuard, binOp, Op.intArith]
theorem run_mul (hx : Ev E x (.int k a)) (hy : Ev E y (.int k b)) (h : k.wrap (a * b) = c) : RunB P E w0 T H ⟨d, .binOp .mul tx x y tyy, ty, pos, af, g⟩ (.int k c) := fun ρ w hρ _ => by
  refine doneO rfl ?_
  have e := hρ x _ (by simp [Op.operands]) hx
  have e' := hρ y _ (by simp [Op.operands]) hy
  subst h
  simp [execOp, e, e', Done, go_sem, Below.refl, eqGuard, binOp, Op.intArith]
theorem run_lss (hx : Ev E x (.int k a)) (hy : Ev E y (.int k b)) (h : decide (a < b) = p) : RunB P E w0 T H ⟨d, .binOp .lss tx x y tyy, ty, pos, af, g⟩ (.bool p) := fun ρ w hρ _ => by
  refine doneO rfl ?_
  have e := hρ x _ (by simp [Op.operands]) hx
  have e' := hρ y _ (by simp [Op.operands]) hy
  subst h
  simp [execOp, e, e', Done, go_sem, Below.refl, eqGuard, binOp, Op.intCmp]
theorem run_leq (hx : Ev E x (.int k a)) (hy : Ev E y (.int k b)) (h : decide (a ≤ b) = p) : RunB P E w0 T H ⟨d, .binOp .leq tx x y tyy, ty, pos, af, g⟩ (.bool p) := fun ρ w hρ _ => by
  refine doneO rfl ?_
  have e := hρ x _ (by simp [Op.operands]) hx
  have e' := hρ y _ (by simp [Op.operands]) hy
  subst h
  simp [execOp, e, e', Done, go_sem, Below.refl, eqGuard, binOp, Op.intCmp]
theorem run_gtr (hx : Ev E x (.int k a)) (hy : Ev E y (.int k b)) (h : decide (b < a) = p) : RunB P E w0 T H ⟨d, .binOp .gtr tx x y tyy, ty, pos, af, g⟩ (.bool p) := fun ρ w hρ _ => by
  refine doneO rfl ?_
  have e := hρ x _ (by simp [Op.operands]) hx
  have e' := hρ y _ (by simp [Op.operands]) hy
  subst h
  simp [execOp, e, e', Done, go_sem, Below.refl, eqGuard, binOp, Op.intCmp]
theorem run_geq (hx : Ev E x (.int k a)) (hy : Ev E y (.int k b)) (h : decide (b ≤ a) = p) : RunB P E w0 T H ⟨d, .binOp .geq tx x y tyy, ty, pos, af, g⟩ (.bool p) := fun ρ w hρ _ => by
  refine doneO rfl ?_
  have e := hρ x _ (by simp [Op.operands]) hx
  have e' := hρ y _ (by simp [Op.operands]) hy
  subst h
  simp [execOp, e, e', Done, go_sem, Below.refl, eqGuard, binOp, Op.intCmp]
theorem run_eql (hx : Ev E x (.int k a)) (hy : Ev E y (.int k b)) (h : decide (a = b) = p) : RunB P E w0 T H ⟨d, .binOp .eql tx x y tyy, ty, pos, af, g⟩ (.bool p) := fun ρ w hρ _ => by
  refine doneO rfl ?_
  have e := hρ x _ (by simp [Op.operands]) hx
  have e' := hρ y _ (by simp [Op.operands]) hy
  subst h
  simp [execOp, e, e', Done, go_sem, Below.refl, eqGuard, binOp, Op.intCmp]
  by_cases h : a = b <;> simp [h]
theorem run_neq (hx : Ev E x (.int k a)) (hy : Ev E y (.int k b)) (h : decide (a ≠ b) = p) : RunB P E w0 T H ⟨d, .binOp .neq tx x y tyy, ty, pos, af, g⟩ (.bool p) := fun ρ w hρ _ => by
  refine doneO rfl ?_
  have e := hρ x _ (by simp [Op.operands]) hx
  have e' := hρ y _ (by simp [Op.operands]) hy
  subst h
  simp [execOp, e, e', Done, go_sem, Below.refl, eqGuard, binOp, Op.intCmp]
  by_cases h : a = b <;> simp [h]
theorem run_rem_nat {a b : Nat} (hx : Ev E x (.int k (a : Int))) (hy : Ev E y (.int k (b : Int))) (h1 : 0 < b) : RunB P E w0 T H ⟨d, .binOp .rem tx x y tyy, ty, pos, af, g⟩ (.int k ((a % b : Nat) : Int)) := fun ρ w hρ _ => by
  refine doneO rfl ?_
  have e := hρ x _ (by simp [Op.operands]) hx
  have e' := hρ y _ (by simp [Op.operands]) hy
  have hb : b ≠ 0 := by omega
  have h2 : ((a : Int).tmod b) = ((a % b : Nat) : Int) := by rw [Int.tmod_eq_emod_of_nonneg (by omega)]; simp
  simp [execOp, e, e', Done, go_sem, Below.refl, eqGuard, binOp, Op.intDiv, hb, h2]
theorem run_neg (hx : Ev E x (.int k a)) (h : k.wrap (-a) = c) : RunB P E w0 T H ⟨d, .unOp .neg tx x, ty, pos, af, g⟩ (.int k c) := fun ρ w hρ _ => by
  refine doneO rfl ?_
  have e := hρ x _ (by simp [Op.operands]) hx
  subst h
  simp [execOp, e, Done, go_sem, Below.refl]
theorem run_rem (hx : Ev E x (.int k a)) (hy : Ev E y (.int k b)) (h0 : 0 ≤ a) (h1 : 0 < b) : RunB P E w0 T H ⟨d, .binOp .rem tx x y tyy, ty, pos, af, g⟩ (.int k (a % b)) := fun ρ w hρ _ => by
  refine doneO rfl ?_
  have e := hρ x _ (by simp [Op.operands]) hx
  have e' := hρ y _ (by simp [Op.operands]) hy
  have hb : b ≠ 0 := by omega
  simp [execOp, e, e', Done, go_sem, Below.refl, eqGuard, binOp, Op.intDiv, hb, Int.tmod_eq_emod_of_nonneg h0]
def boolB (P : Program) (t : TypeId) : Bool := match P.underlying t with | some .bool => true | _ => false
theorem run_equalIn_bool (hb : boolB P tx = true) (m : Nat) (w : World) : (Op.equalIn (m + 1) tx (.bool p) (.bool q)).run P w = .ok (p == q) w := by
  unfold boolB at hb
  split at hb
  · rename_i hu
    simp [Op.equalIn, run_underlying hu, go_sem]
  · cases hb
theorem run_equal_bool (hb : boolB P tx = true) (w : World) : (Op.equal tx (.bool p) (.bool q)).run P w = .ok (p == q) w := by
  simp only [Op.equal, Op.maxDepth]
  exact run_equalIn_bool hb 9999 w
theorem run_eql_bool (hx : Ev E x (.bool p)) (hy : Ev E y (.bool q)) (hb : boolB P tx = true) {r : Bool} (h : (p == q) = r) : RunB P E w0 T H ⟨d, .binOp .eql tx x y tyy, ty, pos, af, g⟩ (.bool r) := fun ρ w hρ _ => by
  refine doneO rfl ?_
  have e := hρ x _ (by simp [Op.operands]) hx
  have e' := hρ y _ (by simp [Op.operands]) hy
  have h1 := run_equal_bool (p := p) (q := q) hb w
  subst h
  simp [execOp, e, e', Done, go_sem, Below.refl, binOp, h1]
theorem run_neq_bool (hx : Ev E x (.bool p)) (hy : Ev E y (.bool q)) (hb : boolB P tx = true) {r : Bool} (h : (!(p == q)) = r) : RunB P E w0 T H ⟨d, .binOp .neq tx x y tyy, ty, pos, af, g⟩ (.bool r) := fun ρ w hρ _ => by
  refine doneO rfl ?_
  have e := hρ x _ (by simp [Op.operands]) hx
  have e' := hρ y _ (by simp [Op.operands]) hy
  have h1 := run_equal_bool (p := p) (q := q) hb w
  subst h
  simp [execOp, e, e', Done, go_sem, Below.refl, binOp, h1]
theorem run_eqGuard_agg {u v : Array Value} (op : BinOp) (hg : P.eqGuardType P.depth tx = false) (w : World) : (eqGuard op tx x y (.agg u) (.agg v)).run P w = .ok () w := by
  cases op <;> simp [eqGuard, go_sem] <;> (intro h; rw [hg] at h; cases h)
/-- Structs and arrays: what their comparison gives is shown once for a type. -/
theorem run_eql_agg {u v : Array Value} {op : BinOp} {r : Bool} (hx : Ev E x (.agg u)) (hy : Ev E y (.agg v)) (hg : P.eqGuardType P.depth tx = false) (h : ∀ w, (binOp op tx (.agg u) (.agg v)).run P w = .ok (.bool r) w) : RunB P E w0 T H ⟨d, .binOp op tx x y tyy, ty, pos, af, g⟩ (.bool r) := fun ρ w hρ _ => by
  refine doneO rfl ?_
  have e := hρ x _ (by simp [Op.operands]) hx
  have e' := hρ y _ (by simp [Op.operands]) hy
  have h1 := h w
  have h2 := run_eqGuard_agg (x := x) (y := y) (u := u) (v := v) op hg w
  simp [execOp, e, e', Done, Below.refl, h1, h2]
end
end Go.Proofs.Ytjdeplehhmhpcaa.En
namespace Go.Proofs.Ytjdeplehhmhpcaa.En
open Go.RowKit

/-- Is a type's value one of several cells? -/
def kindB (P : Program) (t : TypeId) : Option Bool :=
  match P.underlying t with
  | some (.struct _) | some (.array _ _) => some true
  | some _ => some false
  | none => none
def sizeB (P : Program) (t : TypeId) : Option Nat := (P.info? t).map (·.size)
def zeroB (P : Program) (t : TypeId) : Option (List Value) := ((P.info? t).bind (·.zero)).map (·.cells.toList)
def plainV : Value → Bool
  | .agg _ | .tuple _ => false
  | _ => true
/-- Some cells of a list. -/
inductive Sub : List Value → Nat → Nat → List Value → Prop
  | done {r : List Value} : Sub r 0 0 []
  | take {x : Value} {r : List Value} {k : Nat} {l : List Value} : Sub r 0 k l → Sub (x :: r) 0 (k + 1) (x :: l)
  | skip {x : Value} {r : List Value} {o k : Nat} {l : List Value} : Sub r o k l → Sub (x :: r) (o + 1) k l
theorem Sub.spec {cs l : List Value} {o k : Nat} (h : Sub cs o k l) : l.length = k ∧ ∀ j v, l[j]? = some v → cs[o + j]? = some v := by
  induction h with
  | done => exact ⟨rfl, fun j v h => by simp at h⟩
  | take _ ih =>
    refine ⟨by simp [ih.1], fun j v h => ?_⟩
    cases j with
    | zero => simpa using h
    | succ j => have := ih.2 j v (by simpa using h); rw [show 0 + (j + 1) = (0 + j) + 1 by omega]; simpa using this
  | @skip x r o k l _ ih =>
    refine ⟨ih.1, fun j v h => ?_⟩
    have := ih.2 j v h
    rw [show o + 1 + j = (o + j) + 1 by omega]; simpa using this
/-- Some cells of a list turned into other ones. -/
inductive Put : List Value → Nat → List Value → List Value → Prop
  | done {r : List Value} : Put r 0 [] r
  | put {x v : Value} {r l r' : List Value} : Put r 0 l r' → Put (x :: r) 0 (v :: l) (v :: r')
  | skip {x : Value} {r l r' : List Value} {o : Nat} : Put r o l r' → Put (x :: r) (o + 1) l (x :: r')
def setAll : List Value → Nat → List Value → List Value
  | cs, _, [] => cs
  | cs, o, v :: l => setAll (cs.set o v) (o + 1) l
theorem setAll_cons (x : Value) : ∀ (l cs : List Value) (o : Nat), setAll (x :: cs) (o + 1) l = x :: setAll cs o l
  | [], _, _ => rfl
  | v :: l, cs, o => by rw [setAll, List.set_cons_succ, setAll_cons x l (cs.set o v) (o + 1)]; rfl
theorem Put.spec {cs l cs' : List Value} {o : Nat} (h : Put cs o l cs') : o + l.length ≤ cs.length ∧ cs' = setAll cs o l := by
  induction h with
  | done => exact ⟨by simp, rfl⟩
  | put _ ih =>
    refine ⟨by have := ih.1; simp at this ⊢; omega, ?_⟩
    rw [ih.2, setAll, List.set_cons_zero, setAll_cons]
  | skip _ ih =>
    refine ⟨by have := ih.1; simp at this ⊢; omega, ?_⟩
    rw [ih.2, setAll_cons]

section
variable {P : Program} {E : Env} {w0 w : World} {T : Nat → Prop} {H : Heap} {d : Option Tmp} {t ty : TypeId} {pos : String} {af : Array Edge} {g : Option (Nat × Bool)} {x y z : Operand} {v u : Value} {b off : Nat}

theorem run_isAgg {k : Bool} (h : kindB P t = some k) (w : World) : (isAgg t).run P w = .ok k w := by
  unfold kindB at h
  cases hu : P.underlying t with
  | none => rw [hu] at h; cases h
  | some dd =>
    rw [hu] at h
    have e := run_underlying hu w
    unfold isAgg
    cases dd <;> simp at h <;> subst h <;> simp [go_sem, e]
theorem info_of {k : Nat} (h : sizeB P t = some k) : ∃ i, P.info? t = some i ∧ i.size = k := by
  unfold sizeB at h
  cases hi : P.info? t with
  | none => rw [hi] at h; cases h
  | some i => rw [hi] at h; exact ⟨i, rfl, by simpa using h⟩
theorem run_size {k : Nat} (h : sizeB P t = some k) (w : World) : (sizeOf t).run P w = .ok k w := by
  obtain ⟨i, hi, rfl⟩ := info_of h
  simp [sizeOf, run_typeInfo w hi, go_sem]
theorem run_zero {l : List Value} (h : zeroB P t = some l) (w : World) : ∃ z : Value, (zeroValue t).run P w = .ok z w ∧ z.cells = l.toArray := by
  unfold zeroB at h
  cases hi : P.info? t with
  | none => rw [hi] at h; cases h
  | some i =>
    rw [hi] at h
    cases hz : i.zero with
    | none => simp [hz] at h
    | some z =>
      refine ⟨z, by simp [zeroValue, run_typeInfo w hi, hz, go_sem], ?_⟩
      simp [hz] at h
      rw [← h]
theorem run_loadCellsFrom {a : Addr} : ∀ (l : List Value) (i : Nat) (acc : Array Value), (∀ j v, l[j]? = some v → w.cell? (a.add (i + j)) = some v) → (loadCellsFrom a i l.length acc).run P w = .ok (acc ++ l.toArray) w
  | [], i, acc, _ => by simp [loadCellsFrom, go_sem]
  | v :: l, i, acc, h => by
    have h0 := h 0 v rfl
    have h1 := run_loadCellsFrom l (i + 1) (acc.push v) (fun j u hj => by
      have := h (j + 1) u (by simpa using hj)
      rw [show i + 1 + j = i + (j + 1) by omega]; exact this)
    simp only [Nat.add_zero] at h0
    simp only [List.length_cons, loadCellsFrom]
    simp [go_sem, h0, h1]
theorem add_cell (b off k : Nat) : (⟨b, off, none⟩ : Addr).add k = ⟨b, off + k, none⟩ := by
  unfold Addr.add
  split
  · rename_i h; rw [h]; rfl
  · rfl

theorem run_load1_at (hx : Ev E x (.pointer (some ⟨b, off, none⟩))) (hk : kindB P t = some false) (hc : ∀ w, St w0 T H w → w.cell? ⟨b, off, none⟩ = some v) : RunB P E w0 T H ⟨d, .load t x, ty, pos, af, g⟩ v := fun ρ w hρ hS => by
  refine doneO rfl ?_
  have e := hρ x _ (by simp [Op.operands]) hx
  have hc' := hc w hS
  have hk' := run_isAgg hk w
  simp [execOp, e, Done, go_sem, Instr.loadAt, Instr.sureAddr, loadVar, hk', hc', Below.refl]
theorem run_loadN_at {l : List Value} {k : Nat} (hx : Ev E x (.pointer (some ⟨b, off, none⟩))) (hk : kindB P t = some true) (hz : sizeB P t = some k) (hl : l.length = k) (hc : ∀ w, St w0 T H w → ∀ j v, l[j]? = some v → w.cell? ⟨b, off + j, none⟩ = some v) : RunB P E w0 T H ⟨d, .load t x, ty, pos, af, g⟩ (.agg l.toArray) := fun ρ w hρ hS => by
  refine doneO rfl ?_
  have e := hρ x _ (by simp [Op.operands]) hx
  have hc' := run_loadCellsFrom (P := P) (w := w) (a := ⟨b, off, none⟩) l 0 #[] (fun j v hj => by rw [add_cell, Nat.zero_add]; exact hc w hS j v hj)
  have hk' := run_isAgg hk w
  have hz' := run_size hz w
  rw [hl] at hc'
  simp [execOp, e, Done, go_sem, Instr.loadAt, Instr.sureAddr, loadVar, hk', hz', loadCells, hc', Below.refl]
theorem run_load1 {cs : List Value} {te : TypeId} {fr : Nat × Nat} (hx : Ev E x (.pointer (some ⟨b, off, none⟩))) (hk : kindB P t = some false) (hm : (b, Obj.cells cs.toArray te fr) ∈ H) (hc : cs[off]? = some v) : RunB P E w0 T H ⟨d, .load t x, ty, pos, af, g⟩ v :=
  run_load1_at hx hk fun _ hS => hS.cell hm hc
theorem run_loadN {cs l : List Value} {te : TypeId} {fr : Nat × Nat} {k : Nat} (hx : Ev E x (.pointer (some ⟨b, off, none⟩))) (hk : kindB P t = some true) (hz : sizeB P t = some k) (hm : (b, Obj.cells cs.toArray te fr) ∈ H) (hs : Sub cs off k l) : RunB P E w0 T H ⟨d, .load t x, ty, pos, af, g⟩ (.agg l.toArray) :=
  run_loadN_at hx hk hz hs.spec.1 fun _ hS j v hj => hS.cell hm (hs.spec.2 j v hj)

theorem plain_cells (h : plainV v = true) : v.cells = #[v] := by cases v <;> first | rfl | (simp [plainV] at h; done)
theorem Upd.same {o : Obj} (h : (b, o) ∈ H) : Upd H b o o H := by
  induction H with
  | nil => cases h
  | cons x r ih =>
    rcases List.mem_cons.1 h with rfl | h
    · exact .here
    · exact .there (ih h)
theorem Upd.exists {o o' : Obj} (h : (b, o) ∈ H) : ∃ H', Upd H b o o' H' := by
  induction H with
  | nil => cases h
  | cons x r ih =>
    rcases List.mem_cons.1 h with rfl | h
    · exact ⟨_, .here⟩
    · obtain ⟨H1, h1⟩ := ih h
      exact ⟨_, .there h1⟩
theorem Upd.new {o o' : Obj} {H' : Heap} (h : Upd H b o o' H') : (b, o') ∈ H' := by
  induction h with
  | here => simp
  | there _ ih => simp [ih]
theorem Upd.trans {A B C : Heap} {o1 o2 o3 : Obj} (k1 : Upd A b o1 o2 B) (hp : B.Pairwise fun x y => x.1 ≠ y.1) (k2 : Upd B b o2 o3 C) : Upd A b o1 o3 C := by
  induction k1 generalizing C with
  | here =>
    cases k2 with
    | here => exact .here
    | there k2 => exact absurd rfl (List.rel_of_pairwise_cons hp k2.mem)
  | there q ih =>
    cases k2 with
    | here => exact absurd rfl (List.rel_of_pairwise_cons hp q.new)
    | there k2 => exact .there (ih (List.Pairwise.of_cons hp) k2)
theorem Upd.unique {A B C : Heap} {o1 o2 o3 : Obj} (k1 : Upd A b o1 o3 B) (k2 : Upd A b o2 o3 C) (hp : A.Pairwise fun x y => x.1 ≠ y.1) : B = C := by
  induction k1 generalizing C with
  | here =>
    cases k2 with
    | here => rfl
    | there k2 => exact (List.rel_of_pairwise_cons hp k2.mem rfl).elim
  | there q ih =>
    cases k2 with
    | here => exact (List.rel_of_pairwise_cons hp q.mem rfl).elim
    | there k2 => rw [ih k2 (List.Pairwise.of_cons hp)]
theorem run_storeCells {te : TypeId} : ∀ (l : List Value) (cs : List Value) (i : Nat) (H : Heap) (w : World), St w0 T H w → (b, Obj.cells cs.toArray te (0, 0)) ∈ H → off + i + l.length ≤ cs.length → l.all plainV = true →
    ∃ w' H', (storeCells ⟨b, off, none⟩ l i).run P w = .ok () w' ∧ St w0 T H' w' ∧ Upd H b (Obj.cells cs.toArray te (0, 0)) (Obj.cells (setAll cs (off + i) l).toArray te (0, 0)) H'
  | [], cs, i, H, w, hS, hm, _, _ => ⟨w, H, by simp [storeCells, go_sem], hS, Upd.same hm⟩
  | v :: l, cs, i, H, w, hS, hm, hle, hp => by
    simp only [List.all_cons, Bool.and_eq_true] at hp
    simp only [List.length_cons] at hle
    have hlt : off + i < cs.length := by omega
    obtain ⟨old, hold⟩ : ∃ u, cs[off + i]? = some u := ⟨_, List.getElem?_eq_getElem hlt⟩
    have hc := hS.cell hm hold
    have hfz : w.frozen? ⟨b, off + i, none⟩ = false := by simp [World.frozen?, hS.mem hm]
    obtain ⟨H1, hu⟩ := Upd.exists (o' := Obj.cells (cs.set (off + i) v).toArray te (0, 0)) hm
    have hS1 := hS.set v hu
    obtain ⟨w', H', h1, h2, h3⟩ := run_storeCells l (cs.set (off + i) v) (i + 1) H1 _ hS1 hu.new (by simp; omega) hp.2
    refine ⟨w', H', ?_, h2, hu.trans hS1.apart (by simpa [setAll, Nat.add_assoc] using h3)⟩
    have e : (store ⟨b, off + i, none⟩ v).run P w = .ok () (w.setCell ⟨b, off + i, none⟩ v) := by
      have hp1 := hp.1
      clear hp hu hS1 h1 h3
      cases v <;> first | (simp [plainV] at hp1; done) | (simp [go_sem, hc, hfz]; done) | (simp [Go.store, Sem.run, hc, hfz]; done)
    simp only [storeCells, add_cell]
    simp [go_sem, e, h1]
theorem run_store1 {cs cs' : List Value} {te : TypeId} {H' : Heap} (hx : Ev E x (.pointer (some ⟨b, off, none⟩))) (hy : Ev E y v) (hv : plainV v = true) (hz : sizeB P t = some 1) (hm : Upd H b (Obj.cells cs.toArray te (0, 0)) (Obj.cells cs'.toArray te (0, 0)) H') (hs : Put cs off [v] cs') :
    Run1 P E w0 T H ⟨d, .store t x y, ty, pos, af, g⟩ undef H' := fun ρ w hρ hS => by
  refine doneO rfl ?_
  have e := hρ x _ (by simp [Op.operands]) hx
  have e' := hρ y _ (by simp [Op.operands]) hy
  obtain ⟨h1, h2⟩ := hs.spec
  obtain ⟨w', H1, k1, k2, k3⟩ := run_storeCells (P := P) (off := off) [v] cs 0 H w hS hm.mem (by simpa using h1) (by simp [hv])
  have hz' := run_size hz w
  have hc := plain_cells hv
  simp only [Value.cells] at hc
  rw [Nat.add_zero, ← h2] at k3
  obtain rfl := k3.unique hm hS.apart
  simp [execOp, e, e', Done, go_sem, Instr.storeAt, Instr.sureAddr, storeVar, hz']
  rw [hc]
  simp [k1, k2]
theorem run_storeN {cs cs' l : List Value} {te : TypeId} {H' : Heap} {k : Nat} (hx : Ev E x (.pointer (some ⟨b, off, none⟩))) (hy : Ev E y (.agg l.toArray)) (hv : l.all plainV = true) (hz : sizeB P t = some k) (hl : l.length = k) (hm : Upd H b (Obj.cells cs.toArray te (0, 0)) (Obj.cells cs'.toArray te (0, 0)) H') (hs : Put cs off l cs') :
    Run1 P E w0 T H ⟨d, .store t x y, ty, pos, af, g⟩ undef H' := fun ρ w hρ hS => by
  refine doneO rfl ?_
  have e := hρ x _ (by simp [Op.operands]) hx
  have e' := hρ y _ (by simp [Op.operands]) hy
  obtain ⟨h1, h2⟩ := hs.spec
  obtain ⟨w', H1, k1, k2, k3⟩ := run_storeCells (P := P) (off := off) l cs 0 H w hS hm.mem (by simpa using h1) hv
  have hz' := run_size hz w
  rw [Nat.add_zero, ← h2] at k3
  obtain rfl := k3.unique hm hS.apart
  simp [execOp, e, e', Done, go_sem, Instr.storeAt, Instr.sureAddr, storeVar, hz', Value.cells, hl, k1, k2]
theorem run_alloc {l : List Value} (hz : zeroB P t = some l) : Runs P E w0 T H ⟨d, .alloc t, ty, pos, af, g⟩ (fun _ : Nat => True) (fun b => .pointer (some ⟨b, 0, none⟩)) (fun b => (b, Obj.cells l.toArray t (0, 0)) :: H) := fun ρ w hρ hS => by
  refine doneO rfl ?_
  obtain ⟨z, h1, h2⟩ := run_zero hz w
  have hA := hS.alloc (Obj.cells l.toArray t (0, 0))
  simp only [Value.cells] at h2
  simp [execOp, Done, go_sem, Instr.alloc, h1, newVar, newRow]
  rw [h2]
  exact hA
theorem run_box1 (hx : Ev E x v) (hv : plainV v = true) : Runs P E w0 T H ⟨d, .box t x, ty, pos, af, g⟩ (fun _ : Nat => True) (fun b => .pointer (some ⟨b, 0, none⟩)) (fun b => (b, Obj.cells [v].toArray t (0, 0)) :: H) := fun ρ w hρ hS => by
  refine doneO rfl ?_
  have e := hρ x _ (by simp [Op.operands]) hx
  have hA := hS.alloc (Obj.cells [v].toArray t (0, 0))
  have hc := plain_cells hv
  simp only [Value.cells] at hc
  simp [execOp, Done, go_sem, Instr.box, e, newVar, newRow]
  rw [hc]
  exact hA
theorem run_boxN {l : List Value} (hx : Ev E x (.agg l.toArray)) : Runs P E w0 T H ⟨d, .box t x, ty, pos, af, g⟩ (fun _ : Nat => True) (fun b => .pointer (some ⟨b, 0, none⟩)) (fun b => (b, Obj.cells l.toArray t (0, 0)) :: H) := fun ρ w hρ hS => by
  refine doneO rfl ?_
  have e := hρ x _ (by simp [Op.operands]) hx
  have hA := hS.alloc (Obj.cells l.toArray t (0, 0))
  simp [execOp, Done, go_sem, Instr.box, e, newVar, newRow, Value.cells]
  exact hA
end
end Go.Proofs.Ytjdeplehhmhpcaa.En
namespace Go.Proofs.Ytjdeplehhmhpcaa.En
open Go.RowKit

/-- Where a field lies. -/
def fieldB (P : Program) (s : TypeId) (i : Nat) : Option Nat :=
  match P.underlying s with
  | some (.struct fs) => match fs[i]? with
    | some f => if sizeB P f.type = some 0 ∨ sizeB P f.type = none then none else some f.offset
    | none => none
  | _ => none
def fieldT (P : Program) (s : TypeId) (i : Nat) : Option (TypeId × Nat) :=
  match P.underlying s with
  | some (.struct fs) => match fs[i]? with
    | some f => some (f.type, f.offset)
    | none => none
  | _ => none
/-- How many cells the elements of a slice have. -/
def elemB (P : Program) (t : TypeId) : Option Nat :=
  match P.underlying t with
  | some (.slice e) => sizeB P e
  | _ => none
def arrB (P : Program) (t : TypeId) : Option (Nat × Nat) :=
  match P.underlying t with
  | some (.array n e) => (sizeB P e).map fun k => (n, k)
  | _ => none
def sliceB (P : Program) (t : TypeId) : Bool := match P.underlying t with | some (.slice _) => true | _ => false
def ifaceB (P : Program) (t : TypeId) : Option Bool := match P.underlying t with | some (.interface _) => some true | some _ => some false | none => none
def callB (P : Program) (f : FuncId) : Bool :=
  match P.funcs[f]? with
  | some fn => !(fn.name == "runtime.NumGoroutine") && fn.body.isSome
  | none => false

section
variable {P : Program} {ops : Array Oper} {Q : Exit → Act → World → Prop} {n : Nat} {E : Env} {w0 w : World} {T : Nat → Prop} {H : Heap} {d : Option Tmp} {t ty : TypeId} {pos : String} {af : Array Edge} {g : Option (Nat × Bool)} {x y z : Operand} {v u : Value} {b off : Nat}

theorem run_fieldAddr {i fo off' : Nat} (hx : Ev E x (.pointer (some ⟨b, off, none⟩))) (hf : fieldB P t i = some fo) (h : off + fo = off') : RunB P E w0 T H ⟨d, .fieldAddr t x i, ty, pos, af, g⟩ (.pointer (some ⟨b, off', none⟩)) := fun ρ w hρ hS => by
  refine doneO rfl ?_
  have e := hρ x _ (by simp [Op.operands]) hx
  subst h
  unfold fieldB at hf
  split at hf
  · rename_i fs hu
    split at hf
    · rename_i f hfi
      split at hf
      · cases hf
      · rename_i hn
        cases hf
        have h1 := run_underlying hu w
        cases hs : sizeB P f.type with
        | none => exact absurd (.inr hs) hn
        | some k =>
          have h2 := run_size hs w
          have hk : k ≠ 0 := fun e => hn (.inl (by rw [hs, e]))
          simp [execOp, e, Done, go_sem, Instr.fieldAt, Instr.sureAddr, h1, hfi, fieldPlace, h2, hk, add_cell, Below.refl]
    · cases hf
  · cases hf
theorem run_indexAddr {k : IntKind} {m c sz i off' : Nat} (hx : Ev E x (.slice (some ⟨b, off, none⟩) m c)) (hy : Ev E y (.int k (i : Int))) (he : elemB P t = some sz) (hi : i < m) (h : off + i * sz = off') :
    RunB P E w0 T H ⟨d, .indexAddr t x y, ty, pos, af, g⟩ (.pointer (some ⟨b, off', none⟩)) := fun ρ w hρ hS => by
  refine doneO rfl ?_
  have e := hρ x _ (by simp [Op.operands]) hx
  have e' := hρ y _ (by simp [Op.operands]) hy
  subst h
  unfold elemB at he
  split at he
  · rename_i el hu
    have h1 := run_underlying hu w
    have h2 := run_size he w
    simp [execOp, e, e', Done, go_sem, Instr.indexAt, asIntOf, h1, h2, hi, add_cell, Below.refl]
  · cases he
theorem run_indexAddr_arr {k : IntKind} {m sz i off' : Nat} (hx : Ev E x (.pointer (some ⟨b, off, none⟩))) (hy : Ev E y (.int k (i : Int))) (he : arrB P t = some (m, sz)) (hi : i < m) (h : off + i * sz = off') :
    RunB P E w0 T H ⟨d, .indexAddr t x y, ty, pos, af, g⟩ (.pointer (some ⟨b, off', none⟩)) := fun ρ w hρ hS => by
  refine doneO rfl ?_
  have e := hρ x _ (by simp [Op.operands]) hx
  have e' := hρ y _ (by simp [Op.operands]) hy
  subst h
  unfold arrB at he
  split at he
  · rename_i m' el hu
    have h1 := run_underlying hu w
    cases hs : sizeB P el with
    | none => rw [hs] at he; cases he
    | some k' =>
      rw [hs] at he
      simp only [Option.map_some, Option.some.injEq, Prod.mk.injEq] at he
      obtain ⟨rfl, rfl⟩ := he
      have h2 := run_size hs w
      simp [execOp, e, e', Done, go_sem, Instr.indexAt, Instr.sureAddr, asIntOf, h1, h2, hi, add_cell, Below.refl]
  · cases he
theorem run_len {m c : Nat} {a : Option Addr} {l : List TypeId} (hx : Ev E x (.slice a m c)) (hs : sliceB P t = true) : RunB P E w0 T H ⟨d, .call ⟨.builtin .len, [x].toArray, (t :: l).toArray⟩, ty, pos, af, g⟩ (.int .i64 (m : Int)) := fun ρ w hρ hS => by
  refine doneO rfl ?_
  have e := hρ x _ (by simp [Op.operands, Call.operands]) hx
  unfold sliceB at hs
  split at hs
  · rename_i el hu
    have h1 := run_underlying hu w
    simp [Builtin.len_, e, Done, go_sem, h1, goInt, Below.refl]
  · cases hs
theorem run_makeInterface (hx : Ev E x v) (hi : ifaceB P t = some false) : RunB P E w0 T H ⟨d, .makeInterface t x, ty, pos, af, g⟩ (.iface t v) := fun ρ w hρ hS => by
  refine doneO rfl ?_
  have e := hρ x _ (by simp [Op.operands]) hx
  unfold ifaceB at hi
  cases hu : P.underlying t with
  | none => rw [hu] at hi; cases hi
  | some dd =>
    rw [hu] at hi
    have h1 := run_underlying hu w
    cases dd <;> simp at hi <;> simp [execOp, e, Done, go_sem, Instr.makeInterface, h1, Below.refl]
theorem evs_map {ρ : Operand → Value} {xs : List Operand} {vs : List Value} (h : Evs E xs vs) (hρ : ∀ x u, x ∈ xs → Ev E x u → ρ x = u) : xs.map ρ = vs := by
  induction h with
  | nil => rfl
  | cons h1 _ ih =>
    rw [List.map_cons, hρ _ _ (by simp) h1, ih (fun x u hx => hρ x u (by simp [hx]))]
theorem run_makeFunc {fn : Fn} {xs ys : List Operand} {vs us : List Value} (hx : Evs E xs vs) (hy : Evs E ys us) : RunB P E w0 T H ⟨d, .makeFunc fn xs.toArray ys.toArray, ty, pos, af, g⟩ (.func fn vs.toArray us.toArray) := fun ρ w hρ hS => by
  refine doneO rfl ?_
  have e1 := evs_map hx (fun x u hm => hρ x u (by simp [Op.operands, hm]))
  have e2 := evs_map hy (fun x u hm => hρ x u (by simp [Op.operands, hm]))
  simp [execOp, Done, go_sem, Instr.makeFunc, e1, e2, Below.refl]
theorem callB_some {f : FuncId} (hc : callB P f = true) : (P.funcs[f]?).isSome = true := by
  unfold callB at hc
  split at hc
  · rename_i fn hfn; rw [hfn]; rfl
  · cases hc
theorem callv_about {f : FuncId} {cs : List Value} {x : Operand} {xs : List Operand} {ts : Array TypeId} {ρ : Operand → Value} {w : World} (hc : callB P f = true) (hf : ρ x = .func (.func f) #[] cs.toArray) :
    ∀ q, (⟨d, .call ⟨.value x, xs.toArray, ts⟩, ty, pos, af, g⟩ : Oper).about P w ρ = some q → (P.funcs[q]?).isSome = true := fun q hq => by
  simp only [Oper.about, resolve, hf] at hq
  simp [Deferred.ofValue, Target.leads, go_sem] at hq
  rw [← hq]; exact callB_some hc
theorem call_about {f : FuncId} {xs : List Operand} {ts : Array TypeId} {ρ : Operand → Value} {w : World} (hc : callB P f = true) (hf : ρ (.func f) = .func (.func f) #[] #[]) :
    ∀ q, (⟨d, .call ⟨.value (.func f), xs.toArray, ts⟩, ty, pos, af, g⟩ : Oper).about P w ρ = some q → (P.funcs[q]?).isSome = true := callv_about (cs := []) hc hf
/-- A call of a function by its name. -/
theorem done_call {f : FuncId} {xs : List Operand} {vs : List Value} {ts : Array TypeId} {ρ : Operand → Value} (hc : callB P f = true) (hf : ρ (.func f) = .func (.func f) #[] #[]) (ha : xs.map ρ = vs) :
    (execOp ρ ⟨d, .call ⟨.value (.func f), xs.toArray, ts⟩, ty, pos, af, g⟩).run P w = .ok (.enter f vs.toArray) w := by
  unfold callB at hc
  split at hc
  · rename_i fn hfn
    simp only [Bool.and_eq_true, Bool.not_eq_true'] at hc
    obtain ⟨h1, h2⟩ := hc
    have h3 : ¬ fn.body = none := by intro hb; simp [hb] at h2
    simp only [beq_eq_false_iff_ne, ne_eq] at h1
    simp [execOp, resolve, Deferred.ofValue, hf, invoke, callFunc, go_sem, hfn, h1, h3, ha]
  · cases hc
theorem run_call {f : FuncId} {xs : List Operand} {vs : List Value} {ts : Array TypeId} {X : Type} {F : X → Prop} {r : X → Value} {H' : X → Heap} (hc : callB P f = true) (ha : Evs E xs vs)
    (h : ∀ w, St w0 T H w → CallsF P f vs.toArray w fun e w' => ∃ s, F s ∧ e = .returned (r s) ∧ St w0 T (H' s) w') : Runs P E w0 T H ⟨d, .call ⟨.value (.func f), xs.toArray, ts⟩, ty, pos, af, g⟩ F r H' := fun ρ w hρ hS => by
  have e1 := evs_map ha (fun x u hm => hρ x u (by simp [Op.operands, Call.operands, hm]))
  have e2 := hρ (.func f) _ (by simp [Op.operands, Call.operands]) .func
  refine ⟨call_about hc e2, ?_⟩
  rw [done_call hc e2 e1]
  exact (h w hS).mono fun e w' ⟨s, h1, h2, h3⟩ => ⟨r s, h2, s, h1, rfl, h3⟩
/-- What a function gives, who leaves what was there. -/
structure Gives (P : Program) (f : FuncId) (vs : List Value) (w : World) (r : Value) : Prop where
  out : CallsF P f vs.toArray w fun e w' => e = .returned r ∧ Below w.heap.size w w'
theorem Gives.as {f : FuncId} {vs : List Value} {r r' : Value} (h : Gives P f vs w r) (e : r = r') : Gives P f vs w r' := e ▸ h
/-- A callee that leaves what was there, and gives what is known. -/
theorem run_call1 {f : FuncId} {xs : List Operand} {vs : List Value} {ts : Array TypeId} {r : Value} (hc : callB P f = true) (ha : Evs E xs vs)
    (h : ∀ w, St w0 T H w → Gives P f vs w r) : RunB P E w0 T H ⟨d, .call ⟨.value (.func f), xs.toArray, ts⟩, ty, pos, af, g⟩ r := fun ρ w hρ hS => by
  have e1 := evs_map ha (fun x u hm => hρ x u (by simp [Op.operands, Call.operands, hm]))
  have e2 := hρ (.func f) _ (by simp [Op.operands, Call.operands]) .func
  refine ⟨call_about hc e2, ?_⟩
  rw [done_call hc e2 e1]
  exact (h w hS).out.mono fun e w' ⟨h2, h3⟩ => ⟨r, h2, rfl, h3⟩
theorem done_callv {f : FuncId} {xs : List Operand} {vs cs as : List Value} {ts : Array TypeId} {ρ : Operand → Value} (hc : callB P f = true) (e2 : ρ x = .func (.func f) #[] cs.toArray) (e1 : xs.map ρ = vs) (hcat : vs ++ cs = as) :
    (execOp ρ ⟨d, .call ⟨.value x, xs.toArray, ts⟩, ty, pos, af, g⟩).run P w = .ok (.enter f as.toArray) w := by
  unfold callB at hc
  split at hc
  · rename_i fn hfn
    simp only [Bool.and_eq_true, Bool.not_eq_true'] at hc
    obtain ⟨h1, h2⟩ := hc
    have h3 : ¬ fn.body = none := by intro hb; simp [hb] at h2
    simp only [beq_eq_false_iff_ne, ne_eq] at h1
    simp [execOp, resolve, Deferred.ofValue, e2, invoke, callFunc, go_sem, hfn, h1, h3, e1, ← hcat]
  · cases hc
/-- A call of a function value. -/
theorem run_callv {f : FuncId} {xs : List Operand} {vs cs as : List Value} {ts : Array TypeId} {X : Type} {F : X → Prop} {r : X → Value} {H' : X → Heap} (hc : callB P f = true) (hx : Ev E x (.func (.func f) #[] cs.toArray)) (ha : Evs E xs vs) (hcat : vs ++ cs = as)
    (h : ∀ w, St w0 T H w → CallsF P f as.toArray w fun e w' => ∃ s, F s ∧ e = .returned (r s) ∧ St w0 T (H' s) w') : Runs P E w0 T H ⟨d, .call ⟨.value x, xs.toArray, ts⟩, ty, pos, af, g⟩ F r H' := fun ρ w hρ hS => by
  have e1 := evs_map ha (fun x u hm => hρ x u (by simp [Op.operands, Call.operands, hm]))
  have e2 := hρ x _ (by simp [Op.operands, Call.operands]) hx
  refine ⟨callv_about hc e2, ?_⟩
  rw [done_callv hc e2 e1 hcat]
  exact (h w hS).mono fun e w' ⟨s, h1, h2, h3⟩ => ⟨r s, h2, s, h1, rfl, h3⟩
theorem run_callv1 {f : FuncId} {xs : List Operand} {vs cs as : List Value} {ts : Array TypeId} {r : Value} (hc : callB P f = true) (hx : Ev E x (.func (.func f) #[] cs.toArray)) (ha : Evs E xs vs) (hcat : vs ++ cs = as)
    (h : ∀ w, St w0 T H w → Gives P f as w r) : RunB P E w0 T H ⟨d, .call ⟨.value x, xs.toArray, ts⟩, ty, pos, af, g⟩ r := fun ρ w hρ hS => by
  have e1 := evs_map ha (fun x u hm => hρ x u (by simp [Op.operands, Call.operands, hm]))
  have e2 := hρ x _ (by simp [Op.operands, Call.operands]) hx
  refine ⟨callv_about hc e2, ?_⟩
  rw [done_callv hc e2 e1 hcat]
  exact (h w hS).out.mono fun e w' ⟨h2, h3⟩ => ⟨r, h2, rfl, h3⟩
theorem run_field1 {i fo ft : Nat} {cs : List Value} (hx : Ev E x (.agg cs.toArray)) (hf : fieldT P t i = some (ft, fo)) (hk : kindB P ft = some false) (hc : cs[fo]? = some v) : RunB P E w0 T H ⟨d, .field t x i, ty, pos, af, g⟩ v := fun ρ w hρ hS => by
  refine doneO rfl ?_
  have e := hρ x _ (by simp [Op.operands]) hx
  unfold fieldT at hf
  split at hf
  · rename_i fs hu
    split at hf
    · rename_i f hfi
      simp only [Option.some.injEq, Prod.mk.injEq] at hf
      obtain ⟨rfl, rfl⟩ := hf
      have h1 := run_underlying hu w
      have h2 := run_isAgg hk w
      simp [execOp, e, Done, go_sem, Instr.field, h1, hfi, part, h2, asAgg, hc, Below.refl]
    · cases hf
  · cases hf
theorem Sub.extract {cs l : List Value} {o k : Nat} (h : Sub cs o k l) : (cs.drop o).take k = l := by
  induction h with
  | done => rfl
  | take _ ih => simpa using ih
  | skip _ ih => simpa using ih
theorem run_fieldN {i fo ft k : Nat} {cs l : List Value} (hx : Ev E x (.agg cs.toArray)) (hf : fieldT P t i = some (ft, fo)) (hk : kindB P ft = some true) (hz : sizeB P ft = some k) (hc : Sub cs fo k l) : RunB P E w0 T H ⟨d, .field t x i, ty, pos, af, g⟩ (.agg l.toArray) := fun ρ w hρ hS => by
  refine doneO rfl ?_
  have e := hρ x _ (by simp [Op.operands]) hx
  unfold fieldT at hf
  split at hf
  · rename_i fs hu
    split at hf
    · rename_i f hfi
      simp only [Option.some.injEq, Prod.mk.injEq] at hf
      obtain ⟨rfl, rfl⟩ := hf
      have h1 := run_underlying hu w
      have h2 := run_isAgg hk w
      have h3 := run_size hz w
      have h4 := hc.extract
      simp [execOp, e, Done, go_sem, Instr.field, h1, hfi, part, h2, h3, asAgg, h4, Below.refl]
    · cases hf
  · cases hf
theorem run_convert_at {dt : TypeId} (hx : Ev E x u) (h : ∀ w, (convert t dt u).run P w = .ok v w) : RunB P E w0 T H ⟨d, .convert t dt x, ty, pos, af, g⟩ v := fun ρ w hρ _ => by
  refine doneO rfl ?_
  have e := hρ x _ (by simp [Op.operands]) hx
  have h1 := h w
  have h2 : (execOp ρ ⟨d, .convert t dt x, ty, pos, af, g⟩).run P w = .ok (.value v) w := by
    simp only [execOp]
    rw [e]
    simp [h1]
  rw [h2]
  exact ⟨rfl, Below.refl _ _⟩
theorem run_max2 {k : IntKind} {a b : Int} {ts : Array TypeId} (hx : Ev E x (.int k a)) (hy : Ev E y (.int k b)) : RunB P E w0 T H ⟨d, .call ⟨.builtin .max, [x, y].toArray, ts⟩, ty, pos, af, g⟩ (.int k (max a b)) := fun ρ w hρ _ => by
  refine doneO rfl ?_
  have e := hρ x _ (by simp [Op.operands, Call.operands]) hx
  have e' := hρ y _ (by simp [Op.operands, Call.operands]) hy
  have h1 : (execOp ρ ⟨d, .call ⟨.builtin .max, [x, y].toArray, ts⟩, ty, pos, af, g⟩).run P w = .ok (.value (.int k (max a b))) w := by
    have : (if b > a then b else a) = max a b := by split <;> omega
    simp [execOp, resolve, invoke, builtin, Builtin.max_, Builtin.max2, e, e', go_sem]
    simpa using this
  rw [h1]
  exact ⟨rfl, Below.refl _ _⟩
theorem run_min2 {k : IntKind} {a b : Int} {ts : Array TypeId} (hx : Ev E x (.int k a)) (hy : Ev E y (.int k b)) : RunB P E w0 T H ⟨d, .call ⟨.builtin .min, [x, y].toArray, ts⟩, ty, pos, af, g⟩ (.int k (min a b)) := fun ρ w hρ _ => by
  refine doneO rfl ?_
  have e := hρ x _ (by simp [Op.operands, Call.operands]) hx
  have e' := hρ y _ (by simp [Op.operands, Call.operands]) hy
  have h1 : (execOp ρ ⟨d, .call ⟨.builtin .min, [x, y].toArray, ts⟩, ty, pos, af, g⟩).run P w = .ok (.value (.int k (min a b))) w := by
    have : (if b < a then b else a) = min a b := by split <;> omega
    simp [execOp, resolve, invoke, builtin, Builtin.min_, Builtin.min2, e, e', go_sem]
    simpa using this
  rw [h1]
  exact ⟨rfl, Below.refl _ _⟩
/-- Whatever else only computes. -/
theorem run_at {o : Oper} (hn : noFnB o = true) (h : ∀ (ρ : Operand → Value) w, (∀ x u, x ∈ o.op.operands → Ev E x u → ρ x = u) → St w0 T H w → (execOp ρ o).run P w = .ok (.value v) w) : RunB P E w0 T H o v := fun ρ w hρ hS => by
  refine doneO hn ?_
  rw [h ρ w hρ hS]
  exact ⟨rfl, Below.refl _ _⟩
end
end Go.Proofs.Ytjdeplehhmhpcaa.En
