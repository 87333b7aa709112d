/- Walks by what is known: a drawn region in which one call surely panics, and others may make new blocks. A law over any program. -/
import Derived.Test.YtjdeplehhmhpcaaEZ
import Derived.Laws.MakeOwn
import Derived.RecoverIn
import Derived.Scope
import Derived.Lib.AppendZeros
namespace Go.Proofs.Ytjdeplehhmhpcaa.En
open Go.RowKit

/-- What is asked at a round's end, panics and all. -/
def roundPostP (P : Program) (l : Nat) (R : Ending → World → Prop) : Exit → Act → World → Prop
  | .normal, _, w => ∃ v w', (Instr.endRound l none).run P w = .ok v w' ∧ R (.returned v) w'
  | .ret, _, w => ∃ v w', (Instr.endRound l (some .ret)).run P w = .ok v w' ∧ R (.returned v) w'
  | .exit id, _, w => ∃ v w', (Instr.endRound l (some (.exit id))).run P w = .ok v w' ∧ R (.returned v) w'
  | .panic ch, a, w => a.defers = [] ∧ R (.panicked ch) w
  | _, _, _ => False
def beginQ (P : Program) (body : Code) (l : Nat) (Q : Exit → Act → World → Prop) : Exit → Act → World → Prop :=
  Exit.then (fun a₁ w₁ => ∃ w₂, (Instr.beginRound l).run P w₁ = .ok () w₂ ∧ body.wpIn (FF P (some l)) 0 P Q a₁ w₂) (fun _ _ _ => False)
/-- A round out of its walk. -/
theorem roundIn_P {P : Program} {l : Nat} {f : FuncId} {tmps : Array Value} {assign body : Code} {w : World} {R : Ending → World → Prop} (hF : (P.funcs[f]?).isSome = true)
    (h : assign.wpIn (FF P (some l)) 0 P (beginQ P body l (roundPostP P l R)) { tmps := tmps, defers := [] } w) : RoundIn (FF P none) 0 P l f tmps assign body w R := by
  refine ⟨hF, fun c cs hr => ?_⟩
  let b : Frame := { (default : Frame) with fn := f, kind := .normal, roundOf := some l }
  have hb0 : Frame.round l f tmps assign body .normal = b.atR { tmps := tmps, defers := [] } [.code assign, .beginRound, .code body] := by
    simp [Frame.round, Frame.atR, b]
  have hr' : (FF P (some l)).room ((c :: cs).length + 1 + 0) := hr
  have hF' : (FF P (some l)).fn b.fn := hF
  obtain ⟨e, a₁, w₁, hq, harr⟩ := h b [.beginRound, .code body] (c :: cs) rfl hF' hr'
  rw [← hb0] at harr
  cases e with
  | normal =>
    obtain ⟨w₂, hbr, hbody⟩ := hq
    have s1 : StepsIn (Machine.fenced P (FF P (some l))) P (lone (b.atR a₁ [.beginRound, .code body]) (c :: cs) w₁) (lone (b.atR a₁ [.code body]) (c :: cs) w₂) :=
      .one (fenced_calm (fr := b.atR a₁ [.beginRound, .code body]) hF' hr' rfl) (stepR_beginRound rfl hbr)
    obtain ⟨e₂, a₂, w₃, hq₂, harr₂⟩ := hbody b [] (c :: cs) rfl hF' hr'
    cases e₂ with
    | normal =>
      obtain ⟨v, w₄, hend, hR⟩ := hq₂
      exact ⟨.returned v, w₄, hR, (StepsIn.trans harr s1).trans (StepsIn.trans harr₂ (.one (fenced_calm (fr := b.atR a₂ []) hF' hr' rfl) (stepR_round_end rfl rfl hend)))⟩
    | ret =>
      obtain ⟨v, w₄, hend, hR⟩ := hq₂
      obtain ⟨k₁, hs⟩ := harr₂.2 rfl
      exact ⟨.returned v, w₄, hR, (StepsIn.trans harr s1).trans (StepsIn.trans hs (.one (fenced_calm (fr := b.atR a₂ (.code .ret :: k₁)) hF' hr' rfl) (stepR_round_ret rfl rfl hend)))⟩
    | exit id =>
      obtain ⟨v, w₄, hend, hR⟩ := hq₂
      obtain ⟨k₁, hk, hs⟩ := harr₂.2 rfl rfl
      exact ⟨.returned v, w₄, hR, (StepsIn.trans harr s1).trans (StepsIn.trans hs (.one (fenced_calm (fr := b.atR a₂ (.code (.exit id) :: k₁)) hF' hr' rfl) (stepR_round_exit rfl rfl hk hend)))⟩
    | goto t => exact hq₂.elim
    | panic chain =>
      obtain ⟨hd, hR⟩ := hq₂
      obtain ⟨todo, hs⟩ := harr₂
      obtain ⟨fn, hfn⟩ := Option.isSome_iff_exists.1 hF
      have hl : ({ b.atR a₂ todo with mode := .panicking chain } : Frame).leaving P w₃ (.panicked chain) := ⟨rfl, hd, fn, hfn⟩
      exact ⟨.panicked chain, w₃, hR, (StepsIn.trans harr s1).trans (StepsIn.trans hs (.one (fenced_leaving hF' hr' hl) (step_leave_panicked hl)))⟩
    | outgrown => exact hq₂.elim
  | exit id => exact hq.elim
  | goto t => exact hq.elim
  | ret => exact hq.elim
  | panic chain => exact hq.elim
  | outgrown => exact hq.elim

/-- A callee that surely ends in a panic. -/
def Pans (P : Program) (f : FuncId) (vs : List Value) (w : World) (ch : List PanicEntry) : Prop := CallsF P f vs.toArray w fun e w' => e = .panicked ch ∧ Below w.heap.size w w'
section
variable {r : Option Nat} {ds : List Deferred} {P : Program} {ops : Array Oper} {Q : Exit → Act → World → Prop} {n : Nat} {E : Env} {w0 w w' : World} {T : Nat → Prop} {H H' : Heap} {l : List Oper}
theorem lpans {dd : Option Nat} {f : FuncId} {xs : List Operand} {vs : List Value} {ts : Array TypeId} {ty : TypeId} {pos : String} {af : Array Edge} {g : Option (Nat × Bool)} {ch : List PanicEntry} (hg : g = none) (hc : callB P f = true) (ha : Evs E xs vs) (h : ∀ w, St w0 T H w → Pans P f vs w ch)
    (k2 : XW ds Q (.panic ch) n E w0 T H) : LW r ds P ops Q (⟨dd, .call ⟨.value (.func f), xs.toArray, ts⟩, ty, pos, af, g⟩ :: l) n E w0 T H := fun a w hF hS => by
  subst hg
  have e1 := evs_map (ρ := a.eval) ha (fun x u _ hx => hF.ev hx)
  have e2 : a.eval (.func f) = .func (.func f) #[] #[] := rfl
  refine wpListIn_plain rfl fun K hK => ⟨call_about hc e2, ?_⟩
  rw [show (FF P r).round = r from rfl, Oper.semAt_eq r _ _ (by intro c; simp), done_call hc e2 e1]
  refine ⟨fun hh => by simp [FF] at hh, ?_⟩
  refine (CallsIn.mono (h w hS) ?_ : CallsIn (FF P none) (0 - 1) P f vs.toArray w _)
  rintro e w' ⟨rfl, hb⟩
  exact k2 a w' hF (hS.call hb)
theorem lpansv {dd : Option Nat} {f : FuncId} {x : Operand} {xs : List Operand} {vs cs as : List Value} {ts : Array TypeId} {ty : TypeId} {pos : String} {af : Array Edge} {g : Option (Nat × Bool)} {ch : List PanicEntry} (hg : g = none) (hc : callB P f = true) (hx : Ev E x (.func (.func f) #[] cs.toArray)) (ha : Evs E xs vs) (hcat : vs ++ cs = as) (h : ∀ w, St w0 T H w → Pans P f as w ch)
    (k2 : XW ds Q (.panic ch) n E w0 T H) : LW r ds P ops Q (⟨dd, .call ⟨.value x, xs.toArray, ts⟩, ty, pos, af, g⟩ :: l) n E w0 T H := fun a w hF hS => by
  subst hg
  have e1 := evs_map (ρ := a.eval) ha (fun x u _ hx => hF.ev hx)
  refine wpListIn_plain rfl fun K hK => ⟨callv_about hc (hF.ev hx), ?_⟩
  rw [show (FF P r).round = r from rfl, Oper.semAt_eq r _ _ (by intro c; simp), done_callv hc (hF.ev hx) e1 hcat]
  refine ⟨fun hh => by simp [FF] at hh, ?_⟩
  refine (CallsIn.mono (h w hS) ?_ : CallsIn (FF P none) (0 - 1) P f as.toArray w _)
  rintro e w' ⟨rfl, hb⟩
  exact k2 a w' hF (hS.call hb)
end
/-- A call of yield. -/
def Yields (P : Program) (l : Nat) (args : Array Value) (w : World) (R : Ending → World → Prop) : Prop :=
  ∃ fn tmps assign body, (Instr.yield l args).run P w = .ok (.round l fn tmps assign body) w ∧ RoundIn (FF P none) 0 P l fn tmps assign body w R
theorem Yields.mono {P : Program} {l : Nat} {args : Array Value} {w : World} {R R' : Ending → World → Prop} (h : Yields P l args w R) (hr : ∀ e w', R e w' → R' e w') : Yields P l args w R' := by
  obtain ⟨fn, tm, as, bd, h1, h2⟩ := h
  exact ⟨fn, tm, as, bd, h1, h2.mono hr⟩

/-! Who is ranged over: what is so of memory behind k rounds is J k, with the blocks T that rounds may change. -/
def KeepB (B : Nat) (T : Nat → Prop) (w w' : World) : Prop := w'.os = w.os ∧ w'.tape = w.tape ∧ w'.output = w.output ∧ w.heap.size ≤ w'.heap.size ∧ ∀ b, b < B ∨ T b → w'.heap[b]? = w.heap[b]?
structure Rounds (P : Program) (l : Nat) (xs : List Value) (B : Nat) (J : Nat → (Nat → Prop) → World → Prop) (Jx : (Nat → Prop) → World → Prop) (Jp : List PanicEntry → (Nat → Prop) → World → Prop) : Prop where
  sJ : ∀ k T w w', J k T w → KeepB B T w w' → J k T w'
  sX : ∀ T w w', Jx T w → KeepB B T w w' → Jx T w'
  sP : ∀ ch T w w', Jp ch T w → KeepB B T w w' → Jp ch T w'
  low : ∀ k T w, J k T w → ∀ b, T b → b < w.heap.size
  lowX : ∀ T w, Jx T w → ∀ b, T b → b < w.heap.size
  lowP : ∀ ch T w, Jp ch T w → ∀ b, T b → b < w.heap.size
  go : ∀ k x T w, xs[k]? = some x → J k T w → Yields P l #[x] w fun e w' => St w T [] w' ∧ ∃ T', (∀ b, T' b → T b ∨ w.heap.size ≤ b) ∧
    ((e = .returned (.bool true) ∧ J (k + 1) T' w') ∨ (e = .returned (.bool false) ∧ Jx T' w') ∨ ∃ ch, e = .panicked ch ∧ Jp ch T' w')
/-- A function that yields a list, whoever ranges over it; Cap: blocks that it reads. -/
def IterAt (P : Program) (f : FuncId) (cs xs : List Value) (Cap : Nat → Prop) (w : World) : Prop :=
  ∀ l J Jx Jp T w1, Below w.heap.size w w1 → Rounds P l xs w1.heap.size J Jx Jp → (∀ c, Cap c → ¬ T c) → J 0 T w1 →
    CallsF P f (Value.func (.yield l) #[] #[] :: cs).toArray w1 fun e w' => (e = .returned (.tuple #[]) ∧ ((∃ T', J xs.length T' w') ∨ ∃ T', Jx T' w')) ∨ ∃ ch, e = .panicked ch ∧ ∃ T', Jp ch T' w'

section
variable {r : Option Nat} {ds : List Deferred} {P : Program} {ops : Array Oper} {Q : Exit → Act → World → Prop} {n : Nat} {E : Env} {w0 w w' : World} {T : Nat → Prop} {H H' : Heap} {l : List Oper}
theorem St.putO {D : Nat} {o : Obj} (h : St w0 T ((D, o) :: H) w) (o' : Obj) : St w0 T ((D, o') :: H) (w.putObj D o') :=
  h.upd (.here) rfl rfl rfl (by simp) (fun k _ hne => World.putObj_heap_other hne) (World.putObj_heap_same (h.lt (b := D) (o := o) (by simp)))
theorem St.keepB {B : Nat} (h : St w0 T H w) (hB : w0.heap.size ≤ B) (k : KeepB B (blk H) w w') : St w0 T H w' := by
  obtain ⟨h1, h2, h3, h4, h5⟩ := k
  exact ⟨h1.trans h.os, h2.trans h.tape, h3.trans h.output, Nat.le_trans h.size h4, fun b hb hT => (h5 b (.inl (Nat.lt_of_lt_of_le hb hB))).trans (h.old b hb hT),
    fun x hx => ⟨(h5 x.1 (.inr ⟨x, hx, rfl⟩)).trans (h.own x hx).1, (h.own x hx).2⟩, h.apart⟩
theorem done_yield {x y : Operand} {i : Nat} {v : Value} {d : Option Nat} {ts : Array TypeId} {ty : TypeId} {pos : String} {af : Array Edge} {g : Option (Nat × Bool)} {ρ : Operand → Value} {m : Next} (hx : ρ x = .func (.yield i) #[] #[]) (hy : ρ y = v) (h : (Instr.yield i #[v]).run P w = .ok m w) :
    (execOp ρ ⟨d, .call ⟨.value x, #[y], ts⟩, ty, pos, af, g⟩).run P w = .ok m w := by
  simp [execOp, resolve, Deferred.ofValue, hx, hy, invoke, go_sem, h]
theorem res_range {g : Operand} {f : FuncId} {cs : List Value} {i : Nat} {ρ : Operand → Value} (hg : ρ g = .func (.func f) #[] cs.toArray) (hk : ρ (.const (.func (.yield i) #[] #[])) = .func (.yield i) #[] #[]) :
    (resolve ρ (rangeCall g i) 0).run P w = .ok { target := .fn (.func f) cs.toArray, args := #[.func (.yield i) #[] #[]] } w := by
  simp [resolve, hg, hk, Deferred.ofValue, go_sem]
theorem inv_range {f : FuncId} {cs : List Value} {i : Nat} (hc : callB P f = true) : (invoke (.fn (.func f) cs.toArray) #[.func (.yield i) #[] #[]]).run P w = .ok (.enter f (Value.func (.yield i) #[] #[] :: cs).toArray) w := by
  unfold callB at hc
  split at hc
  · rename_i fn hfn
    simp only [Bool.and_eq_true, Bool.not_eq_true'] at hc
    obtain ⟨h1, h2⟩ := hc
    have h3 : ¬ fn.body = none := by intro hb; simp [hb] at h2
    simp only [beq_eq_false_iff_ne, ne_eq] at h1
    simp [invoke, callFunc, go_sem, hfn, h1, h3]
  · cases hc
/-- A call of yield by who is ranged over. -/
theorem lyield {x y : Operand} {i : Nat} {v : Value} {d : Nat} {ts : Array TypeId} {ty : TypeId} {pos : String} {af : Array Edge} {Rt : Value → World → World → Prop} {Rp : List PanicEntry → World → World → Prop} (hn : Nat.blt d n = true)
    (hx : Ev E x (.func (.yield i) #[] #[])) (hy : Ev E y v)
    (h : ∀ w, St w0 T H w → Yields P i #[v] w fun e w' => (∃ u, e = .returned u ∧ Rt u w w') ∨ ∃ ch, e = .panicked ch ∧ Rp ch w w')
    (k1 : ∀ u w w', St w0 T H w → Rt u w w' → ∃ w1 T1 H1, St w1 T1 H1 w' ∧ LW r ds P ops Q l n ((d, u) :: E) w1 T1 H1) (k2 : ∀ ch w w', St w0 T H w → Rp ch w w' → ∃ w1 T1 H1, St w1 T1 H1 w' ∧ XW ds Q (.panic ch) n E w1 T1 H1) :
    LW r ds P ops Q (⟨some d, .call ⟨.value x, #[y], ts⟩, ty, pos, af, none⟩ :: l) n E w0 T H := fun a w hF hS => by
  refine wpListIn_plain rfl fun K hK => ⟨fun q hq => ?_, ?_⟩
  · simp only [Oper.about, resolve, hF.ev hx] at hq
    simp [Deferred.ofValue, Target.leads, go_sem] at hq
  obtain ⟨fn, tm, as, bd, h1, h2⟩ := h w hS
  rw [show (FF P r).round = r from rfl, Oper.semAt_eq r _ _ (by intro c; simp)]
  rw [done_yield (hF.ev hx) (hF.ev hy) h1]
  refine ⟨fun hh => by simp [FF] at hh, ?_⟩
  refine (RoundIn.mono h2 ?_ : RoundIn (FF P none) (0 - 1) P i fn tm as bd w _)
  rintro e w' (⟨u, rfl, hu⟩ | ⟨ch, rfl, hc⟩)
  · obtain ⟨w1, T1, H1, hS1, hk⟩ := k1 u w w' hS hu
    refine hK _ _ (hk _ _ ?_ hS1)
    exact hF.put hn _
  · obtain ⟨w1, T1, H1, hS1, hk⟩ := k2 ch w w' hS hc
    exact hk a w' hF hS1

/-! Who ranges: the loop's record, the block for deferred calls, and what is known besides. -/
def recO (fn : FuncId) (tm : Array Value) (p : Nat) (assign body : Code) (D : Nat) (st : LoopState) (pd : Option Code) : Obj := .loop { state := st, pending := pd, fn, tmps := tm, params := #[p], assign, body, defers := D }
def dfr : Obj := .deferred (some [])
def mark1 (D : Nat) : Deferred := { target := .collected D, args := #[] }
def roundQ {S : Type} (ds : List Deferred) (Q : Exit → Act → World → Prop) (n : Nat) (E : Env) (w0 : World) (T : Nat → Prop) (Hi : S → Heap) (F : Nat → S → Prop) (k L D : Nat) (rb : Obj) (wk : World) (Tk : Nat → Prop) : Exit → Act → World → Prop
  | .normal, _, w => ∃ s', F (k + 1) s' ∧ St wk Tk ((L, rb) :: (D, dfr) :: Hi s') w
  | .panic ch, a, w => a.defers = [] ∧ ∃ H', St wk Tk ((L, rb) :: (D, dfr) :: H') w ∧ XW (mark1 D :: ds) Q (.panic ch) n E w0 T ((D, dfr) :: H')
  | .ret, _, w => ∃ H', St wk Tk ((L, rb) :: (D, dfr) :: H') w ∧ XW (mark1 D :: ds) Q .ret n E w0 T ((D, dfr) :: H')
  | .exit id, _, w => ∃ H', St wk Tk ((L, rb) :: (D, dfr) :: H') w ∧ XW (mark1 D :: ds) Q (.exit id) n E w0 T ((D, dfr) :: H')
  | _, _, _ => False
section
variable {S : Type} {Hi : S → Heap} {F : Nat → S → Prop} {k L D m : Nat} {rb : Obj} {wk : World} {Tk : Nat → Prop} {E' : Env} {ds' : List Deferred}
theorem xw_rnext (s' : S) (hF : F (k + 1) s') (hH : Pick H ((L, rb) :: (D, dfr) :: Hi s')) : XW ds' (roundQ ds Q n E w0 T Hi F k L D rb wk Tk) .normal m E' wk Tk H := fun _ _ _ hS => ⟨s', hF, hS.pick hH⟩
theorem xw_rret (hH : Pick H ((L, rb) :: (D, dfr) :: H')) (h : XW (mark1 D :: ds) Q .ret n E w0 T ((D, dfr) :: H')) : XW ds' (roundQ ds Q n E w0 T Hi F k L D rb wk Tk) .ret m E' wk Tk H := fun _ _ _ hS => ⟨H', hS.pick hH, h⟩
theorem xw_rexit {id : Nat} (hH : Pick H ((L, rb) :: (D, dfr) :: H')) (h : XW (mark1 D :: ds) Q (.exit id) n E w0 T ((D, dfr) :: H')) : XW ds' (roundQ ds Q n E w0 T Hi F k L D rb wk Tk) (.exit id) m E' wk Tk H := fun _ _ _ hS => ⟨H', hS.pick hH, h⟩
theorem xw_rpanic {ch : List PanicEntry} (hH : Pick H ((L, rb) :: (D, dfr) :: H')) (h : XW (mark1 D :: ds) Q (.panic ch) n E w0 T ((D, dfr) :: H')) : XW [] (roundQ ds Q n E w0 T Hi F k L D rb wk Tk) (.panic ch) m E' wk Tk H := fun _ _ hF hS => ⟨hF.defers, H', hS.pick hH, h⟩
end
/-- The round begins. -/
theorem xw_begin {body : Code} {L : Nat} {rc : Loop} {Qr : Exit → Act → World → Prop} {ds' : List Deferred} (hs : rc.state = .ready) (k : CW (some L) ds' P Qr body n E w0 T ((L, .loop { rc with state := .busy }) :: H)) : XW ds' (beginQ P body L Qr) .normal n E w0 T ((L, .loop rc) :: H) := fun a w hF hS =>
  ⟨_, run_beginRound ((hS.own (L, .loop rc) (by simp)).1) hs, k _ _ hF (hS.putO _)⟩
theorem cw_range {g : Operand} {p : Nat} {assign body : Code} {f : FuncId} {cs xs : List Value} {Cap : Nat → Prop} {S : Type} (Hi : S → Heap) (F : Nat → S → Prop) (s0 : S) (hc : callB P f = true) (hg : Ev E g (.func (.func f) #[] cs.toArray)) (hp : Nat.blt p n = true)
    (it : ∀ w, St w0 T H w → IterAt P f cs xs Cap w) (cap : ∀ c, Cap c → c < w0.heap.size ∧ ¬ T c) (hF0 : F 0 s0) (hH : Pick H (Hi s0))
    (round : ∀ (L D : Nat) (fn : FuncId) (tm : Array Value) (k : Nat) (s : S) (x : Value) (w1 : World), xs[k]? = some x → F k s → St w0 T ((L, recO fn tm p assign body D .ready none) :: (D, dfr) :: Hi s) w1 →
      CW (some L) [] P (beginQ P body L (roundQ ds Q n E w0 T Hi F k L D (recO fn tm p assign body D .busy none) w1 (blk ((L, recO fn tm p assign body D .ready none) :: (D, dfr) :: Hi s)))) assign n ((p, x) :: E) w1
        (blk ((L, recO fn tm p assign body D .ready none) :: (D, dfr) :: Hi s)) ((L, recO fn tm p assign body D .ready none) :: (D, dfr) :: Hi s))
    (k : ∀ D s, F xs.length s → XW (mark1 D :: ds) Q .normal n E w0 T ((D, dfr) :: Hi s)) : CW none ds P Q (.rangeFunc g #[p] assign body) n E w0 T H := fun a w hF hS => by
  refine wpIn_rangeFunc fun fn hfn => ?_
  have hg' := hF.ev hg
  have hcf : (P.funcs[f]?).isSome = true := callB_some hc
  let D := w.heap.size
  let L := w.heap.size + 1
  let HH := fun s => (L, recO fn a.tmps p assign body D .ready none) :: (D, dfr) :: Hi s
  let w1 := (w.alloc dfr).alloc (recO fn a.tmps p assign body D .ready none)
  have hS1 : St w0 T (HH s0) w1 := by
    have := ((hS.pick hH).alloc dfr).alloc (recO fn a.tmps p assign body D .ready none)
    rwa [show (w.alloc dfr).heap.size = L from World.size_alloc _ _] at this
  have hS2 : ∀ c, Cap c → ¬ blk (HH s0) c := fun c hc ⟨x, hx, e⟩ => by
    obtain ⟨q1, q2⟩ := cap c hc
    rcases (hS1.own x hx).2 with h | h
    · omega
    · exact q2 (e ▸ h)
  have hb : Below w.heap.size w w1 := ((Below.refl _ _).alloc (Nat.le_refl _) _).alloc (by simp) _
  have hB : w0.heap.size ≤ w1.heap.size := hS1.size
  refine ⟨L, [mark1 D], w1, _, w1, f, _, w1, run_enterLoop_outer fn a.tmps #[p] assign body, res_range hg' rfl, fun f' hf' => ?_, inv_range hc, fun hh => by simp [FF] at hh, ?_⟩
  · simp only [Target.leads] at hf'
    cases hf'
    exact hcf
  let J : Nat → (Nat → Prop) → World → Prop := fun k T' w' => ∃ s, F k s ∧ T' = blk (HH s) ∧ St w0 T (HH s) w'
  let Jx : (Nat → Prop) → World → Prop := fun T' w' => ∃ c H', T' = blk ((L, recO fn a.tmps p assign body D .done (some c)) :: (D, dfr) :: H') ∧ St w0 T ((L, recO fn a.tmps p assign body D .done (some c)) :: (D, dfr) :: H') w' ∧
    ((c = .ret ∧ XW (mark1 D :: ds) Q .ret n E w0 T ((D, dfr) :: H')) ∨ ∃ id, c = .exit id ∧ XW (mark1 D :: ds) Q (.exit id) n E w0 T ((D, dfr) :: H'))
  let Jp : List PanicEntry → (Nat → Prop) → World → Prop := fun ch T' w' => ∃ H', T' = blk ((L, recO fn a.tmps p assign body D .busy none) :: (D, dfr) :: H') ∧ St w0 T ((L, recO fn a.tmps p assign body D .busy none) :: (D, dfr) :: H') w' ∧ XW (mark1 D :: ds) Q (.panic ch) n E w0 T ((D, dfr) :: H')
  have hFr : Fr (mark1 D :: ds) n E { a with defers := [mark1 D] ++ a.defers } := ⟨hF.size, by simp [hF.defers], hF.get⟩
  have new : ∀ {wk : World} {Tk : Nat → Prop} {G : Heap} {w' : World}, St wk Tk G w' → ∀ b, blk G b → Tk b ∨ wk.heap.size ≤ b := fun h b ⟨x, hx, e⟩ => by
    rcases (h.own x hx).2 with q | q
    · exact .inr (e ▸ q)
    · exact .inl (e ▸ q)
  have hR : Rounds P L xs w1.heap.size J Jx Jp := by
    refine ⟨?_, ?_, ?_, ?_, ?_, ?_, ?_⟩
    · rintro k T' u u' ⟨s, h1, rfl, h2⟩ hk
      exact ⟨s, h1, rfl, h2.keepB hB hk⟩
    · rintro T' u u' ⟨c, H', rfl, h2, h3⟩ hk
      exact ⟨c, H', rfl, h2.keepB hB hk, h3⟩
    · rintro ch T' u u' ⟨H', rfl, h2, h3⟩ hk
      exact ⟨H', rfl, h2.keepB hB hk, h3⟩
    · rintro k T' u ⟨s, h1, rfl, h2⟩ b ⟨x, hx, e⟩
      exact e ▸ h2.lt (b := x.1) (o := x.2) hx
    · rintro T' u ⟨c, H', rfl, h2, h3⟩ b ⟨x, hx, e⟩
      exact e ▸ h2.lt (b := x.1) (o := x.2) hx
    · rintro ch T' u ⟨H', rfl, h2, h3⟩ b ⟨x, hx, e⟩
      exact e ▸ h2.lt (b := x.1) (o := x.2) hx
    · rintro k x T' u hx ⟨s, h1, rfl, h2⟩
      refine ⟨fn, _, assign, body, run_yield (r := { state := .ready, pending := none, fn, tmps := a.tmps, params := #[p], assign, body, defers := D }) ((h2.own (L, recO fn a.tmps p assign body D .ready none) List.mem_cons_self).1) (by simp), ?_⟩
      refine roundIn_P hfn ?_
      have hw := round L D fn a.tmps k s x u hx h1 h2 { tmps := a.tmps.setIfInBounds p x, defers := [] } u ?_ h2.self
      · refine wpIn_mono (by simpa using hw) ?_
        intro e a1 u1 hq
        cases e with
        | normal =>
          obtain ⟨u2, hb1, hb2⟩ := hq
          refine ⟨u2, hb1, wpIn_mono hb2 ?_⟩
          intro e a2 u3 hq
          cases e with
          | normal =>
            obtain ⟨s', f1, f2⟩ := hq
            have f3 := f2.putO (recO fn a.tmps p assign body D .ready none)
            refine ⟨_, _, run_endRound none ((f2.own (L, recO fn a.tmps p assign body D .busy none) (by simp)).1), f3.less (List.nil_sublist _), _, new f3, .inl ⟨rfl, s', f1, rfl, h2.join0 f3⟩⟩
          | ret =>
            obtain ⟨H', f2, f4⟩ := hq
            have f3 := f2.putO (recO fn a.tmps p assign body D .done (some .ret))
            refine ⟨_, _, run_endRound (some .ret) ((f2.own (L, recO fn a.tmps p assign body D .busy none) (by simp)).1), f3.less (List.nil_sublist _), _, new f3, .inr (.inl ⟨rfl, .ret, H', rfl, h2.join0 f3, .inl ⟨rfl, f4⟩⟩)⟩
          | exit id =>
            obtain ⟨H', f2, f4⟩ := hq
            have f3 := f2.putO (recO fn a.tmps p assign body D .done (some (.exit id)))
            refine ⟨_, _, run_endRound (some (.exit id)) ((f2.own (L, recO fn a.tmps p assign body D .busy none) (by simp)).1), f3.less (List.nil_sublist _), _, new f3, .inr (.inl ⟨rfl, .exit id, H', rfl, h2.join0 f3, .inr ⟨id, rfl, f4⟩⟩)⟩
          | panic ch =>
            obtain ⟨hd, H', f2, f4⟩ := hq
            exact ⟨hd, f2.less (List.nil_sublist _), _, new f2, .inr (.inr ⟨ch, rfl, H', rfl, h2.join0 f2, f4⟩)⟩
          | goto t => exact hq.elim
          | outgrown => exact hq.elim
        | exit id => exact hq.elim
        | goto t => exact hq.elim
        | ret => exact hq.elim
        | panic ch => exact hq.elim
        | outgrown => exact hq.elim
      · have := (show Fr [] n E { tmps := a.tmps, defers := [] } from ⟨hF.size, rfl, hF.get⟩).put hp x
        exact this
  refine (CallsIn.mono (it w hS L J Jx Jp _ w1 hb hR hS2 ⟨s0, hF0, rfl, hS1⟩) ?_ : CallsIn (FF P none) (0 - 1) P f _ w1 _)
  rintro e u (⟨rfl, h⟩ | ⟨ch, rfl, T', H', rfl, h2, h3⟩)
  · rcases h with ⟨T', s, f1, rfl, f2⟩ | ⟨T', c, H', rfl, f2, f3⟩
    · exact ⟨_, _, run_endLoop (r := { state := .ready, pending := none, fn, tmps := a.tmps, params := #[p], assign, body, defers := D }) ((f2.own (L, recO fn a.tmps p assign body D .ready none) List.mem_cons_self).1) (by simp), k D s f1 _ _ hFr (f2.put1 _)⟩
    · refine ⟨_, _, run_endLoop (r := { state := .done, pending := some c, fn, tmps := a.tmps, params := #[p], assign, body, defers := D }) ((f2.own (L, recO fn a.tmps p assign body D .done (some c)) (by simp)).1) (by simp), ?_⟩
      rcases f3 with ⟨rfl, f4⟩ | ⟨id, rfl, f4⟩
      · exact wpIn_ret (f4 _ _ hFr (f2.put1 _))
      · exact wpIn_exit (f4 _ _ hFr (f2.put1 _))
  · exact h3 _ _ hFr (h2.less (List.sublist_cons_self _ _))
end
end Go.Proofs.Ytjdeplehhmhpcaa.En
namespace Go.Proofs.Ytjdeplehhmhpcaa.En
open Go.RowKit
def arrT (P : Program) (t : TypeId) : Option (Nat × TypeId) :=
  match P.underlying t with
  | some (.array n e) => some (n, e)
  | _ => none
/-- Which function a method's name leads to, on a value of a type. -/
def MethB (P : Program) (t : TypeId) (name : String) (f : FuncId) : Prop := ∀ v w, (method (P.types.size + Made.depth) t v name).run P w = .ok (f, v) w
section
variable {P : Program} {ops : Array Oper} {Q : Exit → Act → World → Prop} {n : Nat} {E : Env} {w0 w : World} {T : Nat → Prop} {H : Heap} {d : Option Tmp} {t ty : TypeId} {pos : String} {af : Array Edge} {g : Option (Nat × Bool)} {x y z : Operand} {v u : Value} {b off : Nat}
theorem run_indexN {m k i : Nat} {e : TypeId} {kd : IntKind} {cs l : List Value} (hx : Ev E x (.agg cs.toArray)) (hy : Ev E y (.int kd (i : Int))) (ha : arrT P t = some (m, e)) (hk : kindB P e = some true) (hz : sizeB P e = some k) (hi : i < m) (hc : Sub cs (i * k) k l) :
    RunB P E w0 T H ⟨d, .index t x y, ty, pos, af, g⟩ (.agg l.toArray) := fun ρ w hρ hS => by
  refine doneO rfl ?_
  have e1 := hρ x _ (by simp [Op.operands]) hx
  have e2 := hρ y _ (by simp [Op.operands]) hy
  unfold arrT at ha
  split at ha
  · rename_i m' e' hu
    cases ha
    have h1 := run_underlying hu w
    have h2 := run_isAgg hk w
    have h3 := run_size hz w
    have h4 := hc.extract
    simp [execOp, e1, e2, Done, go_sem, Instr.index, asIntOf, h1, h2, h3, part, asAgg, h4, hi, Below.refl]
  · cases ha
theorem run_shl {k yk : IntKind} {tx tyy : TypeId} {a c c' : Int} (hx : Ev E x (.int k a)) (hy : Ev E y (.int yk c)) (hc : 0 ≤ c) (h : k.wrap (a * 2 ^ (min c.toNat k.bits)) = c') : RunB P E w0 T H ⟨d, .binOp .shl tx x y tyy, ty, pos, af, g⟩ (.int k c') := fun ρ w hρ hS => by
  refine doneO rfl ?_
  have e1 := hρ x _ (by simp [Op.operands]) hx
  have e2 := hρ y _ (by simp [Op.operands]) hy
  have h0 : ¬ c < 0 := by omega
  subst h
  simp [execOp, e1, e2, Done, go_sem, eqGuard, binOp, Op.shift, h0, Below.refl]
theorem run_or {k : IntKind} {tx tyy : TypeId} {a c c' : Int} (hx : Ev E x (.int k a)) (hy : Ev E y (.int k c)) (h : k.wrap ((BitVec.ofInt k.bits a ||| BitVec.ofInt k.bits c).toNat) = c') : RunB P E w0 T H ⟨d, .binOp .or tx x y tyy, ty, pos, af, g⟩ (.int k c') := fun ρ w hρ hS => by
  refine doneO rfl ?_
  have e1 := hρ x _ (by simp [Op.operands]) hx
  have e2 := hρ y _ (by simp [Op.operands]) hy
  subst h
  simp [execOp, e1, e2, Done, go_sem, eqGuard, binOp, Op.intBits, Below.refl]
theorem done_invoke {f : FuncId} {t : TypeId} {v : Value} {name : String} {xs : List Operand} {vs : List Value} {ts : Array TypeId} {ρ : Operand → Value} (hc : callB P f = true) (hm : MethB P t name f) (e2 : ρ x = .iface t v) (e1 : xs.map ρ = vs) :
    (execOp ρ ⟨d, .call ⟨.invoke x name, xs.toArray, ts⟩, ty, pos, af, g⟩).run P w = .ok (.enter f (v :: vs).toArray) w := by
  unfold callB at hc
  split at hc
  · rename_i fn hfn
    simp only [Bool.and_eq_true, Bool.not_eq_true'] at hc
    obtain ⟨h1, h2⟩ := hc
    have h3 : ¬ fn.body = none := by intro hb; simp [hb] at h2
    simp only [beq_eq_false_iff_ne, ne_eq] at h1
    have hm' : (method (P.types.size + 100) t v name).run P w = .ok (f, v) w := hm v w
    have ht : List.take xs.length (List.map ρ xs) = List.map ρ xs := List.take_of_length_le (by simp)
    subst e1
    simp [execOp, resolve, e2, invoke, callMethod, callFunc, go_sem, hm', hfn, h1, h3, ht]
  · cases hc
theorem invoke_about {f : FuncId} {t : TypeId} {v : Value} {name : String} {xs : List Operand} {ts : Array TypeId} {ρ : Operand → Value} (hc : callB P f = true) (hm : MethB P t name f) (e2 : ρ x = .iface t v) :
    ∀ q, (⟨d, .call ⟨.invoke x name, xs.toArray, ts⟩, ty, pos, af, g⟩ : Oper).about P w ρ = some q → (P.funcs[q]?).isSome = true := fun q hq => by
  have hm' : (method (P.types.size + 100) t v name).run P w = .ok (f, v) w := hm v w
  simp only [Oper.about, resolve, e2] at hq
  simp [Target.leads, go_sem, hm'] at hq
  rw [← hq]; exact callB_some hc
/-- A call of a method by its name. -/
theorem run_invoke {f : FuncId} {t : TypeId} {v : Value} {name : String} {xs : List Operand} {vs : List Value} {ts : Array TypeId} {r : Value} (hc : callB P f = true) (hm : MethB P t name f) (hx : Ev E x (.iface t v)) (ha : Evs E xs vs) (h : ∀ w, St w0 T H w → Gives P f (v :: vs) w r) :
    RunB P E w0 T H ⟨d, .call ⟨.invoke x name, xs.toArray, ts⟩, ty, pos, af, g⟩ r := fun ρ w hρ hS => by
  have e2 := hρ x _ (by simp [Op.operands, Call.operands]) hx
  have e1 := evs_map ha (fun x u hm => hρ x u (by simp [Op.operands, Call.operands, hm]))
  refine ⟨invoke_about hc hm e2, ?_⟩
  rw [done_invoke hc hm e2 e1]
  exact (h w hS).out.mono fun e w' ⟨h2, h3⟩ => ⟨r, h2, rfl, h3⟩
end
section
variable {P : Program} {ops : Array Oper} {Q : Exit → Act → World → Prop} {n : Nat} {E : Env} {w0 w : World} {T : Nat → Prop} {H : Heap} {d : Option Tmp} {t ty : TypeId} {pos : String} {af : Array Edge} {g : Option (Nat × Bool)} {x y z : Operand} {v u : Value} {b off : Nat}
theorem run_index1 {m i : Nat} {e : TypeId} {kd : IntKind} {cs : List Value} (hx : Ev E x (.agg cs.toArray)) (hy : Ev E y (.int kd (i : Int))) (ha : arrT P t = some (m, e)) (hk : kindB P e = some false) (hz : sizeB P e = some 1) (hi : i < m) (hc : cs[i]? = some v) :
    RunB P E w0 T H ⟨d, .index t x y, ty, pos, af, g⟩ v := fun ρ w hρ hS => by
  refine doneO rfl ?_
  have e1 := hρ x _ (by simp [Op.operands]) hx
  have e2 := hρ y _ (by simp [Op.operands]) hy
  unfold arrT at ha
  split at ha
  · rename_i m' e' hu
    cases ha
    have h1 := run_underlying hu w
    have h2 := run_isAgg hk w
    have h3 := run_size hz w
    simp [execOp, e1, e2, Done, go_sem, Instr.index, asIntOf, h1, h2, h3, part, asAgg, hc, hi, Below.refl]
  · cases ha
/-- A call of a method's value: its receiver comes first. -/
theorem done_callm {f : FuncId} {xs : List Operand} {vs fs as : List Value} {ts : Array TypeId} {ρ : Operand → Value} (hc : callB P f = true) (e2 : ρ x = .func (.func f) fs.toArray #[]) (e1 : xs.map ρ = vs) (hcat : fs ++ vs = as) :
    (execOp ρ ⟨d, .call ⟨.value x, xs.toArray, ts⟩, ty, pos, af, g⟩).run P w = .ok (.enter f as.toArray) w := by
  unfold callB at hc
  split at hc
  · rename_i fn hfn
    simp only [Bool.and_eq_true, Bool.not_eq_true'] at hc
    obtain ⟨h1, h2⟩ := hc
    have h3 : ¬ fn.body = none := by intro hb; simp [hb] at h2
    simp only [beq_eq_false_iff_ne, ne_eq] at h1
    simp [execOp, resolve, Deferred.ofValue, e2, invoke, callFunc, go_sem, hfn, h1, h3, e1, ← hcat]
  · cases hc
theorem callm_about {f : FuncId} {fs : List Value} {xs : List Operand} {ts : Array TypeId} {ρ : Operand → Value} (hc : callB P f = true) (hf : ρ x = .func (.func f) fs.toArray #[]) :
    ∀ q, (⟨d, .call ⟨.value x, xs.toArray, ts⟩, ty, pos, af, g⟩ : Oper).about P w ρ = some q → (P.funcs[q]?).isSome = true := fun q hq => by
  simp only [Oper.about, resolve, hf] at hq
  simp [Deferred.ofValue, Target.leads, go_sem] at hq
  rw [← hq]; exact callB_some hc
theorem run_callm1 {f : FuncId} {xs : List Operand} {vs fs as : List Value} {ts : Array TypeId} {r : Value} (hc : callB P f = true) (hx : Ev E x (.func (.func f) fs.toArray #[])) (ha : Evs E xs vs) (hcat : fs ++ vs = as)
    (h : ∀ w, St w0 T H w → Gives P f as w r) : RunB P E w0 T H ⟨d, .call ⟨.value x, xs.toArray, ts⟩, ty, pos, af, g⟩ r := fun ρ w hρ hS => by
  have e1 := evs_map ha (fun x u hm => hρ x u (by simp [Op.operands, Call.operands, hm]))
  have e2 := hρ x _ (by simp [Op.operands, Call.operands]) hx
  refine ⟨callm_about hc e2, ?_⟩
  rw [done_callm hc e2 e1 hcat]
  exact (h w hS).out.mono fun e w' ⟨h2, h3⟩ => ⟨r, h2, rfl, h3⟩
end
section
variable {r : Option Nat} {P : Program} {ops : Array Oper} {Q : Exit → Act → World → Prop} {n : Nat} {E : Env} {w0 w w' : World} {T : Nat → Prop} {H H' : Heap}
/-- A loop whose rounds leave marks. -/
theorem cw_loopD {c : Code} {S : Type} (Di : S → List Deferred) (Ei : S → Env) (Ec : Env) (Hi : S → Heap) (F : S → Prop) (μ : S → Nat) (s0 : S) (hF0 : F s0) (hE : Less E (Ei s0 ++ Ec)) (hH : Pick H (Hi s0))
    (round : ∀ s, F s → CW r (Di s) P (Exit.then (fun a w => ∃ s', F s' ∧ μ s' < μ s ∧ Fr (Di s') n (Ei s' ++ Ec) a ∧ St w0 T (Hi s') w) Q) c n (Ei s ++ Ec) w0 T (Hi s)) : CW r (Di s0) P Q (.loop c) n E w0 T H := fun a w hF hS => by
  refine wpIn_loop_ghost (fun k a w => ∃ s, F s ∧ μ s = k ∧ Fr (Di s) n (Ei s ++ Ec) a ∧ St w0 T (Hi s) w) (μ s0) ⟨s0, hF0, rfl, hF.less hE, hS.pick hH⟩ ?_
  rintro k a w ⟨s, hs, rfl, hF', hS'⟩
  refine wpIn_mono (round s hs a w hF' hS') ?_
  intro e a' w' hq
  cases e with
  | normal =>
    obtain ⟨s', h1, h2, h3, h4⟩ := hq
    exact ⟨μ s', h2, s', h1, rfl, h3, h4⟩
  | exit id => exact hq
  | goto l => exact hq
  | ret => exact hq
  | panic ch => exact hq
  | outgrown => exact hq
theorem xw_roundD {S : Type} {Di : S → List Deferred} {Ei : S → Env} {Hi : S → Heap} {F : S → Prop} {μ : S → Nat} {m : Nat} (s' : S) (hF : F s') (hμ : μ s' < m) (hE : Less E (Ei s')) (hH : Pick H (Hi s')) :
    XW (Di s') (Exit.then (fun a w => ∃ s', F s' ∧ μ s' < m ∧ Fr (Di s') n (Ei s') a ∧ St w0 T (Hi s') w) Q) .normal n E w0 T H := fun _ _ hF' hS => ⟨s', hF, hμ, hF'.less hE, hS.pick hH⟩
end
/-! Who is ranged over. -/
section
variable {r : Option Nat} {ds : List Deferred} {P : Program} {ops : Array Oper} {Q : Exit → Act → World → Prop} {n : Nat} {E : Env} {w0 w w' : World} {T : Nat → Prop} {H H' : Heap} {l : List Oper}
/-- A loop whose base world is another one in each state. -/
theorem cw_loopW {c : Code} {S : Type} (Ei : S → Env) (Ec : Env) (Wi : S → World) (Ti : S → Nat → Prop) (Hi : S → Heap) (F : S → Prop) (μ : S → Nat) (s0 : S) (hF0 : F s0) (hE : Less E (Ei s0 ++ Ec)) (hH : ∀ w, St w0 T H w → St (Wi s0) (Ti s0) (Hi s0) w)
    (round : ∀ s, F s → CW r ds P (Exit.then (fun a w => ∃ s', F s' ∧ μ s' < μ s ∧ Fr ds n (Ei s' ++ Ec) a ∧ St (Wi s') (Ti s') (Hi s') w) Q) c n (Ei s ++ Ec) (Wi s) (Ti s) (Hi s)) : CW r ds P Q (.loop c) n E w0 T H := fun a w hF hS => by
  refine wpIn_loop_ghost (fun k a w => ∃ s, F s ∧ μ s = k ∧ Fr ds n (Ei s ++ Ec) a ∧ St (Wi s) (Ti s) (Hi s) w) (μ s0) ⟨s0, hF0, rfl, hF.less hE, hH w hS⟩ ?_
  rintro k a w ⟨s, hs, rfl, hF', hS'⟩
  refine wpIn_mono (round s hs a w hF' hS') ?_
  intro e a' w' hq
  cases e with
  | normal =>
    obtain ⟨s', h1, h2, h3, h4⟩ := hq
    exact ⟨μ s', h2, s', h1, rfl, h3, h4⟩
  | exit id => exact hq
  | goto l => exact hq
  | ret => exact hq
  | panic ch => exact hq
  | outgrown => exact hq
theorem xw_roundW {S : Type} {Ei : S → Env} {Wi : S → World} {Ti : S → Nat → Prop} {Hi : S → Heap} {F : S → Prop} {μ : S → Nat} {m : Nat} (s' : S) (hF : F s') (hμ : μ s' < m) (hE : Less E (Ei s')) (hH : ∀ w, St w0 T H w → St (Wi s') (Ti s') (Hi s') w) :
    XW ds (Exit.then (fun a w => ∃ s', F s' ∧ μ s' < m ∧ Fr ds n (Ei s') a ∧ St (Wi s') (Ti s') (Hi s') w) Q) .normal n E w0 T H := fun _ w hF' hS => ⟨s', hF, hμ, hF'.less hE, hH w hS⟩
theorem keepB_below {B : Nat} {T : Nat → Prop} {w w' : World} (h : Below w.heap.size w w') (hT : ∀ b, T b → b < w.heap.size) (hB : B ≤ w.heap.size) : KeepB B T w w' :=
  ⟨h.os, h.tape, h.output, h.size, fun b hb => h.block b (hb.elim (fun h => Nat.lt_of_lt_of_le h hB) (hT b))⟩
def RtY (J : Nat → (Nat → Prop) → World → Prop) (Jx : (Nat → Prop) → World → Prop) (k : Nat) (T : Nat → Prop) (u : Value) (w w' : World) : Prop :=
  St w T [] w' ∧ ∃ T', (∀ b, T' b → T b ∨ w.heap.size ≤ b) ∧ ((u = .bool true ∧ J (k + 1) T' w') ∨ (u = .bool false ∧ Jx T' w'))
def RpY (Jp : List PanicEntry → (Nat → Prop) → World → Prop) (T : Nat → Prop) (ch : List PanicEntry) (w w' : World) : Prop :=
  St w T [] w' ∧ ∃ T', (∀ b, T' b → T b ∨ w.heap.size ≤ b) ∧ Jp ch T' w'
theorem Rounds.yield {i B : Nat} {xs : List Value} {J : Nat → (Nat → Prop) → World → Prop} {Jx : (Nat → Prop) → World → Prop} {Jp : List PanicEntry → (Nat → Prop) → World → Prop} (R : Rounds P i xs B J Jx Jp) {k : Nat} {x : Value} {T : Nat → Prop} {W w : World} {H : Heap} (hx : xs[k]? = some x) (hJ : J k T W) (hB : B ≤ W.heap.size)
    (hS : St W NoT H w) : Yields P i #[x] w fun e w' => (∃ u, e = .returned u ∧ RtY J Jx k T u w w') ∨ ∃ ch, e = .panicked ch ∧ RpY Jp T ch w w' :=
  (R.go k x T w hx (R.sJ k T W w hJ (keepB_below hS.kept (R.low k T W hJ) hB))).mono fun e w' ⟨h1, T', h2, h3⟩ => by
    rcases h3 with ⟨rfl, h⟩ | ⟨rfl, h⟩ | ⟨ch, rfl, h⟩
    · exact .inl ⟨_, rfl, h1, T', h2, .inl ⟨rfl, h⟩⟩
    · exact .inl ⟨_, rfl, h1, T', h2, .inr ⟨rfl, h⟩⟩
    · exact .inr ⟨ch, rfl, h1, T', h2, h⟩
end
section
variable {r : Option Nat} {ds : List Deferred} {P : Program} {ops : Array Oper} {Q : Exit → Act → World → Prop} {n : Nat} {E : Env} {w0 w w' : World} {T : Nat → Prop} {H H' : Heap} {l : List Oper} {fn : Func} {R : Ending → World → Prop}
theorem St.blk_lt (h : St w0 T H w) : ∀ b, blk H b → b < w.heap.size := fun b ⟨x, hx, e⟩ => e ▸ h.lt (b := x.1) (o := x.2) hx
/-- A call behind which what is known is told of the world that it leaves; what it made lies behind lo. -/
theorem lcallN {dd : Nat} {f : FuncId} {xs : List Operand} {vs : List Value} {ts : Array TypeId} {ty : TypeId} {pos : String} {af : Array Edge} {X : Type} {F : X → Nat → World → Prop} {rv : X → Value}
    (hn : Nat.blt dd n = true) (hc : callB P f = true) (ha : Evs E xs vs) (h : ∀ w, St w0 T H w → CallsF P f vs.toArray w fun e w' => ∃ s, F s w.heap.size w' ∧ e = .returned (rv s) ∧ Below w.heap.size w w')
    (k1 : ∀ s lo w1, F s lo w1 → (∀ b, blk H b → b < lo) → w0.heap.size ≤ lo → lo ≤ w1.heap.size → St w0 T H w1 → LW r ds P ops Q l n ((dd, rv s) :: E) w1 (blk H) H) :
    LW r ds P ops Q (⟨some dd, .call ⟨.value (.func f), xs.toArray, ts⟩, ty, pos, af, none⟩ :: l) n E w0 T H := fun a w hF hS => by
  have e1 := evs_map (ρ := a.eval) ha (fun x u _ hx => hF.ev hx)
  have e2 : a.eval (.func f) = .func (.func f) #[] #[] := rfl
  refine wpListIn_plain rfl fun K hK => ⟨call_about hc e2, ?_⟩
  rw [show (FF P r).round = r from rfl, Oper.semAt_eq r _ _ (by intro c; simp), done_call hc e2 e1]
  refine ⟨fun hh => by simp [FF] at hh, ?_⟩
  refine (CallsIn.mono (h w hS) ?_ : CallsIn (FF P none) (0 - 1) P f vs.toArray w _)
  rintro e w' ⟨s, h1, rfl, hb⟩
  have hS1 := hS.call hb
  exact hK _ _ (k1 s w.heap.size w' h1 hS.blk_lt hS.size hb.size hS1 _ _ (hF.put hn _) hS1.self)
/-- The ends of a function that has ranged over another one. -/
theorem xw_retD1 {D t : Nat} {v : Value} (hr : fn.results = #[.tmp t]) (hv : look t E = some v) (k : ∀ w, St w0 T H w → R (.returned v) w) : XW [mark1 D] (bodyPostM (FF P none) 0 P fn R) .ret n E w0 T ((D, dfr) :: H) :=
  xw_retM (Ds := [D]) fun _ w hF hS => ⟨_, res1 hr hv hF w, k w hS⟩
theorem xw_retD2 {D t u : Nat} {v x : Value} (hr : fn.results = #[.tmp t, .tmp u]) (hv : look t E = some v) (hx : look u E = some x) (k : ∀ w, St w0 T H w → R (.returned (.tuple #[v, x])) w) : XW [mark1 D] (bodyPostM (FF P none) 0 P fn R) .ret n E w0 T ((D, dfr) :: H) :=
  xw_retM (Ds := [D]) fun _ w hF hS => ⟨_, res2 hr hv hx hF w, k w hS⟩
theorem xw_panicD {D : Nat} {ch : List PanicEntry} (k : ∀ w, St w0 T H w → R (.panicked ch) w) : XW [mark1 D] (bodyPostM (FF P none) 0 P fn R) (.panic ch) n E w0 T ((D, dfr) :: H) := xw_panicM (Ds := [D]) k
theorem xw_panicDs {Ds : List Nat} {ch : List PanicEntry} (k : ∀ w, St w0 T H w → R (.panicked ch) w) : XW (Ds.map mark1) (bodyPostM (FF P none) 0 P fn R) (.panic ch) n E w0 T (Ds.map (fun D => (D, dfr)) ++ H) := xw_panicM (Ds := Ds) k
theorem xw_retDs1 {Ds : List Nat} {t : Nat} {v : Value} (hr : fn.results = #[.tmp t]) (hv : look t E = some v) (k : ∀ w, St w0 T H w → R (.returned v) w) : XW (Ds.map mark1) (bodyPostM (FF P none) 0 P fn R) .ret n E w0 T (Ds.map (fun D => (D, dfr)) ++ H) :=
  xw_retM (Ds := Ds) fun _ w hF hS => ⟨_, res1 hr hv hF w, k w hS⟩
end
/-! make. -/
theorem madeCells_same {z0 : Value} {z : Array Value} (n : Nat) (h : ∀ i, i < z.size → z[i]? = some z0) (h0 : 0 < z.size) : madeCells z n = (List.replicate n z0).toArray := by
  apply Array.ext
  · simp [madeCells]
  · intro i h1 h2
    have hm : i % z.size < z.size := Nat.mod_lt _ h0
    have := h _ hm
    rw [Array.getElem?_eq_getElem hm] at this
    simp [madeCells, Option.some.inj this, hm]
section
variable {P : Program} {w0 : World} {T : Nat → Prop} {R : Heap} {E : Env} {x y : Operand} {d : Option Tmp} {t ty : TypeId} {pos : String} {af : Array Edge} {g : Option (Nat × Bool)}
theorem lr_make0 {e sz by_ n : Nat} {z0 : Value} (ht : appB P t e sz by_ = true) (hz : zeroB P e = some (List.replicate sz z0)) (h0 : 0 < sz) (hx : Ev E x (.int .i64 (n : Int))) (hy : Ev E y (.int .i64 (n : Int))) (hb : by_ * n ≤ 281474976710656) (hmx : n ≤ maxLen) :
    LR P E w0 T R [] ⟨d, .makeSlice t x y, ty, pos, af, g⟩ (fun _ : Nat => True) (fun b => .slice (some ⟨b, 0, none⟩) n n) (fun b => [(b, Obj.cells (List.replicate (n * sz) z0).toArray e (0, 0))]) :=
  lr_new fun ρ w hρ => by
    refine doneO rfl ?_
    have e1 := hρ x _ (by simp [Op.operands]) hx
    have e2 := hρ y _ (by simp [Op.operands]) hy
    obtain ⟨hsl, i, z, hi, hz', hsz, hby, hzs⟩ := appT_of ht
    have hc : z.cells.toList = List.replicate sz z0 := by
      unfold zeroB at hz
      rw [hi] at hz
      simpa [hz'] using hz
    have hm : n ≤ 9223372036854775807 := by unfold maxLen at hmx; exact hmx
    have hb' : (i.bytes : Int) * (n : Int) ≤ 281474976710656 := by
      rw [hby, ← Int.natCast_mul]; omega
    have hr := run_make (P := P) w t e i z hsl hi hz' .i64 .i64 (n : Int) (n : Int) (by omega) (by omega) hb' (by omega)
    simp only [Int.toNat_natCast, hsz] at hr
    rw [madeCells_same (z0 := z0) (z := z.cells) (n * sz) (fun k hk => by
      have hk' : k < z.cells.toList.length := by simpa using hk
      rw [← Array.getElem?_toList, hc, List.getElem?_replicate, if_pos (by rw [← List.length_replicate (n := sz) (a := z0), ← hc]; exact hk')]) (by omega)] at hr
    simp only [execOp, e1, e2]
    simp [Done, go_sem, hr]
end
end Go.Proofs.Ytjdeplehhmhpcaa.En
namespace Go.Proofs.Ytjdeplehhmhpcaa.En
open Go.RowKit
abbrev Kn := List (Nat × Nat × Value)
/-- What is known where operation i is done: what comes of those that it waits for. -/
def knU (K : Kn) (us : List Nat) : Env := us.filterMap fun u => (K[u]?).map (·.2)
def wB (l : List Oper) (K : Kn) (i : Nat) (us : List Nat) : Bool := us.all fun u => match K[u]? with | some q => waits l i q.1 | none => false
theorem knU_mem {l : List Oper} {K : Kn} {i : Nat} {us : List Nat} (h : wB l K i us = true) {t : Nat} {v : Value} (hm : (t, v) ∈ knU K us) : ∃ q ∈ K, q.2 = (t, v) ∧ waits l i q.1 = true := by
  obtain ⟨u, hu, e⟩ := List.mem_filterMap.1 hm
  have := List.all_eq_true.1 h u hu
  cases hq : K[u]? with
  | none => rw [hq] at e; cases e
  | some q =>
    rw [hq] at e this
    exact ⟨q, List.mem_of_getElem? hq, by simpa using e, this⟩
inductive AllK (C : Nat × Nat × Value → Prop) : Kn → Prop
  | nil : AllK C []
  | cons {q : Nat × Nat × Value} {r : Kn} : C q → AllK C r → AllK C (q :: r)
theorem AllK.mem {C : Nat × Nat × Value → Prop} {K : Kn} (h : AllK C K) : ∀ q ∈ K, C q := by
  induction h with
  | nil => intro q hq; cases hq
  | cons h1 _ ih => intro q hq; rcases List.mem_cons.1 hq with rfl | hq; exact h1; exact ih q hq
theorem look_app {t : Nat} {v : Value} : ∀ {A E : Env}, look t (A ++ E) = some v → (t, v) ∈ A ∨ look t E = some v
  | [], E, h => .inr h
  | (s, u) :: r, E, h => by
    by_cases e : t = s
    · subst e; rw [List.cons_append, look_self] at h; cases h; exact .inl (by simp)
    · rw [List.cons_append, look_other e] at h
      rcases look_app h with h | h
      · exact .inl (by simp [h])
      · exact .inr h
def okP (l : List Oper) (I : List Inf) (K : Kn) (E : Env) (j n : Nat) : Bool :=
  fineB l n && upB l I && decide (j < l.length) && K.all (fun q => (look q.2.1 E).isNone && decide (slotOf l q.1 = some q.2.1) && decide (q.1 ≠ j)) && decide ((K.map (·.1)).Nodup) &&
  (List.range l.length).all fun i => decide (i = j) || (K.map (·.1)).contains i || (infAt I i).up.testBit j
section
variable {P : Program} {r : Option Nat} {ds : List Deferred} {n : Nat} {Q : Exit → Act → World → Prop} {w0 : World} {T : Nat → Prop} {H : Heap} {E : Env} {l : List Oper}
theorem cw_anyP {id j : Nat} (I : List Inf) (K : Kn) (hm : P.follows .mixedOrders = true) (hok : okP l I K E j n = true)
    (hK : AllK (fun q => ∃ us o, wB l K q.1 us = true ∧ l[q.1]? = some o ∧ o.guard = none ∧ o.dst = some q.2.1 ∧ RunB P (knU K us ++ E) w0 T H o q.2.2) K)
    (hJ : ∃ us o, wB l K j us = true ∧ l[j]? = some o ∧ o.guard = none ∧ ∀ G a w, Fr ds n (knU K us ++ E) a → Fr ds n E a → St w0 T H w → o.wpIn (FF P r) 0 P a w G Q) : CW r ds P Q (.region id l.toArray true) n E w0 T H := fun a0 w1 hF0 hS0 => by
  simp only [okP, Bool.and_eq_true, List.all_eq_true, decide_eq_true_eq] at hok
  obtain ⟨⟨⟨⟨⟨k1, k2⟩, k3⟩, k4⟩, k5⟩, k6⟩ := hok
  have inj : ∀ q ∈ K, ∀ q' ∈ K, q.1 = q'.1 → q = q' := fun q hq q' hq' e => by
    obtain ⟨i, hi, rfl⟩ := List.getElem_of_mem hq
    obtain ⟨i', hi', rfl⟩ := List.getElem_of_mem hq'
    have := (List.getElem_inj (xs := K.map (·.1)) (i := i) (j := i') (h₀ := by simpa using hi) (h₁ := by simpa using hi') k5).1 (by simpa using e)
    subst this; rfl
  refine wpIn_region_any hm ?_
  have main : ∀ (fuel : Nat) (listed : Array Bool) (a : Act) (w : World), listed.size = l.length → (listed.toList.filter (! ·)).length ≤ fuel → (∀ i k, listed.getD i false = true → waits l i k = true → listed.getD k false = true) →
      listed.getD j false = false → Fr ds n E a → (∀ q ∈ K, listed.getD q.1 false = true → a.tmps.getD q.2.1 undef = q.2.2) → St w0 T H w → wpAnyIn (FF P r) 0 P .any l.toArray Q fuel listed a w := by
    intro fuel
    induction fuel with
    | zero =>
      intro listed a w hs hc hcl hj hF hk hS
      exfalso
      have hlt : j < listed.size := by omega
      have h3 : listed[j] = false := by simpa [Array.getD, hlt] using hj
      have : false ∈ listed.toList.filter (! ·) := by
        rw [List.mem_filter]
        exact ⟨by rw [← h3]; simp, rfl⟩
      have := List.length_pos_of_mem this
      omega
    | succ fuel ih =>
      intro listed a w hs hc hcl hj hF hk hS
      refine ⟨fun h => ?_, fun i hi => ?_⟩
      · rw [ready_nil k1 hs h j k3] at hj; cases hj
      obtain ⟨h1, h2, _⟩ := mem_ready hi
      have hil : i < l.length := by simpa using h1
      have hlt : i < listed.size := by omega
      have h3 : listed[i] = false := by simpa [Array.getD, hlt] using h2
      have hwl : ∀ k, waits l i k = true → listed.getD k false = true := fun k hk => wait_listed hi hk
      have hFk : ∀ us, wB l K i us = true → Fr ds n (knU K us ++ E) a := fun us hus => ⟨hF.size, hF.defers, fun t v ht => by
        rcases look_app ht with h | h
        · obtain ⟨q, hq, e, hw⟩ := knU_mem hus h
          have := hk q hq (hwl _ hw)
          rw [e] at this; exact this
        · exact hF.get t v h⟩
      have hk6 := k6 i (List.mem_range.2 hil)
      simp only [Bool.or_eq_true, decide_eq_true_eq, List.contains_iff_mem, List.mem_map] at hk6
      unfold wpOpIn
      by_cases hij : i = j
      · subst hij
        obtain ⟨us, o, o0, o1, o2, o3⟩ := hJ
        simp only [List.getElem?_toArray, o1]
        rw [if_pos (by simp [Region.wanted, o2])]
        exact o3 _ a w (hFk us o0) hF hS
      · rcases hk6 with (h | ⟨q, hq, rfl⟩) | h
        · exact absurd h hij
        · obtain ⟨us, o, o0, o1, o2, o3, o4⟩ := hK.mem q hq
          have hq4 := k4 q hq
          simp only [Bool.and_eq_true, decide_eq_true_eq, Option.isNone_iff_eq_none] at hq4
          simp only [List.getElem?_toArray, o1]
          rw [if_pos (by simp [Region.wanted, o2])]
          refine wpIn_of_done (o4.run1 a.eval w (fun x u _ hx => (hFk us o0).ev hx) hS) ?_
          rintro u w' ⟨rfl, hS'⟩
          have htn := (fine_at k1 o1).1 _ o3
          have hb : Nat.blt q.2.1 n = true := by simpa using htn
          have hput := hF.put hb q.2.2
          rw [o3]
          refine ih _ _ _ (by simp [hs]) ?_ ?_ ?_ ⟨hput.size, hput.defers, fun t v ht => hput.get t v ?_⟩ ?_ hS'
          · have := count_set listed.toList q.1 (by simpa using hlt) (by simpa using h3)
            rw [Array.toList_setIfInBounds]
            omega
          · intro m k hm2 hw
            rw [getD_set _ _ _ hlt] at hm2 ⊢
            by_cases hkj : k = q.1
            · rw [if_pos hkj]
            · rw [if_neg hkj]
              by_cases hmj : m = q.1
              · subst hmj; exact hwl k hw
              · rw [if_neg hmj] at hm2
                exact hcl m k hm2 hw
          · rw [getD_set _ _ _ hlt, if_neg (fun e => hij e.symm)]; exact hj
          · rw [look_other (fun e => by subst e; rw [hq4.1.1] at ht; cases ht)]; exact ht
          · intro q' hq' hl'
            rw [getD_set _ _ _ hlt] at hl'
            by_cases e : q'.1 = q.1
            · have := inj q' hq' q hq e
              subst this
              exact hput.get _ _ (look_self ..)
            · rw [if_neg e] at hl'
              have hq4' := k4 q' hq'
              have hne : q'.2.1 ≠ q.2.1 := fun e2 => e (slot_one k1 (by rw [hq4'.1.2]) (by rw [hq4.1.2, e2]))
              have := hk q' hq' hl'
              simp only [Act.put, Array.getD_eq_getD_getElem?] at this ⊢
              rw [Array.getElem?_setIfInBounds_ne (fun h => hne h.symm)]
              exact this
        · have := up_listed k2 hcl i hil hwl j k3 h
          rw [hj] at this; cases this
  refine main _ _ a0 _ (by simp) (by simp) ?_ ?_ hF0 (fun q _ h => ?_) hS0.drew
  · intro i k h
    simp [Array.getD_eq_getD_getElem?, Array.getElem?_replicate] at h
    split at h <;> simp at h
  · simp [Array.getD_eq_getD_getElem?, Array.getElem?_replicate]
    split <;> simp
  · simp [Array.getD_eq_getD_getElem?, Array.getElem?_replicate] at h
    split at h <;> simp at h
theorem panJ (us : List Nat) {j dd : Nat} {K : Kn} {f : FuncId} {xs : List Operand} {vs : List Value} {ts : Array TypeId} {ty : TypeId} {pos : String} {af : Array Edge} {ch : List PanicEntry} (hl : l[j]? = some ⟨some dd, .call ⟨.value (.func f), xs.toArray, ts⟩, ty, pos, af, none⟩) (hw : wB l K j us = true) (hc : callB P f = true) (ha : Evs (knU K us ++ E) xs vs) (h : ∀ w, St w0 T H w → Pans P f vs w ch)
    (k2 : XW ds Q (.panic ch) n E w0 T H) : ∃ us o, wB l K j us = true ∧ l[j]? = some o ∧ o.guard = none ∧ ∀ G a w, Fr ds n (knU K us ++ E) a → Fr ds n E a → St w0 T H w → o.wpIn (FF P r) 0 P a w G Q :=
  ⟨us, _, hw, hl, rfl, fun G a w hF hF' hS => by
    have e1 := evs_map (ρ := a.eval) ha (fun x u _ hx => hF.ev hx)
    have e2 : a.eval (.func f) = .func (.func f) #[] #[] := rfl
    refine ⟨call_about hc e2, ?_⟩
    rw [show (FF P r).round = r from rfl, Oper.semAt_eq r _ _ (by intro c; simp), done_call hc e2 e1]
    refine ⟨fun hh => by simp [FF] at hh, ?_⟩
    refine (CallsIn.mono (h w hS) ?_ : CallsIn (FF P none) (0 - 1) P f vs.toArray w _)
    rintro e w' ⟨rfl, hb⟩
    exact k2 a w' hF' (hS.call hb)⟩
end
end Go.Proofs.Ytjdeplehhmhpcaa.En
namespace Go.Proofs.Ytjdeplehhmhpcaa.En
open Go.RowKit
section
variable {ds : List Deferred} {P : Program} {ops : Array Oper} {Q : Exit → Act → World → Prop} {n : Nat} {E : Env} {w0 w w' : World} {T : Nat → Prop} {H H' : Heap} {l : List Oper} {fn : Func} {R : Ending → World → Prop} {b : Nat}
def defF (f : FuncId) (cs : List Value) : Deferred := { target := .fn (.func f) cs.toArray, args := #[] }
theorem ldefer {x : Operand} {f : FuncId} {cs : List Value} {ty : TypeId} {pos : String} {af : Array Edge} (hx : Ev E x (.func (.func f) #[] cs.toArray)) (k : LW none (defF f cs :: ds) P ops Q l n E w0 T H) :
    LW none ds P ops Q (⟨none, .defer ⟨.value x, #[], #[]⟩, ty, pos, af, none⟩ :: l) n E w0 T H := fun a w hF hS => by
  refine wpListIn_plain rfl fun K hK => ⟨fun q hq => ?_, ?_⟩
  · simp [Oper.about] at hq
  have e : ((⟨none, .defer ⟨.value x, #[], #[]⟩, ty, pos, af, none⟩ : Oper).semAt none a.eval).run P w = .ok (.defer (defF f cs)) w := by
    rw [Oper.semAt_none]
    have hxv := hF.ev hx
    generalize a.eval = ρ at hxv ⊢
    simp [execOp, resolve, Deferred.ofValue, hxv, go_sem, defF]
  rw [show (FF P none).round = none from rfl, e]
  refine hK _ _ (k _ _ ⟨hF.size, ?_, hF.get⟩ hS)
  show defF f cs :: a.defers = _
  rw [hF.defers]
theorem leaves_defF {tmps : Array Value} {u : FrameMode} (hu : u ≠ .run) {f : FuncId} {cs : List Value} (hc : callB P f = true)
    (h : CallsDIn (FF P none) 0 P f cs.toArray u w fun e u' w' => (∃ v, e = .returned v) ∧ settle u' = .returning ∧ ∃ v, (results fn tmps).run P w' = .ok v w' ∧ R (.returned v) w') : LeavesInM (FF P none) 0 P fn tmps R [defF f cs] u w := by
  refine ⟨hu, .inr ⟨fun hh => by simp [FF] at hh, .func f, cs.toArray, f, cs.toArray, rfl, ?_, fun g hg => ?_, ?_⟩⟩
  · unfold callB at hc
    split at hc
    · rename_i fn hfn
      simp only [Bool.and_eq_true, Bool.not_eq_true'] at hc
      obtain ⟨h1, h2⟩ := hc
      have h3 : ¬ fn.body = none := by intro hb; simp [hb] at h2
      simp only [beq_eq_false_iff_ne, ne_eq] at h1
      simp [defF, invoke, callFunc, go_sem, hfn, h1, h3]
    · cases hc
  · simp only [defF, Target.leads, Option.some.injEq] at hg
    subst hg; exact callB_some hc
  · refine ⟨h.1, fun c cs' hm hr => ?_⟩
    obtain ⟨e, u', w', fr, h1, h2⟩ := h.2 c cs' hm hr
    obtain ⟨⟨v, rfl⟩, h4, v2, h5, h6⟩ := h1
    refine ⟨_, u', w', fr, ?_, h2⟩
    show LeavesInM (FF P none) 0 P fn tmps R [] (settle u') w'
    rw [h4]
    exact ⟨v2, h5, h6⟩
theorem xw_retT {f : FuncId} {cs : List Value} (hc : callB P f = true) (hd : ∀ w, St w0 T H w → CallsDIn (FF P none) 0 P f cs.toArray .returning w fun e u' w' => (∃ v, e = .returned v) ∧ settle u' = .returning ∧ St w0 T H' w')
    (k : ∀ a w, Fr [defF f cs] n E a → St w0 T H' w → ∃ v, (results fn a.tmps).run P w = .ok v w ∧ R (.returned v) w) : XW [defF f cs] (bodyPostM (FF P none) 0 P fn R) .ret n E w0 T H := fun a w hF hS => by
  show LeavesInM (FF P none) 0 P fn a.tmps R a.defers .returning w
  rw [hF.defers]
  refine leaves_defF (by simp) hc ⟨(hd w hS).1, fun c cs' hm hr => ?_⟩
  obtain ⟨e, u', w', fr, ⟨h1, h2, h3⟩, h4⟩ := (hd w hS).2 c cs' hm hr
  exact ⟨e, u', w', fr, ⟨h1, h2, k a w' hF h3⟩, h4⟩
theorem xw_panicT {f : FuncId} {cs : List Value} {ch : List PanicEntry} (hc : callB P f = true) (hd : ∀ w, St w0 T H w → CallsDIn (FF P none) 0 P f cs.toArray (.panicking ch) w fun e u' w' => (∃ v, e = .returned v) ∧ settle u' = .returning ∧ St w0 T H' w')
    (k : ∀ a w, Fr [defF f cs] n E a → St w0 T H' w → ∃ v, (results fn a.tmps).run P w = .ok v w ∧ R (.returned v) w) : XW [defF f cs] (bodyPostM (FF P none) 0 P fn R) (.panic ch) n E w0 T H := fun a w hF hS => by
  show LeavesInM (FF P none) 0 P fn a.tmps R a.defers (.panicking ch) w
  rw [hF.defers]
  refine leaves_defF (by simp) hc ⟨(hd w hS).1, fun c cs' hm hr => ?_⟩
  obtain ⟨e, u', w', fr, ⟨h1, h2, h3⟩, h4⟩ := (hd w hS).2 c cs' hm hr
  exact ⟨e, u', w', fr, ⟨h1, h2, k a w' hF h3⟩, h4⟩
theorem load_own1 {t : TypeId} {v : Value} (hk : kindB P t = some false) (hc : w.cell? ⟨b, 0, none⟩ = some v) : (loadVar t ⟨b, 0, none⟩).run P w = .ok v w := by
  have hk' := run_isAgg hk w
  simp [loadVar, hk', hc]
theorem resCC {tp tq ty1 ty2 b2 : Nat} {v1 v2 : Value} {a : Act} (hr : fn.results = #[.cell tp ty1, .cell tq ty2]) (hp : look tp E = some (.pointer (some ⟨b, 0, none⟩))) (hq : look tq E = some (.pointer (some ⟨b2, 0, none⟩))) (hF : Fr ds n E a)
    (h1 : (loadVar ty1 ⟨b, 0, none⟩).run P w = .ok v1 w) (h2 : (loadVar ty2 ⟨b2, 0, none⟩).run P w = .ok v2 w) : (results fn a.tmps).run P w = .ok (.tuple #[v1, v2]) w := by
  have e1 := hF.get _ _ hp
  have e2 := hF.get _ _ hq
  simp only [results, hr]
  simp only [Array.getD_eq_getD_getElem?] at e1 e2
  simp [e1, e2, asAddr, h1, h2]
theorem run_typeAssert {d : Option Tmp} {ty : TypeId} {pos : String} {af : Array Edge} {g : Option (Nat × Bool)} {x : Operand} {s t : TypeId} {ok : Bool} {u v : Value} (hx : Ev E x u) (h : ∀ w, (Instr.typeAssert u s t ok).run P w = .ok v w) : RunB P E w0 T H ⟨d, .typeAssert x s t ok, ty, pos, af, g⟩ v := fun ρ w hρ hS => by
  refine doneO rfl ?_
  have e := hρ x _ (by simp [Op.operands]) hx
  simp [execOp, e, Done, go_sem, h, Below.refl]
theorem resTC {tp tq ty2 b2 : Nat} {v1 v2 : Value} {a : Act} (hr : fn.results = #[.tmp tp, .cell tq ty2]) (hp : look tp E = some v1) (hq : look tq E = some (.pointer (some ⟨b2, 0, none⟩))) (hF : Fr ds n E a)
    (h2 : (loadVar ty2 ⟨b2, 0, none⟩).run P w = .ok v2 w) : (results fn a.tmps).run P w = .ok (.tuple #[v1, v2]) w := by
  have e1 := hF.get _ _ hp
  have e2 := hF.get _ _ hq
  simp only [results, hr]
  rw [← e1]
  simp only [Array.getD_eq_getD_getElem?] at e2
  simp [e2, asAddr, h2]
theorem resCCCT {tp tq ts tt ty1 ty2 ty3 b2 b3 : Nat} {v1 v2 v3 v4 : Value} {a : Act} (hr : fn.results = #[.cell tp ty1, .cell tq ty2, .cell ts ty3, .tmp tt]) (hp : look tp E = some (.pointer (some ⟨b, 0, none⟩))) (hq : look tq E = some (.pointer (some ⟨b2, 0, none⟩))) (hs : look ts E = some (.pointer (some ⟨b3, 0, none⟩))) (ht : look tt E = some v4) (hF : Fr ds n E a)
    (h1 : (loadVar ty1 ⟨b, 0, none⟩).run P w = .ok v1 w) (h2 : (loadVar ty2 ⟨b2, 0, none⟩).run P w = .ok v2 w) (h3 : (loadVar ty3 ⟨b3, 0, none⟩).run P w = .ok v3 w) : (results fn a.tmps).run P w = .ok (.tuple #[v1, v2, v3, v4]) w := by
  have e1 := hF.get _ _ hp
  have e2 := hF.get _ _ hq
  have e3 := hF.get _ _ hs
  have e4 := hF.get _ _ ht
  simp only [results, hr]
  rw [← e4]
  simp only [Array.getD_eq_getD_getElem?] at e1 e2 e3
  simp [e1, e2, e3, asAddr, h1, h2, h3]
theorem callsD_mono {f : FuncId} {args : Array Value} {u : FrameMode} {R R' : Ending → FrameMode → World → Prop} (h : CallsDIn (FF P none) 0 P f args u w R) (hr : ∀ e u' w', R e u' w' → R' e u' w') : CallsDIn (FF P none) 0 P f args u w R' :=
  ⟨h.1, fun c cs hm hroom => let ⟨e, u', w', fr, r, s⟩ := h.2 c cs hm hroom; ⟨e, u', w', fr, hr _ _ _ r, s⟩⟩
theorem St.one {o o' : Obj} (h : St w0 T H w) (hu : Upd H b o o' H') (k : St w (fun k => k = b) [(b, o')] w') : St w0 T H' w' :=
  h.upd hu k.os k.tape k.output k.size (fun j hj hne => k.old j hj hne) ((k.own (b, o') (by simp)).1)
/-- A function that recovers, which is called as a deferred one: nothing is to be recovered, or an error, which it puts into b. -/
def Idles (P : Program) (f : FuncId) : Prop := ∀ b w, CallsDIn (FF P none) 0 P f [Value.pointer (some ⟨b, 0, none⟩)].toArray .returning w fun e u' w' => (∃ v, e = .returned v) ∧ settle u' = .returning ∧ St w NoT [] w'
theorem Idles.at {f : FuncId} (h : Idles P f) (b : Nat) : ∀ w, St w0 T H w → CallsDIn (FF P none) 0 P f [Value.pointer (some ⟨b, 0, none⟩)].toArray .returning w fun e u' w' => (∃ v, e = .returned v) ∧ settle u' = .returning ∧ St w0 T H w' :=
  fun w hS => callsD_mono (h b w) fun _ _ _ ⟨h1, h2, h3⟩ => ⟨h1, h2, hS.call h3.kept⟩
def CatchesP (P : Program) (f : FuncId) (o o' : Obj) (ch : List PanicEntry) : Prop := ∀ b w, w.heap[b]? = some o → CallsDIn (FF P none) 0 P f [Value.pointer (some ⟨b, 0, none⟩)].toArray (.panicking ch) w fun e u' w' => (∃ v, e = .returned v) ∧ settle u' = .returning ∧ St w (fun k => k = b) [(b, o')] w'
theorem CatchesP.at {f : FuncId} {o o' : Obj} {ch : List PanicEntry} (h : CatchesP P f o o' ch) (hu : Upd H b o o' H') : ∀ w, St w0 T H w → CallsDIn (FF P none) 0 P f [Value.pointer (some ⟨b, 0, none⟩)].toArray (.panicking ch) w fun e u' w' => (∃ v, e = .returned v) ∧ settle u' = .returning ∧ St w0 T H' w' :=
  fun w hS => callsD_mono (h b w (hS.mem hu.mem)) fun _ _ _ ⟨h1, h2, h3⟩ => ⟨h1, h2, hS.one hu h3⟩
end
end Go.Proofs.Ytjdeplehhmhpcaa.En
namespace Go.Proofs.Ytjdeplehhmhpcaa.En
open Go.RowKit
section
variable {P : Program} {b : Frame} {a : Act} {k : List Item} {cs : List Frame} {w : World} {Q : Exit → Act → World → Prop} {F : Fence} {n : Nat}
theorem stepR_scope {c : Code} : step P (lone (b.atR a (.code (.scope c) :: k)) cs w) = .next (lone (b.atR a (.code c :: .inScope c :: k)) cs w) :=
  step_lone_go (by simp [stepG, stepG.exec, Frame.atR])
theorem stepR_inScope {c : Code} : step P (lone (b.atR a (.inScope c :: k)) cs w) = .next (lone (b.atR a k) cs w) :=
  step_lone_go (by simp [stepG, stepG.exec, Frame.atR])
/-- A scope into which nothing jumps. -/
theorem wpIn_scope_straight {c : Code} (h : c.wpIn F n P (Exit.noGoto Q) a w) : (Code.scope c).wpIn F n P Q a w := by
  intro b k cs hro hb hr
  have h0 : (lone (b.atR a (.code (.scope c) :: k)) cs w).fenced P F := fenced_calm hb hr rfl
  obtain ⟨e, a₁, w₁, hq, harr⟩ := h b (.inScope c :: k) cs hro hb hr
  have hx : ∀ id, exitTo id (.inScope c :: k) = exitTo id k := fun id => by simp [exitTo]
  cases e with
  | normal => exact ⟨.normal, a₁, w₁, hq, .head h0 stepR_scope (StepsIn.trans harr (.one (fenced_calm hb hr rfl) stepR_inScope))⟩
  | exit id =>
    exact ⟨.exit id, a₁, w₁, hq, fun k' hk => .head h0 stepR_scope (harr.1 k' (by rw [hx]; exact hk)),
      fun hr' hk => let ⟨k₁, h1, h2⟩ := harr.2 hr' (by rw [hx]; exact hk); ⟨k₁, h1, .head h0 stepR_scope h2⟩⟩
  | goto l => exact hq.elim
  | ret => exact ⟨_, a₁, w₁, hq, .of_steps (.one h0 stepR_scope) harr⟩
  | panic ch => exact ⟨_, a₁, w₁, hq, .of_steps (.one h0 stepR_scope) harr⟩
  | outgrown => exact ⟨_, a₁, w₁, hq, .of_steps (.one h0 stepR_scope) harr⟩
end
section
variable {r : Option Nat} {ds : List Deferred} {P : Program} {Q : Exit → Act → World → Prop} {n : Nat} {E : Env} {w0 : World} {T : Nat → Prop} {H : Heap}
theorem cw_scope {c : Code} (k : CW r ds P (Exit.noGoto Q) c n E w0 T H) : CW r ds P Q (.scope c) n E w0 T H := fun a w hF hS => wpIn_scope_straight (k a w hF hS)
theorem cw_label {l : Nat} (k : XW ds Q .normal n E w0 T H) : CW r ds P Q (.label l) n E w0 T H := fun a w hF hS => wpIn_label (k a w hF hS)
theorem xw_scope (k : XW ds Q .normal n E w0 T H) : XW ds (Exit.noGoto Q) .normal n E w0 T H := k
theorem xw_scope_ret (k : XW ds Q .ret n E w0 T H) : XW ds (Exit.noGoto Q) .ret n E w0 T H := k
theorem xw_scope_exit {id : Nat} (k : XW ds Q (.exit id) n E w0 T H) : XW ds (Exit.noGoto Q) (.exit id) n E w0 T H := k
theorem xw_scope_panic {ch : List PanicEntry} (k : XW ds Q (.panic ch) n E w0 T H) : XW ds (Exit.noGoto Q) (.panic ch) n E w0 T H := k
end
section
variable {P : Program} {E : Env} {w0 w : World} {T : Nat → Prop} {H : Heap} {d : Option Tmp} {t ty : TypeId} {pos : String} {af : Array Edge} {g : Option (Nat × Bool)} {x y z : Operand} {b off : Nat} {a : Option Addr}
theorem add_spot (b o k : Nat) : (⟨b, o, none⟩ : Addr).add k = ⟨b, o + k, none⟩ := by
  unfold Addr.add
  split
  · rename_i h; rw [h]; rfl
  · rfl
theorem add_nought (a : Addr) : a.add 0 = a := by simp [Addr.add]
theorem map_nought (a : Option Addr) : a.map (fun x => x.add 0) = a := by cases a <;> simp [add_nought]
theorem run_slice2 {k k' : IntKind} {m c sz lo hi off' : Nat} (hx : Ev E x (.slice (some ⟨b, off, none⟩) m c)) (hy : Ev E y (.int k (lo : Int))) (hz : Ev E z (.int k' (hi : Int))) (he : elemB P t = some sz) (h1 : lo ≤ hi) (h2 : hi ≤ c) (h3 : lo < c) (h : off + lo * sz = off') :
    RunB P E w0 T H ⟨d, .slice t x (some y) (some z) none, ty, pos, af, g⟩ (.slice (some ⟨b, off', none⟩) (hi - lo) (c - lo)) := fun ρ w hρ hS => by
  refine doneO rfl ?_
  have e1 := hρ x _ (by simp [Op.operands]) hx
  have e2 := hρ y _ (by simp [Op.operands]) hy
  have e3 := hρ z _ (by simp [Op.operands]) hz
  subst h
  unfold elemB at he
  split at he
  · rename_i el hu
    have hu' := run_underlying hu w
    have hs := run_size he w
    have q1 : (lo : Int) ≤ (hi : Int) := by omega
    have q2 : (hi : Int) ≤ (c : Int) := by omega
    have q3 : ¬ c = lo := by omega
    simp [execOp, e1, e2, e3, Done, go_sem, Instr.sliceAt, Instr.slice, Instr.sliceBounds, Instr.sliceBound, asIntOf, hu', hs, q1, q2, q3, h1, h2, add_spot, Below.refl]
  · cases he
/-- The first ones of a slice. -/
theorem run_sliceH {k' : IntKind} {m c sz hi : Nat} (hx : Ev E x (.slice a m c)) (hz : Ev E z (.int k' (hi : Int))) (he : elemB P t = some sz) (h2 : hi ≤ c) :
    RunB P E w0 T H ⟨d, .slice t x none (some z) none, ty, pos, af, g⟩ (.slice a hi c) := fun ρ w hρ hS => by
  refine doneO rfl ?_
  have e1 := hρ x _ (by simp [Op.operands]) hx
  have e3 := hρ z _ (by simp [Op.operands]) hz
  unfold elemB at he
  split at he
  · rename_i el hu
    have hu' := run_underlying hu w
    have hs := run_size he w
    have q2 : (hi : Int) ≤ (c : Int) := by omega
    simp [execOp, e1, e3, Done, go_sem, Instr.sliceAt, Instr.slice, Instr.sliceBounds, Instr.sliceBound, asIntOf, hu', hs, q2, h2, map_nought, Below.refl]
  · cases he
/-- What stands behind so many of a slice. -/
theorem run_sliceL {k' : IntKind} {m c sz lo : Nat} (hx : Ev E x (.slice (some ⟨b, off, none⟩) m c)) (hz : Ev E z (.int k' (lo : Int))) (he : elemB P t = some sz) (h2 : lo ≤ m) :
    RunB P E w0 T H ⟨d, .slice t x (some z) none none, ty, pos, af, g⟩ (.slice (some (if c = lo then ⟨b, off, none⟩ else ⟨b, off + lo * sz, none⟩)) (m - lo) (c - lo)) := fun ρ w hρ hS => by
  refine doneO rfl ?_
  have e1 := hρ x _ (by simp [Op.operands]) hx
  have e3 := hρ z _ (by simp [Op.operands]) hz
  unfold elemB at he
  split at he
  · rename_i el hu
    have hu' := run_underlying hu w
    have hs := run_size he w
    have q2 : (lo : Int) ≤ (m : Int) := by omega
    by_cases q3 : c = lo
    · simp [execOp, e1, e3, Done, go_sem, Instr.sliceAt, Instr.slice, Instr.sliceBounds, Instr.sliceBound, asIntOf, hu', hs, q2, h2, q3, add_spot, Below.refl]
    · simp [execOp, e1, e3, Done, go_sem, Instr.sliceAt, Instr.slice, Instr.sliceBounds, Instr.sliceBound, asIntOf, hu', hs, q2, h2, q3, add_spot, Below.refl]
  · cases he
theorem run_cap {m c : Nat} {l : List TypeId} (hx : Ev E x (.slice a m c)) (ht : sliceB P t = true) :
    RunB P E w0 T H ⟨d, .call ⟨.builtin .cap, [x].toArray, (t :: l).toArray⟩, ty, pos, af, g⟩ (.int .i64 (c : Int)) := fun ρ w hρ hS => by
  refine doneO rfl ?_
  have e1 := hρ x _ (by simp [Op.operands, Call.operands]) hx
  unfold sliceB at ht
  split at ht
  · rename_i el hu
    have hu' := run_underlying hu w
    simp [Builtin.cap_, execOp, e1, Done, go_sem, hu', goInt, Below.refl]
  · cases ht
end
section
variable {r : Option Nat} {ds : List Deferred} {P : Program} {Q : Exit → Act → World → Prop} {n : Nat} {E : Env} {w0 w : World} {T : Nat → Prop} {H : Heap} {fn : Func} {R : Ending → World → Prop}
theorem St.not_blk (h : St w0 T H w) {b : Nat} (hb : b < w0.heap.size) (hT : ¬ T b) : ¬ blk H b := fun ⟨x, hx, e⟩ => by
  rcases (h.own x hx).2 with q | q
  · omega
  · exact hT (e ▸ q)
theorem xw_retC2D {D tp ty2 tu k b off : Nat} {cs l : List Value} {te : TypeId} {fr : Nat × Nat} {v : Value} (hr : fn.results = #[.cell tp ty2, .tmp tu]) (hp : look tp E = some (.pointer (some ⟨b, off, none⟩))) (hv : look tu E = some v)
    (hk : kindB P ty2 = some true) (hz : sizeB P ty2 = some k) (hm : (b, Obj.cells cs.toArray te fr) ∈ H) (hs : Sub cs off k l) (kk : ∀ w, St w0 T H w → R (.returned (.tuple #[.agg l.toArray, v])) w) : XW [mark1 D] (bodyPostM (FF P none) 0 P fn R) .ret n E w0 T ((D, dfr) :: H) :=
  xw_retM (Ds := [D]) fun _ w hF hS => ⟨_, resC2 hr hp hv hk hz hm hs hF hS, kk w hS⟩
end
section
variable {P : Program} {w0 : World} {T : Nat → Prop} {R H : Heap} {E : Env} {x y : Operand} {d : Option Tmp} {t ty : TypeId} {pos : String} {af : Array Edge} {g : Option (Nat × Bool)} {b off : Nat}
theorem lr_append_zeros {e sz by_ : Nat} {tn : TypeId} {kn k : IntKind} (ht : appB P t e sz by_ = true) (htn : P.underlying tn = some (.int kn)) (h0 : 0 < sz) {n : Nat} (hx : Ev E x (.slice none 0 0)) (hy : Ev E y (.int k (n : Int))) (hm : 0 < n) (hmax : n * by_ ≤ 140737488355328) (hmx : n ≤ maxLen) :
    LR P E w0 T R [] ⟨d, .call ⟨.builtin .append, [x, y].toArray, [t, tn].toArray⟩, ty, pos, af, g⟩ (fun q : Nat × Nat × List Value => n ≤ q.2.1 ∧ q.2.1 ≤ maxLen ∧ q.2.2.length = q.2.1 * sz) (fun q => .slice (some ⟨q.1, 0, none⟩) n q.2.1) (fun q => [(q.1, Obj.cells q.2.2.toArray e (0, 0))]) := fun ρ w hρ _ _ _ hR _ => by
  refine doneO rfl ?_
  have e1 := hρ x _ (by simp [Op.operands, Call.operands]) hx
  have e2 := hρ y _ (by simp [Op.operands, Call.operands]) hy
  obtain ⟨hsl, i, z, hi, hz, rfl, rfl, hzs⟩ := appT_of ht
  unfold maxLen at hmx
  have hr := Go.Lib.run_append_nil_zeros (P := P) w t tn ty e i z k kn hsl htn hi hz n hm h0 (by omega) (by omega)
  have hd : (execOp ρ ⟨d, .call ⟨.builtin .append, [x, y].toArray, [t, tn].toArray⟩, ty, pos, af, g⟩).run P w = .ok (.value (.slice (some ⟨w.heap.size, 0, none⟩) n (grownCap w n 0 e))) (w.drew.alloc (.cells (Builtin.zeroCells z.cells n ++ Builtin.zeroCells z.cells (grownCap w n 0 e - n)) e)) := by
    simp [execOp, resolve, invoke, builtin, e1, e2, hr]
  rw [hd]
  have hge := grownCap_ge w n 0 e
  refine ⟨(w.heap.size, grownCap w n 0 e, (Builtin.zeroCells z.cells n).toList ++ (Builtin.zeroCells z.cells (grownCap w n 0 e - n)).toList), ⟨hge, grownCap_le_maxLen w n 0 e (by unfold maxLen; omega), ?_⟩, rfl, ?_⟩
  · simp only [List.length_append, Array.length_toList, size_zeroCells, hzs, ← Nat.add_mul]; congr 1; omega
  · have := tr_alloc w.drew (Obj.cells (Builtin.zeroCells z.cells n ++ Builtin.zeroCells z.cells (grownCap w n 0 e - n)) e)
    show Tr w _ [] [(w.heap.size, Obj.cells ((Builtin.zeroCells z.cells n).toList ++ (Builtin.zeroCells z.cells (grownCap w n 0 e - n)).toList).toArray e)]
    rw [show ((Builtin.zeroCells z.cells n).toList ++ (Builtin.zeroCells z.cells (grownCap w n 0 e - n)).toList).toArray = Builtin.zeroCells z.cells n ++ Builtin.zeroCells z.cells (grownCap w n 0 e - n) by apply Array.ext'; simp]
    exact ⟨this.os, this.tape, this.output, this.size, this.rest, this.now, this.new, this.apart⟩
theorem run_append_none {e sz by_ : Nat} {c : Nat} (ht : appB P t e sz by_ = true) (hx : Ev E x (.slice none 0 0)) (hy : Ev E y (.slice (some ⟨b, off, none⟩) 0 c)) :
    RunB P E w0 T H ⟨d, .call ⟨.builtin .append, [x, y].toArray, [t, t].toArray⟩, ty, pos, af, g⟩ (.slice none 0 0) := fun ρ w hρ hS => by
  refine doneO rfl ?_
  have e1 := hρ x _ (by simp [Op.operands, Call.operands]) hx
  have e2 := hρ y _ (by simp [Op.operands, Call.operands]) hy
  obtain ⟨hsl, i, z, hi, hz, rfl, rfl, hzs⟩ := appT_of ht
  have hf := run_firstCells_some (P := P) w i.size 0 ⟨b, off, none⟩ 0 c [] (by simp) (by simp)
  have hr : (Builtin.append_ #[t, t] ty #[.slice none 0 0, .slice (some ⟨b, off, none⟩) 0 c]).run P w = .ok (.slice none 0 0) w := by
    simp [Builtin.append_, run_underlying hsl, sizeOf, typeInfo, hi, Builtin.lenOf, hf]
  rw [done_append e1 e2 hr]
  exact ⟨rfl, Below.refl _ _⟩
end
end Go.Proofs.Ytjdeplehhmhpcaa.En
namespace Go.Proofs.Ytjdeplehhmhpcaa.En
open Go.RowKit
def okP2 (l : List Oper) (I : List Inf) (K : Kn) (A : List (Nat × Nat)) (E : Env) (j n : Nat) : Bool :=
  fineB l n && upB l I && decide (j < l.length) && K.all (fun q => (look q.2.1 E).isNone && decide (slotOf l q.1 = some q.2.1) && decide (q.1 ≠ j)) && A.all (fun q => (look q.2 E).isNone && decide (slotOf l q.1 = some q.2) && decide (q.1 ≠ j) && !(K.map (·.1)).contains q.1) && decide ((K.map (·.1)).Nodup) &&
  (List.range l.length).all fun i => decide (i = j) || (K.map (·.1)).contains i || (A.map (·.1)).contains i || (infAt I i).up.testBit j
section
variable {P : Program} {r : Option Nat} {ds : List Deferred} {n : Nat} {Q : Exit → Act → World → Prop} {w0 : World} {T : Nat → Prop} {H : Heap} {E : Env} {l : List Oper}
theorem cw_anyP2 {id j : Nat} (I : List Inf) (K : Kn) (A : List (Nat × Nat)) (hm : P.follows .mixedOrders = true) (hok : okP2 l I K A E j n = true)
    (hK : AllK (fun q => ∃ us o, wB l K q.1 us = true ∧ l[q.1]? = some o ∧ o.guard = none ∧ o.dst = some q.2.1 ∧ RunB P (knU K us ++ E) w0 T H o q.2.2) K)
    (hA : ∀ q ∈ A, ∃ o, l[q.1]? = some o ∧ o.guard = none ∧ o.dst = some q.2 ∧ ∀ ρ w, (∀ x u, x ∈ o.op.operands → Ev E x u → ρ x = u) → St w0 T H w → DoneO P o ρ w fun _ w' => St w0 T H w')
    (hJ : ∃ us o, wB l K j us = true ∧ l[j]? = some o ∧ o.guard = none ∧ ∀ G a w, Fr ds n (knU K us ++ E) a → Fr ds n E a → St w0 T H w → o.wpIn (FF P r) 0 P a w G Q) : CW r ds P Q (.region id l.toArray true) n E w0 T H := fun a0 w1 hF0 hS0 => by
  simp only [okP2, Bool.and_eq_true, List.all_eq_true, decide_eq_true_eq] at hok
  obtain ⟨⟨⟨⟨⟨⟨k1, k2⟩, k3⟩, k4⟩, kA⟩, k5⟩, k6⟩ := hok
  have inj : ∀ q ∈ K, ∀ q' ∈ K, q.1 = q'.1 → q = q' := fun q hq q' hq' e => by
    obtain ⟨i, hi, rfl⟩ := List.getElem_of_mem hq
    obtain ⟨i', hi', rfl⟩ := List.getElem_of_mem hq'
    have := (List.getElem_inj (xs := K.map (·.1)) (i := i) (j := i') (h₀ := by simpa using hi) (h₁ := by simpa using hi') k5).1 (by simpa using e)
    subst this; rfl
  refine wpIn_region_any hm ?_
  have main : ∀ (fuel : Nat) (listed : Array Bool) (a : Act) (w : World), listed.size = l.length → (listed.toList.filter (! ·)).length ≤ fuel → (∀ i k, listed.getD i false = true → waits l i k = true → listed.getD k false = true) →
      listed.getD j false = false → Fr ds n E a → (∀ q ∈ K, listed.getD q.1 false = true → a.tmps.getD q.2.1 undef = q.2.2) → St w0 T H w → wpAnyIn (FF P r) 0 P .any l.toArray Q fuel listed a w := by
    intro fuel
    induction fuel with
    | zero =>
      intro listed a w hs hc hcl hj hF hk hS
      exfalso
      have hlt : j < listed.size := by omega
      have h3 : listed[j] = false := by simpa [Array.getD, hlt] using hj
      have : false ∈ listed.toList.filter (! ·) := by
        rw [List.mem_filter]
        exact ⟨by rw [← h3]; simp, rfl⟩
      have := List.length_pos_of_mem this
      omega
    | succ fuel ih =>
      intro listed a w hs hc hcl hj hF hk hS
      refine ⟨fun h => ?_, fun i hi => ?_⟩
      · rw [ready_nil k1 hs h j k3] at hj; cases hj
      obtain ⟨h1, h2, _⟩ := mem_ready hi
      have hil : i < l.length := by simpa using h1
      have hlt : i < listed.size := by omega
      have h3 : listed[i] = false := by simpa [Array.getD, hlt] using h2
      have hwl : ∀ k, waits l i k = true → listed.getD k false = true := fun k hk => wait_listed hi hk
      have hFk : ∀ us, wB l K i us = true → Fr ds n (knU K us ++ E) a := fun us hus => ⟨hF.size, hF.defers, fun t v ht => by
        rcases look_app ht with h | h
        · obtain ⟨q, hq, e, hw⟩ := knU_mem hus h
          have := hk q hq (hwl _ hw)
          rw [e] at this; exact this
        · exact hF.get t v h⟩
      have hk6 := k6 i (List.mem_range.2 hil)
      simp only [Bool.or_eq_true, decide_eq_true_eq, List.contains_iff_mem, List.mem_map] at hk6
      unfold wpOpIn
      by_cases hij : i = j
      · subst hij
        obtain ⟨us, o, o0, o1, o2, o3⟩ := hJ
        simp only [List.getElem?_toArray, o1]
        rw [if_pos (by simp [Region.wanted, o2])]
        exact o3 _ a w (hFk us o0) hF hS
      · rcases hk6 with ((h | ⟨q, hq, rfl⟩) | ⟨q, hq, rfl⟩) | h
        · exact absurd h hij
        · obtain ⟨us, o, o0, o1, o2, o3, o4⟩ := hK.mem q hq
          have hq4 := k4 q hq
          simp only [Bool.and_eq_true, decide_eq_true_eq, Option.isNone_iff_eq_none] at hq4
          simp only [List.getElem?_toArray, o1]
          rw [if_pos (by simp [Region.wanted, o2])]
          refine wpIn_of_done (o4.run1 a.eval w (fun x u _ hx => (hFk us o0).ev hx) hS) ?_
          rintro u w' ⟨rfl, hS'⟩
          have htn := (fine_at k1 o1).1 _ o3
          have hb : Nat.blt q.2.1 n = true := by simpa using htn
          have hput := hF.put hb q.2.2
          rw [o3]
          refine ih _ _ _ (by simp [hs]) ?_ ?_ ?_ ⟨hput.size, hput.defers, fun t v ht => hput.get t v ?_⟩ ?_ hS'
          · have := count_set listed.toList q.1 (by simpa using hlt) (by simpa using h3)
            rw [Array.toList_setIfInBounds]
            omega
          · intro m k hm2 hw
            rw [getD_set _ _ _ hlt] at hm2 ⊢
            by_cases hkj : k = q.1
            · rw [if_pos hkj]
            · rw [if_neg hkj]
              by_cases hmj : m = q.1
              · subst hmj; exact hwl k hw
              · rw [if_neg hmj] at hm2
                exact hcl m k hm2 hw
          · rw [getD_set _ _ _ hlt, if_neg (fun e => hij e.symm)]; exact hj
          · rw [look_other (fun e => by subst e; rw [hq4.1.1] at ht; cases ht)]; exact ht
          · intro q' hq' hl'
            rw [getD_set _ _ _ hlt] at hl'
            by_cases e : q'.1 = q.1
            · have := inj q' hq' q hq e
              subst this
              exact hput.get _ _ (look_self ..)
            · rw [if_neg e] at hl'
              have hq4' := k4 q' hq'
              have hne : q'.2.1 ≠ q.2.1 := fun e2 => e (slot_one k1 (by rw [hq4'.1.2]) (by rw [hq4.1.2, e2]))
              have := hk q' hq' hl'
              simp only [Act.put, Array.getD_eq_getD_getElem?] at this ⊢
              rw [Array.getElem?_setIfInBounds_ne (fun h => hne h.symm)]
              exact this
        · obtain ⟨o, o1, o2, o3, o4⟩ := hA q hq
          have hq4 := kA q hq
          simp only [Bool.and_eq_true, decide_eq_true_eq, Option.isNone_iff_eq_none, Bool.not_eq_true'] at hq4
          simp only [List.getElem?_toArray, o1]
          rw [if_pos (by simp [Region.wanted, o2])]
          refine wpIn_of_done (o4 a.eval w (fun x u _ hx => hF.ev hx) hS) ?_
          rintro u w' hS'
          have htn := (fine_at k1 o1).1 _ o3
          have hb : Nat.blt q.2 n = true := by simpa using htn
          have hput := hF.put hb u
          rw [o3]
          refine ih _ _ _ (by simp [hs]) ?_ ?_ ?_ ⟨hput.size, hput.defers, fun t v ht => hput.get t v ?_⟩ ?_ hS'
          · have := count_set listed.toList q.1 (by simpa using hlt) (by simpa using h3)
            rw [Array.toList_setIfInBounds]
            omega
          · intro m k hm2 hw
            rw [getD_set _ _ _ hlt] at hm2 ⊢
            by_cases hkj : k = q.1
            · rw [if_pos hkj]
            · rw [if_neg hkj]
              by_cases hmj : m = q.1
              · subst hmj; exact hwl k hw
              · rw [if_neg hmj] at hm2
                exact hcl m k hm2 hw
          · rw [getD_set _ _ _ hlt, if_neg (fun e => hij e.symm)]; exact hj
          · rw [look_other (fun e => by subst e; rw [hq4.1.1.1] at ht; cases ht)]; exact ht
          · intro q' hq' hl'
            rw [getD_set _ _ _ hlt] at hl'
            have e : q'.1 ≠ q.1 := fun e => by
              have h9 := hq4.2
              rw [List.contains_eq_any_beq, List.any_eq_false] at h9
              exact h9 q'.1 (List.mem_map_of_mem hq') (by simp [e])
            rw [if_neg e] at hl'
            have hq4' := k4 q' hq'
            have hne : q'.2.1 ≠ q.2 := fun e2 => e (slot_one k1 (by rw [hq4'.1.2]) (by rw [hq4.1.1.2, e2]))
            have := hk q' hq' hl'
            simp only [Act.put, Array.getD_eq_getD_getElem?] at this ⊢
            rw [Array.getElem?_setIfInBounds_ne (fun h => hne h.symm)]
            exact this
        · have := up_listed k2 hcl i hil hwl j k3 h
          rw [hj] at this; cases this
  refine main _ _ a0 _ (by simp) (by simp) ?_ ?_ hF0 (fun q _ h => ?_) hS0.drew
  · intro i k h
    simp [Array.getD_eq_getD_getElem?, Array.getElem?_replicate] at h
    split at h <;> simp at h
  · simp [Array.getD_eq_getD_getElem?, Array.getElem?_replicate]
    split <;> simp
  · simp [Array.getD_eq_getD_getElem?, Array.getElem?_replicate] at h
    split at h <;> simp at h
end
section
variable {P : Program} {w0 : World} {T : Nat → Prop} {H : Heap} {E : Env} {l : List Oper}
theorem allA_nil {P : Program} {w0 : World} {T : Nat → Prop} {H : Heap} {E : Env} {l : List Oper} : ∀ q ∈ ([] : List (Nat × Nat)), ∃ o, l[q.1]? = some o ∧ o.guard = none ∧ o.dst = some q.2 ∧ ∀ ρ w, (∀ x u, x ∈ o.op.operands → Ev E x u → ρ x = u) → St w0 T H w → DoneO P o ρ w fun _ w' => St w0 T H w' := fun q h => by cases h
theorem allA_one {i s : Nat} {o : Oper} {X : Type} {F : X → Prop} {v : X → Value} {H' : X → Heap} (h1 : l[i]? = some o) (h2 : o.guard = none) (h3 : o.dst = some s) (hr : Runs P E w0 T H o F v H') (hs : ∀ x, H.Sublist (H' x)) : ∀ q ∈ [(i, s)], ∃ o, l[q.1]? = some o ∧ o.guard = none ∧ o.dst = some q.2 ∧ ∀ ρ w, (∀ x u, x ∈ o.op.operands → Ev E x u → ρ x = u) → St w0 T H w → DoneO P o ρ w fun _ w' => St w0 T H w' := fun q h => by
  rw [List.mem_singleton] at h
  subst h
  exact ⟨o, h1, h2, h3, fun ρ w hρ hS => (hr ρ w hρ hS).mono fun u w' ⟨x, _, _, h⟩ => h.less (hs x)⟩
end
end Go.Proofs.Ytjdeplehhmhpcaa.En
