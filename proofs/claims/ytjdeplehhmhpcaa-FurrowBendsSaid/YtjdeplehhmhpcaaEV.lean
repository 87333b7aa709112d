/- Ranges over functions within a round of another one. Laws over any program. -/
import Derived.Test.YtjdeplehhmhpcaaET
import Derived.RangeFuncNested
namespace Go.Proofs.Ytjdeplehhmhpcaa.En
open Go.RowKit
section
variable {r : Option Nat} {ds ds' : List Deferred} {P : Program} {ops : Array Oper} {Q : Exit → Act → World → Prop} {n m : Nat} {E E' : Env} {w0 w w' : World} {T : Nat → Prop} {H H' : Heap} {l : List Oper}
def roundQN {S : Type} (ds : List Deferred) (Q : Exit → Act → World → Prop) (n : Nat) (E : Env) (w0 : World) (T : Nat → Prop) (Hi : S → Heap) (F : Nat → S → Prop) (k L : Nat) (rb : Obj) (wk : World) (Tk : Nat → Prop) : Exit → Act → World → Prop
  | .normal, _, w => ∃ s', F (k + 1) s' ∧ St wk Tk ((L, rb) :: Hi s') w
  | .ret, _, w => ∃ H', St wk Tk ((L, rb) :: H') w ∧ XW ds Q .ret n E w0 T H'
  | .exit id, _, w => ∃ H', St wk Tk ((L, rb) :: H') w ∧ XW ds Q (.exit id) n E w0 T H'
  | .panic ch, a, w => a.defers = [] ∧ ∃ H', St wk Tk ((L, rb) :: H') w ∧ XW ds Q (.panic ch) n E w0 T H'
  | _, _, _ => False
variable {S : Type} {Hi : S → Heap} {F : Nat → S → Prop} {k L : Nat} {rb : Obj} {wk : World} {Tk : Nat → Prop}
theorem xw_rnextN (s' : S) (hF : F (k + 1) s') (hH : Pick H ((L, rb) :: Hi s')) : XW ds' (roundQN ds Q n E w0 T Hi F k L rb wk Tk) .normal m E' wk Tk H := fun _ _ _ hS => ⟨s', hF, hS.pick hH⟩
theorem xw_rretN (hH : Pick H ((L, rb) :: H')) (h : XW ds Q .ret n E w0 T H') : XW ds' (roundQN ds Q n E w0 T Hi F k L rb wk Tk) .ret m E' wk Tk H := fun _ _ _ hS => ⟨H', hS.pick hH, h⟩
theorem xw_rexitN {id : Nat} (hH : Pick H ((L, rb) :: H')) (h : XW ds Q (.exit id) n E w0 T H') : XW ds' (roundQN ds Q n E w0 T Hi F k L rb wk Tk) (.exit id) m E' wk Tk H := fun _ _ _ hS => ⟨H', hS.pick hH, h⟩
theorem xw_rpanicN {ch : List PanicEntry} (hH : Pick H ((L, rb) :: H')) (h : XW ds Q (.panic ch) n E w0 T H') : XW [] (roundQN ds Q n E w0 T Hi F k L rb wk Tk) (.panic ch) m E' wk Tk H := fun _ _ hF hS => ⟨hF.defers, H', hS.pick hH, h⟩
theorem cw_rangeN {l0 : Nat} {r0 : Loop} {g : Operand} {p : Nat} {assign body : Code} {f : FuncId} {cs xs : List Value} {Cap : Nat → Prop} {S : Type} (Hi : S → Heap) (F : Nat → S → Prop) (s0 : S) (hc : callB P f = true) (hg : Ev E g (.func (.func f) #[] cs.toArray)) (hp : Nat.blt p n = true)
    (it : ∀ w, St w0 T H w → IterAt P f cs xs Cap w) (cap : ∀ c, Cap c → c < w0.heap.size ∧ ¬ T c) (hF0 : F 0 s0) (hm : (l0, Obj.loop r0) ∈ H) (hH : Pick H (Hi s0))
    (round : ∀ (L : Nat) (fn : FuncId) (tm : Array Value) (k : Nat) (s : S) (x : Value) (w1 : World), xs[k]? = some x → F k s → St w0 T ((L, recO fn tm p assign body r0.defers .ready none) :: Hi s) w1 →
      CW (some L) [] P (beginQ P body L (roundQN ds Q n E w0 T Hi F k L (recO fn tm p assign body r0.defers .busy none) w1 (blk ((L, recO fn tm p assign body r0.defers .ready none) :: Hi s)))) assign n ((p, x) :: E) w1
        (blk ((L, recO fn tm p assign body r0.defers .ready none) :: Hi s)) ((L, recO fn tm p assign body r0.defers .ready none) :: Hi s))
    (k : ∀ s, F xs.length s → XW ds Q .normal n E w0 T (Hi s)) : CW (some l0) ds P Q (.rangeFunc g #[p] assign body) n E w0 T H := fun a w hF hS => by
  refine wpIn_rangeFunc fun fn hfn => ?_
  have hg' := hF.ev hg
  have hcf : (P.funcs[f]?).isSome = true := callB_some hc
  let D := r0.defers
  let L := w.heap.size
  let HH := fun s => (L, recO fn a.tmps p assign body D .ready none) :: Hi s
  let w1 := w.alloc (recO fn a.tmps p assign body D .ready none)
  have hS1 : St w0 T (HH s0) w1 := by
    exact (hS.pick hH).alloc (recO fn a.tmps p assign body D .ready none)
  have hS2 : ∀ c, Cap c → ¬ blk (HH s0) c := fun c hc ⟨x, hx, e⟩ => by
    obtain ⟨q1, q2⟩ := cap c hc
    rcases (hS1.own x hx).2 with h | h
    · omega
    · exact q2 (e ▸ h)
  have hb : Below w.heap.size w w1 := (Below.refl _ _).alloc (Nat.le_refl _) _
  have hB : w0.heap.size ≤ w1.heap.size := hS1.size
  refine ⟨L, [], w1, _, w1, f, _, w1, run_enterLoop_inner (hS.own _ hm).1 fn a.tmps #[p] assign body, res_range hg' rfl, fun f' hf' => ?_, inv_range hc, fun hh => by simp [FF] at hh, ?_⟩
  · simp only [Target.leads] at hf'
    cases hf'
    exact hcf
  let J : Nat → (Nat → Prop) → World → Prop := fun k T' w' => ∃ s, F k s ∧ T' = blk (HH s) ∧ St w0 T (HH s) w'
  let Jx : (Nat → Prop) → World → Prop := fun T' w' => ∃ c H', T' = blk ((L, recO fn a.tmps p assign body D .done (some c)) :: H') ∧ St w0 T ((L, recO fn a.tmps p assign body D .done (some c)) :: H') w' ∧
    ((c = .ret ∧ XW ds Q .ret n E w0 T H') ∨ ∃ id, c = .exit id ∧ XW ds Q (.exit id) n E w0 T H')
  let Jp : List PanicEntry → (Nat → Prop) → World → Prop := fun ch T' w' => ∃ H', T' = blk ((L, recO fn a.tmps p assign body D .busy none) :: H') ∧ St w0 T ((L, recO fn a.tmps p assign body D .busy none) :: H') w' ∧ XW ds Q (.panic ch) n E w0 T H'
  have hFr : Fr ds n E { a with defers := [] ++ a.defers } := ⟨hF.size, by simp [hF.defers], hF.get⟩
  have new : ∀ {wk : World} {Tk : Nat → Prop} {G : Heap} {w' : World}, St wk Tk G w' → ∀ b, blk G b → Tk b ∨ wk.heap.size ≤ b := fun h b ⟨x, hx, e⟩ => by
    rcases (h.own x hx).2 with q | q
    · exact .inr (e ▸ q)
    · exact .inl (e ▸ q)
  have hR : Rounds P L xs w1.heap.size J Jx Jp := by
    refine ⟨?_, ?_, ?_, ?_, ?_, ?_, ?_⟩
    · rintro k T' u u' ⟨s, h1, rfl, h2⟩ hk
      exact ⟨s, h1, rfl, h2.keepB hB hk⟩
    · rintro T' u u' ⟨c, H', rfl, h2, h3⟩ hk
      exact ⟨c, H', rfl, h2.keepB hB hk, h3⟩
    · rintro ch T' u u' ⟨H', rfl, h2, h3⟩ hk
      exact ⟨H', rfl, h2.keepB hB hk, h3⟩
    · rintro k T' u ⟨s, h1, rfl, h2⟩ b ⟨x, hx, e⟩
      exact e ▸ h2.lt (b := x.1) (o := x.2) hx
    · rintro T' u ⟨c, H', rfl, h2, h3⟩ b ⟨x, hx, e⟩
      exact e ▸ h2.lt (b := x.1) (o := x.2) hx
    · rintro ch T' u ⟨H', rfl, h2, h3⟩ b ⟨x, hx, e⟩
      exact e ▸ h2.lt (b := x.1) (o := x.2) hx
    · rintro k x T' u hx ⟨s, h1, rfl, h2⟩
      refine ⟨fn, _, assign, body, run_yield (r := { state := .ready, pending := none, fn, tmps := a.tmps, params := #[p], assign, body, defers := D }) ((h2.own (L, recO fn a.tmps p assign body D .ready none) List.mem_cons_self).1) (by simp), ?_⟩
      refine roundIn_P hfn ?_
      have hw := round L fn a.tmps k s x u hx h1 h2 { tmps := a.tmps.setIfInBounds p x, defers := [] } u ?_ h2.self
      · refine wpIn_mono (by simpa using hw) ?_
        intro e a1 u1 hq
        cases e with
        | normal =>
          obtain ⟨u2, hb1, hb2⟩ := hq
          refine ⟨u2, hb1, wpIn_mono hb2 ?_⟩
          intro e a2 u3 hq
          cases e with
          | normal =>
            obtain ⟨s', f1, f2⟩ := hq
            have f3 := f2.putO (recO fn a.tmps p assign body D .ready none)
            refine ⟨_, _, run_endRound none ((f2.own (L, recO fn a.tmps p assign body D .busy none) List.mem_cons_self).1), f3.less (List.nil_sublist _), _, new f3, .inl ⟨rfl, s', f1, rfl, h2.join0 f3⟩⟩
          | ret =>
            obtain ⟨H', f2, f4⟩ := hq
            have f3 := f2.putO (recO fn a.tmps p assign body D .done (some .ret))
            refine ⟨_, _, run_endRound (some .ret) ((f2.own (L, recO fn a.tmps p assign body D .busy none) List.mem_cons_self).1), f3.less (List.nil_sublist _), _, new f3, .inr (.inl ⟨rfl, .ret, H', rfl, h2.join0 f3, .inl ⟨rfl, f4⟩⟩)⟩
          | exit id =>
            obtain ⟨H', f2, f4⟩ := hq
            have f3 := f2.putO (recO fn a.tmps p assign body D .done (some (.exit id)))
            refine ⟨_, _, run_endRound (some (.exit id)) ((f2.own (L, recO fn a.tmps p assign body D .busy none) List.mem_cons_self).1), f3.less (List.nil_sublist _), _, new f3, .inr (.inl ⟨rfl, .exit id, H', rfl, h2.join0 f3, .inr ⟨id, rfl, f4⟩⟩)⟩
          | panic ch =>
            obtain ⟨hd, H', f2, f4⟩ := hq
            exact ⟨hd, f2.less (List.nil_sublist _), _, new f2, .inr (.inr ⟨ch, rfl, H', rfl, h2.join0 f2, f4⟩)⟩
          | goto t => exact hq.elim
          | outgrown => exact hq.elim
        | exit id => exact hq.elim
        | goto t => exact hq.elim
        | ret => exact hq.elim
        | panic ch => exact hq.elim
        | outgrown => exact hq.elim
      · have := (show Fr [] n E { tmps := a.tmps, defers := [] } from ⟨hF.size, rfl, hF.get⟩).put hp x
        exact this
  refine (CallsIn.mono (it w hS L J Jx Jp _ w1 hb hR hS2 ⟨s0, hF0, rfl, hS1⟩) ?_ : CallsIn (FF P none) (0 - 1) P f _ w1 _)
  rintro e u (⟨rfl, h⟩ | ⟨ch, rfl, T', H', rfl, h2, h3⟩)
  · rcases h with ⟨T', s, f1, rfl, f2⟩ | ⟨T', c, H', rfl, f2, f3⟩
    · exact ⟨_, _, run_endLoop (r := { state := .ready, pending := none, fn, tmps := a.tmps, params := #[p], assign, body, defers := D }) ((f2.own (L, recO fn a.tmps p assign body D .ready none) List.mem_cons_self).1) (by simp), k s f1 _ _ hFr (f2.put1 _)⟩
    · refine ⟨_, _, run_endLoop (r := { state := .done, pending := some c, fn, tmps := a.tmps, params := #[p], assign, body, defers := D }) ((f2.own (L, recO fn a.tmps p assign body D .done (some c)) List.mem_cons_self).1) (by simp), ?_⟩
      rcases f3 with ⟨rfl, f4⟩ | ⟨id, rfl, f4⟩
      · exact wpIn_ret (f4 _ _ hFr (f2.put1 _))
      · exact wpIn_exit (f4 _ _ hFr (f2.put1 _))
  · exact h3 _ _ hFr (h2.less (List.sublist_cons_self _ _))
end
section
variable {ds : List Deferred} {P : Program} {n : Nat} {E : Env} {w0 : World} {T : Nat → Prop} {H : Heap} {fn : Func} {R : Ending → World → Prop}
/-- Ends of a function that has ranged over another one, and returns what lies in memory. -/
theorem xw_retD1C {D tp ty2 k b off : Nat} {cs l : List Value} {te : TypeId} {fr : Nat × Nat} (hr : fn.results = #[.cell tp ty2]) (hp : look tp E = some (.pointer (some ⟨b, off, none⟩)))
    (hk : kindB P ty2 = some true) (hz : sizeB P ty2 = some k) (hm : (b, Obj.cells cs.toArray te fr) ∈ H) (hs : Sub cs off k l) (kk : ∀ w, St w0 T H w → R (.returned (.agg l.toArray)) w) : XW [mark1 D] (bodyPostM (FF P none) 0 P fn R) .ret n E w0 T ((D, dfr) :: H) :=
  xw_retM (Ds := [D]) fun _ w hF hS => ⟨_, resC1 hr hp hk hz hm hs hF hS, kk w hS⟩
theorem xw_retDCC {D tp tq ty1 ty2 b b2 : Nat} {v1 v2 : Value} (hr : fn.results = #[.cell tp ty1, .cell tq ty2]) (hp : look tp E = some (.pointer (some ⟨b, 0, none⟩))) (hq : look tq E = some (.pointer (some ⟨b2, 0, none⟩)))
    (h1 : ∀ w, St w0 T H w → (loadVar ty1 ⟨b, 0, none⟩).run P w = .ok v1 w) (h2 : ∀ w, St w0 T H w → (loadVar ty2 ⟨b2, 0, none⟩).run P w = .ok v2 w) (kk : ∀ w, St w0 T H w → R (.returned (.tuple #[v1, v2])) w) : XW [mark1 D] (bodyPostM (FF P none) 0 P fn R) .ret n E w0 T ((D, dfr) :: H) :=
  xw_retM (Ds := [D]) fun _ w hF hS => ⟨_, resCC hr hp hq hF (h1 w hS) (h2 w hS), kk w hS⟩
end
end Go.Proofs.Ytjdeplehhmhpcaa.En
