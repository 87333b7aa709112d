/- Walks by what is known: ends, marks, panics, what is put aside. Laws over any program. -/
import Derived.Test.YtjdeplehhmhpcaaEL
namespace Go.Proofs.Ytjdeplehhmhpcaa.En
open Go.RowKit
section
variable {P : Program} {r : Option Nat} {ds : List Deferred} {n : Nat} {Q : Exit → Act → World → Prop} {w0 w w' : World} {T : Nat → Prop} {H : Heap} {E : Env} {l : List Oper}
theorem cw_chain2 {id : Nat} {σ : List Nat} (I : List Inf) (H0 : THeap) (hm : P.follows .mixedOrders = true) (hok : okB l I σ n = true) (h0 : H0 = tagFrom 0 H) (h : Chain P w0 T l I (KQ ds Q n w0 T) σ E H0) : CW r ds P Q (.region id l.toArray true) n E w0 T H :=
  cw_chain I hm hok (h0 ▸ h)
variable {d : Option Tmp} {t ty : TypeId} {pos : String} {af : Array Edge} {g : Option (Nat × Bool)} {x y : Operand} {v u : Value} {b off : Nat}
theorem run_loadN_own {cs l : List Value} {te : TypeId} {fr : Nat × Nat} {k : Nat} (hx : Ev E x (.pointer (some ⟨b, off, none⟩))) (hk : kindB P t = some true) (hz : sizeB P t = some k) (hm : (b, Obj.cells cs.toArray te fr) ∈ H) (hl : l.length = k) (hc : ∀ j v, l[j]? = some v → cs[off + j]? = some v) : RunB P E w0 T H ⟨d, .load t x, ty, pos, af, g⟩ (.agg l.toArray) :=
  run_loadN_at hx hk hz hl fun _ hS j v hj => hS.cell hm (hc j v hj)
theorem news_own {R : Heap} {l : List Value} {te : TypeId} {fr : Nat × Nat} (hm : (b, Obj.cells l.toArray te fr) ∈ R) : ∀ w, St w0 T R w → ∀ j u, l[j]? = some u → w.cell? ⟨b, 0 + j, none⟩ = some u := fun w hS j u h => hS.cell hm (by rw [Nat.zero_add]; exact h)
theorem lw_base {ops : Array Oper} {l : List Oper} (k : ∀ w1, St w0 T H w1 → LW r ds P ops Q l n E w1 (fun b => ∃ x, x ∈ H ∧ x.1 = b) H) : LW r ds P ops Q l n E w0 T H := fun a w hF hS =>
  k w hS a w hF ⟨rfl, rfl, rfl, Nat.le_refl _, fun _ _ _ => rfl, fun x hx => ⟨(hS.own x hx).1, .inr ⟨x, hx, rfl⟩⟩, hS.apart⟩
end
def blk (H : Heap) (b : Nat) : Prop := ∃ x, x ∈ H ∧ x.1 = b
section
variable {P : Program} {n : Nat} {w0 w1 w : World} {T : Nat → Prop} {H H' F : Heap} {E : Env} {b off : Nat}
theorem St.join (h1 : St w0 T (H ++ F) w1) (h : St w1 (blk H) H' w) : St w0 T (H' ++ F) w := by
  have ap := List.pairwise_append.1 h1.apart
  have up : ∀ x, x ∈ H' → w0.heap.size ≤ x.1 ∨ T x.1 := fun x hx => by
    rcases (h.own x hx).2 with k | ⟨y, hy, e⟩
    · exact .inl (Nat.le_trans h1.size k)
    · rw [← e]; exact (h1.own y (List.mem_append_left _ hy)).2
  have fr : ∀ x, x ∈ F → w.heap[x.1]? = some x.2 ∧ ¬ blk H x.1 ∧ x.1 < w1.heap.size := fun x hx => by
    obtain ⟨a, _⟩ := h1.own x (List.mem_append_right _ hx)
    have lt := (Array.getElem?_eq_some_iff.1 a).1
    have nb : ¬ blk H x.1 := fun ⟨y, hy, e⟩ => ap.2.2 y hy x hx e
    exact ⟨(h.old _ lt nb).trans a, nb, lt⟩
  refine ⟨h.os.trans h1.os, h.tape.trans h1.tape, h.output.trans h1.output, Nat.le_trans h1.size h.size, fun b hb hT => ?_, fun x hx => ?_, ?_⟩
  · have nb : ¬ blk H b := fun ⟨y, hy, e⟩ => by
      rcases (h1.own y (List.mem_append_left _ hy)).2 with k | k
      · omega
      · exact hT (e ▸ k)
    exact (h.old b (Nat.lt_of_lt_of_le hb h1.size) nb).trans (h1.old b hb hT)
  · rcases List.mem_append.1 hx with hx | hx
    · exact ⟨(h.own x hx).1, up x hx⟩
    · exact ⟨(fr x hx).1, (h1.own x (List.mem_append_right _ hx)).2⟩
  · refine List.pairwise_append.2 ⟨h.apart, ap.2.1, fun x hx y hy e => ?_⟩
    rcases (h.own x hx).2 with k | k
    · have := (fr y hy).2.2; omega
    · exact (fr y hy).2.1 (e ▸ k)
theorem St.self (h : St w0 T H w) : St w (blk H) H w := ⟨rfl, rfl, rfl, Nat.le_refl _, fun _ _ _ => rfl, fun x hx => ⟨(h.own x hx).1, .inr ⟨x, hx, rfl⟩⟩, h.apart⟩
theorem load_own {t k : Nat} {cs l : List Value} {te : TypeId} {fr : Nat × Nat} (hS : St w0 T H w) (hk : kindB P t = some true) (hz : sizeB P t = some k) (hm : (b, Obj.cells cs.toArray te fr) ∈ H) (hs : Sub cs off k l) :
    (loadVar t ⟨b, off, none⟩).run P w = .ok (.agg l.toArray) w := by
  have hc := run_loadCellsFrom (P := P) (w := w) (a := ⟨b, off, none⟩) l 0 #[] (fun j v hj => by rw [add_cell, Nat.zero_add]; exact hS.cell hm (hs.spec.2 j v hj))
  rw [hs.spec.1] at hc
  have hk' := run_isAgg hk w
  have hz' := run_size hz w
  simp [loadVar, hk', hz', loadCells, hc]
end
section
variable {r : Option Nat} {ds : List Deferred} {P : Program} {ops : Array Oper} {Q : Exit → Act → World → Prop} {n : Nat} {E : Env} {w0 w w' : World} {T : Nat → Prop} {H H' F : Heap} {fn : Func} {R : Ending → World → Prop} {l : List Oper}
theorem enter {f : FuncId} {c : Code} {l : List Value} (hf : P.funcs[f]? = some fn) (hb : fn.body = some c) (hn : fn.ntmps = n) (hl : Nat.ble l.length n = true) (hE : Fill 0 l E)
    (k : CW none [] P (bodyPostM (FF P none) 0 P fn R) c n E w NoT []) : CallsF P f l.toArray w R := by
  have hl' : l.length ≤ n := by simpa using hl
  refine (callsIn_of_wp_marks hf hb (show (P.funcs[f]?).isSome = true by rw [hf]; rfl) (k _ w ⟨by simp [hn]; omega, rfl, fun t v ht => ?_⟩ (St.init w _)) rfl)
  obtain ⟨_, h2⟩ := hE.get t v ht
  simp only [Nat.sub_zero] at h2
  have hlt : t < l.length := (List.getElem?_eq_some_iff.1 h2).1
  simp [Array.getD_eq_getD_getElem?, Array.getElem?_append_left (show t < l.toArray.size by simpa using hlt), h2]
/-! Marks. -/
def markD (Ds : List Nat) : List Deferred := Ds.map fun D => { target := .collected D, args := #[] }
def markH (Ds : List Nat) : Heap := Ds.map fun D => (D, .deferred (some []))
theorem St.put1 {D : Nat} {o : Obj} (h : St w0 T ((D, o) :: H) w) (o' : Obj) : St w0 T H (w.putObj D o') := by
  have ap := List.pairwise_cons.1 h.apart
  have hD := (h.own (D, o) (by simp)).2
  have oth : ∀ k, k ≠ D → (w.putObj D o').heap[k]? = w.heap[k]? := fun k hk => World.putObj_heap_other hk
  refine ⟨h.os, h.tape, h.output, by simpa using h.size, fun b hb hT => ?_, fun x hx => ?_, ap.2⟩
  · rw [oth b (fun e => ?_)]
    · exact h.old b hb hT
    · subst e
      rcases hD with q | q
      · simp only at q; omega
      · exact hT q
  · obtain ⟨h1, h2⟩ := h.own x (by simp [hx])
    exact ⟨by rw [oth x.1 (fun e => ap.1 x hx e.symm)]; exact h1, h2⟩
theorem leavesM {tmps : Array Value} {u : FrameMode} (hu : u ≠ .run) : ∀ (Ds : List Nat) (w : World), St w0 T (markH Ds ++ H) w → (∀ w', St w0 T H w' → LeavesIn (FF P none) 0 P fn tmps R [] u w') → LeavesInM (FF P none) 0 P fn tmps R (markD Ds) u w
  | [], w, h, k => k w h
  | D :: Ds, w, h, k => by
    have h' : St w0 T ((D, .deferred (some [])) :: (markH Ds ++ H)) w := h
    exact ⟨hu, .inl ⟨D, _, rfl, run_takeDeferred ((h'.own (D, .deferred (some [])) (by simp)).1), leavesM hu Ds _ (h'.put1 _) k⟩⟩
theorem xw_endM {Ds : List Nat} (k : ∀ a w, Fr (markD Ds) n E a → St w0 T H w → ∃ v, (results fn a.tmps).run P w = .ok v w ∧ R (.returned v) w) : XW (markD Ds) (bodyPostM (FF P none) 0 P fn R) .normal n E w0 T (markH Ds ++ H) := fun a w hF hS => by
  show LeavesInM (FF P none) 0 P fn a.tmps R a.defers .returning w
  rw [hF.defers]
  exact leavesM (by simp) Ds w hS (fun w' hS' => k a w' hF hS')
theorem xw_retM {Ds : List Nat} (k : ∀ a w, Fr (markD Ds) n E a → St w0 T H w → ∃ v, (results fn a.tmps).run P w = .ok v w ∧ R (.returned v) w) : XW (markD Ds) (bodyPostM (FF P none) 0 P fn R) .ret n E w0 T (markH Ds ++ H) := xw_endM k
theorem xw_panicM {Ds : List Nat} {ch : List PanicEntry} (k : ∀ w, St w0 T H w → R (.panicked ch) w) : XW (markD Ds) (bodyPostM (FF P none) 0 P fn R) (.panic ch) n E w0 T (markH Ds ++ H) := fun a w hF hS => by
  show LeavesInM (FF P none) 0 P fn a.tmps R a.defers (.panicking ch) w
  rw [hF.defers]
  exact leavesM (by simp) Ds w hS (fun w' hS' => k w' hS')
theorem res1 {t : Nat} {v : Value} {a : Act} (hr : fn.results = #[.tmp t]) (hv : look t E = some v) (hF : Fr ds n E a) (w : World) : (results fn a.tmps).run P w = .ok v w := by rw [results_tmp hr, hF.get _ _ hv]
theorem res0 {a : Act} (hr : fn.results = #[]) (w : World) : (results fn a.tmps).run P w = .ok (.tuple #[]) w := by rw [results_none hr]
theorem resC1 {tp ty2 k b off : Nat} {cs l : List Value} {te : TypeId} {fr : Nat × Nat} {a : Act} (hr : fn.results = #[.cell tp ty2]) (hp : look tp E = some (.pointer (some ⟨b, off, none⟩)))
    (hk : kindB P ty2 = some true) (hz : sizeB P ty2 = some k) (hm : (b, Obj.cells cs.toArray te fr) ∈ H) (hs : Sub cs off k l) (hF : Fr ds n E a) (hS : St w0 T H w) : (results fn a.tmps).run P w = .ok (.agg l.toArray) w := by
  have h1 := hF.get _ _ hp
  have hl := load_own (P := P) hS hk hz hm hs
  simp only [results, hr]
  simp only [Array.getD_eq_getD_getElem?] at h1
  simp [h1, asAddr, hl]
theorem resC2 {tp ty2 tu k b off : Nat} {cs l : List Value} {te : TypeId} {fr : Nat × Nat} {a : Act} {v : Value} (hr : fn.results = #[.cell tp ty2, .tmp tu]) (hp : look tp E = some (.pointer (some ⟨b, off, none⟩))) (hv : look tu E = some v)
    (hk : kindB P ty2 = some true) (hz : sizeB P ty2 = some k) (hm : (b, Obj.cells cs.toArray te fr) ∈ H) (hs : Sub cs off k l) (hF : Fr ds n E a) (hS : St w0 T H w) : (results fn a.tmps).run P w = .ok (.tuple #[.agg l.toArray, v]) w := by
  have h1 := hF.get _ _ hp
  have h2 := hF.get _ _ hv
  have hl := load_own (P := P) hS hk hz hm hs
  simp only [results, hr]
  rw [← h2]
  simp only [Array.getD_eq_getD_getElem?] at h1
  simp [h1, asAddr, hl]
theorem res2 {t u : Nat} {v x : Value} {a : Act} (hr : fn.results = #[.tmp t, .tmp u]) (hv : look t E = some v) (hx : look u E = some x) (hF : Fr ds n E a) (w : World) : (results fn a.tmps).run P w = .ok (.tuple #[v, x]) w := by rw [results_tmp2 hr, hF.get _ _ hv, hF.get _ _ hx]
theorem res3 {t u s : Nat} {v x y : Value} {a : Act} (hr : fn.results = #[.tmp t, .tmp u, .tmp s]) (hv : look t E = some v) (hx : look u E = some x) (hy : look s E = some y) (hF : Fr ds n E a) (w : World) : (results fn a.tmps).run P w = .ok (.tuple #[v, x, y]) w := by
  simp only [results, hr]; have h1 := hF.get _ _ hv; have h2 := hF.get _ _ hx; have h3 := hF.get _ _ hy; simp [← h1, ← h2, ← h3]
theorem xw_ret0 (hr : fn.results = #[]) (k : ∀ w, St w0 T H w → R (.returned (.tuple #[])) w) : XW [] (bodyPostM (FF P none) 0 P fn R) .ret n E w0 T H := xw_retM (Ds := []) fun _ w _ hS => ⟨_, res0 hr w, k w hS⟩
theorem xw_end0 (hr : fn.results = #[]) (k : ∀ w, St w0 T H w → R (.returned (.tuple #[])) w) : XW [] (bodyPostM (FF P none) 0 P fn R) .normal n E w0 T H := xw_endM (Ds := []) fun _ w _ hS => ⟨_, res0 hr w, k w hS⟩
theorem xw_ret1 {t : Nat} {v : Value} (hr : fn.results = #[.tmp t]) (hv : look t E = some v) (k : ∀ w, St w0 T H w → R (.returned v) w) : XW [] (bodyPostM (FF P none) 0 P fn R) .ret n E w0 T H := xw_retM (Ds := []) fun _ w hF hS => ⟨_, res1 hr hv hF w, k w hS⟩
theorem xw_ret2 {t u : Nat} {v x : Value} (hr : fn.results = #[.tmp t, .tmp u]) (hv : look t E = some v) (hx : look u E = some x) (k : ∀ w, St w0 T H w → R (.returned (.tuple #[v, x])) w) : XW [] (bodyPostM (FF P none) 0 P fn R) .ret n E w0 T H := xw_retM (Ds := []) fun _ w hF hS => ⟨_, res2 hr hv hx hF w, k w hS⟩
theorem xw_ret3 {t u s : Nat} {v x y : Value} (hr : fn.results = #[.tmp t, .tmp u, .tmp s]) (hv : look t E = some v) (hx : look u E = some x) (hy : look s E = some y) (k : ∀ w, St w0 T H w → R (.returned (.tuple #[v, x, y])) w) : XW [] (bodyPostM (FF P none) 0 P fn R) .ret n E w0 T H := xw_retM (Ds := []) fun _ w hF hS => ⟨_, res3 hr hv hx hy hF w, k w hS⟩
theorem xw_retC1 {tp ty2 k b off : Nat} {cs l : List Value} {te : TypeId} {fr : Nat × Nat} (hr : fn.results = #[.cell tp ty2]) (hp : look tp E = some (.pointer (some ⟨b, off, none⟩)))
    (hk : kindB P ty2 = some true) (hz : sizeB P ty2 = some k) (hm : (b, Obj.cells cs.toArray te fr) ∈ H) (hs : Sub cs off k l) (kk : ∀ w, St w0 T H w → R (.returned (.agg l.toArray)) w) : XW [] (bodyPostM (FF P none) 0 P fn R) .ret n E w0 T H := xw_retM (Ds := []) fun _ w hF hS => ⟨_, resC1 hr hp hk hz hm hs hF hS, kk w hS⟩
theorem xw_retC2 {tp ty2 tu k b off : Nat} {cs l : List Value} {te : TypeId} {fr : Nat × Nat} {v : Value} (hr : fn.results = #[.cell tp ty2, .tmp tu]) (hp : look tp E = some (.pointer (some ⟨b, off, none⟩))) (hv : look tu E = some v)
    (hk : kindB P ty2 = some true) (hz : sizeB P ty2 = some k) (hm : (b, Obj.cells cs.toArray te fr) ∈ H) (hs : Sub cs off k l) (kk : ∀ w, St w0 T H w → R (.returned (.tuple #[.agg l.toArray, v])) w) : XW [] (bodyPostM (FF P none) 0 P fn R) .ret n E w0 T H := xw_retM (Ds := []) fun _ w hF hS => ⟨_, resC2 hr hp hv hk hz hm hs hF hS, kk w hS⟩
theorem xw_panic {ch : List PanicEntry} (k : ∀ w, St w0 T H w → R (.panicked ch) w) : XW [] (bodyPostM (FF P none) 0 P fn R) (.panic ch) n E w0 T H := xw_panicM (Ds := []) k
/-! Panics. -/
theorem xw_then_panic {K : Act → World → Prop} {ch : List PanicEntry} (k : XW ds Q (.panic ch) n E w0 T H) : XW ds (Exit.then K Q) (.panic ch) n E w0 T H := k
theorem xw_in_panic {id : Nat} {ch : List PanicEntry} (k : XW ds Q (.panic ch) n E w0 T H) : XW ds (Exit.inBlock id Q) (.panic ch) n E w0 T H := k
theorem xw_pick {e : Exit} (h : Pick H H') (k : XW ds Q e n E w0 T H') : XW ds Q e n E w0 T H := fun a w hF hS => k a w hF (hS.pick h)
theorem xw_less {e : Exit} {E' : Env} (h : Less E E') (k : XW ds Q e n E' w0 T H) : XW ds Q e n E w0 T H := fun a w hF hS => k a w (hF.less h) hS
theorem cw_pick {c : Code} (h : Pick H H') (k : CW r ds P Q c n E w0 T H') : CW r ds P Q c n E w0 T H := fun a w hF hS => k a w hF (hS.pick h)
theorem lw_pick (h : Pick H H') (k : LW r ds P ops Q l n E w0 T H') : LW r ds P ops Q l n E w0 T H := fun a w hF hS => k a w hF (hS.pick h)
variable {w1 : World}
theorem cw_aside {c : Code} (F : Heap) (h : ∀ w1, St w0 T (H ++ F) w1 → CW r ds P Q c n E w1 (blk H) H) : CW r ds P Q c n E w0 T (H ++ F) := fun a w hF hS =>
  h w hS a w hF (hS.less (List.sublist_append_left _ _)).self
theorem xw_back {e : Exit} (h1 : St w0 T (H ++ F) w1) (h : XW ds Q e n E w0 T (H' ++ F)) : XW ds Q e n E w1 (blk H) H' := fun a w hF hS => h a w hF (h1.join hS)
theorem cw_back {c : Code} (h1 : St w0 T (H ++ F) w1) (h : CW r ds P Q c n E w0 T (H' ++ F)) : CW r ds P Q c n E w1 (blk H) H' := fun a w hF hS => h a w hF (h1.join hS)
theorem St.join0 (h1 : St w0 T H w1) (h : St w1 (blk H) H' w) : St w0 T H' w := by
  have := (show St w0 T (H ++ []) w1 by rw [List.append_nil]; exact h1).join h
  rwa [List.append_nil] at this
theorem lw_back (h1 : St w0 T H w1) (h : LW r ds P ops Q l n E w0 T H') : LW r ds P ops Q l n E w1 (blk H) H' := fun a w hF hS => h a w hF (h1.join0 hS)
theorem xw_back0 {e : Exit} (h1 : St w0 T H w1) (h : XW ds Q e n E w0 T H') : XW ds Q e n E w1 (blk H) H' := fun a w hF hS => h a w hF (h1.join0 hS)
/-- A panic. -/
theorem lpanic {x : Operand} {v : Value} {d : Option Tmp} {ty : TypeId} {pos : String} {af : Array Edge} (hx : Ev E x v) (hv : ∀ w, (Instr.panic v).run P w = .halt (.panic v) w) (k : XW ds Q (.panic [{ v := v, recovered := false }]) n E w0 T H) :
    LW r ds P ops Q (⟨d, .panic x, ty, pos, af, none⟩ :: l) n E w0 T H := fun a w hF hS => by
  refine wpListIn_plain rfl fun K _ => ⟨fun f hf => (by rw [noFn_about (o := ⟨d, .panic x, ty, pos, af, none⟩) rfl] at hf; cases hf), ?_⟩
  rw [show (FF P r).round = r from rfl, Oper.semAt_eq r _ _ (by intro c; simp)]
  have e : (execOp a.eval ⟨d, .panic x, ty, pos, af, none⟩).run P w = .halt (.panic v) w := by
    simp only [execOp, hF.ev hx, Sem.run_bind, hv w]
    rfl
  rw [e]
  exact k a w hF hS
/-- A call that may end in a panic. -/
theorem lcallG {o : Oper} {dd : Nat} {f : FuncId} {as : List Value} {X : Type} {F : X → World → Prop} {rv : X → Value} {G : List PanicEntry → Prop} (hg : o.guard = none) (hd : o.dst = some dd) (hn : Nat.blt dd n = true)
    (ho : ∀ c, o.op ≠ .defer c) (hex : ∀ a w, Fr ds n E a → (∀ q, o.about P w a.eval = some q → (P.funcs[q]?).isSome = true) ∧ (execOp a.eval o).run P w = .ok (.enter f as.toArray) w)
    (h : ∀ w, St w0 T H w → CallsF P f as.toArray w fun e w' => ((∃ s, F s w' ∧ e = .returned (rv s)) ∨ ∃ ch, G ch ∧ e = .panicked ch) ∧ Below w.heap.size w w')
    (k1 : ∀ s w1, F s w1 → St w0 T H w1 → LW r ds P ops Q l n ((dd, rv s) :: E) w1 (blk H) H) (k2 : ∀ ch, G ch → XW ds Q (.panic ch) n E w0 T H) : LW r ds P ops Q (o :: l) n E w0 T H := fun a w hF hS => by
  refine wpListIn_plain hg fun K hK => ⟨(hex a w hF).1, ?_⟩
  rw [show (FF P r).round = r from rfl, Oper.semAt_eq r _ _ ho, (hex a w hF).2]
  refine ⟨fun hh => by simp [FF] at hh, ?_⟩
  refine (CallsIn.mono ((h w hS)) ?_ : CallsIn (FF P none) (0 - 1) P f as.toArray w _)
  rintro e w' ⟨h1, hb⟩
  have hS1 := hS.call hb
  rcases h1 with ⟨s, hs, rfl⟩ | ⟨ch, hc, rfl⟩
  · refine hK _ _ (k1 s w' hs hS1 _ _ ?_ hS1.self)
    rw [hd]; exact hF.put hn _
  · exact k2 ch hc a w' hF hS1
theorem lcallP {dd : Nat} {f : FuncId} {xs : List Operand} {vs : List Value} {ts : Array TypeId} {ty : TypeId} {pos : String} {af : Array Edge} {X : Type} {F : X → World → Prop} {rv : X → Value} {G : List PanicEntry → Prop}
    (hn : Nat.blt dd n = true) (hc : callB P f = true) (ha : Evs E xs vs) (h : ∀ w, St w0 T H w → CallsF P f vs.toArray w fun e w' => ((∃ s, F s w' ∧ e = .returned (rv s)) ∨ ∃ ch, G ch ∧ e = .panicked ch) ∧ Below w.heap.size w w')
    (k1 : ∀ s w1, F s w1 → St w0 T H w1 → LW r ds P ops Q l n ((dd, rv s) :: E) w1 (blk H) H) (k2 : ∀ ch, G ch → XW ds Q (.panic ch) n E w0 T H) :
    LW r ds P ops Q (⟨some dd, .call ⟨.value (.func f), xs.toArray, ts⟩, ty, pos, af, none⟩ :: l) n E w0 T H :=
  lcallG rfl rfl hn (by intro c; simp) (fun a w hF => by
    have e1 := evs_map (ρ := a.eval) ha (fun x u _ hx => hF.ev hx)
    have e2 : a.eval (.func f) = .func (.func f) #[] #[] := rfl
    exact ⟨call_about hc e2, done_call hc e2 e1⟩) h k1 k2
theorem lcallvP {dd : Nat} {f : FuncId} {x : Operand} {xs : List Operand} {vs cs as : List Value} {ts : Array TypeId} {ty : TypeId} {pos : String} {af : Array Edge} {X : Type} {F : X → World → Prop} {rv : X → Value} {G : List PanicEntry → Prop}
    (hn : Nat.blt dd n = true) (hc : callB P f = true) (hx : Ev E x (.func (.func f) #[] cs.toArray)) (ha : Evs E xs vs) (hcat : vs ++ cs = as) (h : ∀ w, St w0 T H w → CallsF P f as.toArray w fun e w' => ((∃ s, F s w' ∧ e = .returned (rv s)) ∨ ∃ ch, G ch ∧ e = .panicked ch) ∧ Below w.heap.size w w')
    (k1 : ∀ s w1, F s w1 → St w0 T H w1 → LW r ds P ops Q l n ((dd, rv s) :: E) w1 (blk H) H) (k2 : ∀ ch, G ch → XW ds Q (.panic ch) n E w0 T H) :
    LW r ds P ops Q (⟨some dd, .call ⟨.value x, xs.toArray, ts⟩, ty, pos, af, none⟩ :: l) n E w0 T H :=
  lcallG rfl rfl hn (by intro c; simp) (fun a w hF => by
    have e1 := evs_map (ρ := a.eval) ha (fun x u _ hx => hF.ev hx)
    exact ⟨callv_about hc (hF.ev hx), done_callv hc (hF.ev hx) e1 hcat⟩) h k1 k2
end
end Go.Proofs.Ytjdeplehhmhpcaa.En
