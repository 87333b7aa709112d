/- Walks by what is known: small things behind the laws. -/
import Derived.Test.YtkjciobphbcknaaEL
namespace Go.Proofs.Ytkjciobphbcknaa.En
open Go.RowKit
section
variable {P : Program} {n : Nat} {Q : Exit → Act → World → Prop} {w0 w w' : World} {T : Nat → Prop} {H : Heap} {E : Env} {l : List Oper}
theorem cw_chain2 {id : Nat} {σ : List Nat} (I : List Inf) (H0 : THeap) (hm : P.follows .mixedOrders = true) (hok : okB l I σ n = true) (h0 : H0 = tagFrom 0 H) (h : Chain P w0 T l I (KQ Q n w0 T) σ E H0) : CW P Q (.region id l.toArray true) n E w0 T H :=
  cw_chain I hm hok (h0 ▸ h)
variable {d : Option Tmp} {t ty : TypeId} {pos : String} {af : Array Edge} {g : Option (Nat × Bool)} {x y : Operand} {v u : Value} {b off : Nat}
theorem run_loadN_own {cs l : List Value} {te : TypeId} {fr : Nat × Nat} {k : Nat} (hx : Ev E x (.pointer (some ⟨b, off, none⟩))) (hk : kindB P t = some true) (hz : sizeB P t = some k) (hm : (b, Obj.cells cs.toArray te fr) ∈ H) (hl : l.length = k) (hc : ∀ j v, l[j]? = some v → cs[off + j]? = some v) : RunB P E w0 T H ⟨d, .load t x, ty, pos, af, g⟩ (.agg l.toArray) :=
  run_loadN_at hx hk hz hl fun _ hS j v hj => hS.cell hm (hc j v hj)
theorem news_own {R : Heap} {l : List Value} {te : TypeId} {fr : Nat × Nat} (hm : (b, Obj.cells l.toArray te fr) ∈ R) : ∀ w, St w0 T R w → ∀ j u, l[j]? = some u → w.cell? ⟨b, 0 + j, none⟩ = some u := fun w hS j u h => hS.cell hm (by rw [Nat.zero_add]; exact h)
variable {fn : Func} {R : Ending → World → Prop}
/-- A result that lies in memory. -/
theorem xw_retC {tp ty2 tu ts k : Nat} {cs l : List Value} {te : TypeId} {fr : Nat × Nat} {y : Value} (hr : fn.results = #[.cell tp ty2, .tmp tu, .tmp ts]) (hp : look tp E = some (.pointer (some ⟨b, off, none⟩))) (hv : look tu E = some v) (hy : look ts E = some y)
    (hk : kindB P ty2 = some true) (hz : sizeB P ty2 = some k) (hm : (b, Obj.cells cs.toArray te fr) ∈ H) (hs : Sub cs off k l) (kk : ∀ w, St w0 T H w → R (.returned (.tuple #[.agg l.toArray, v, y])) w) : XW (bodyPost P fn R) .ret n E w0 T H := fun a w hF hS => by
  have h1 := hF.get _ _ hp
  have h2 := hF.get _ _ hv
  have h3 := hF.get _ _ hy
  have hc := run_loadCellsFrom (P := P) (w := w) (a := ⟨b, off, none⟩) l 0 #[] (fun j v hj => by rw [add_cell, Nat.zero_add]; exact hS.cell hm (hs.spec.2 j v hj))
  rw [hs.spec.1] at hc
  have hk' := run_isAgg hk w
  have hz' := run_size hz w
  have hl : (loadVar ty2 ⟨b, off, none⟩).run P w = .ok (.agg l.toArray) w := by simp [loadVar, hk', hz', loadCells, hc]
  refine bodyPost_ret (v := .tuple #[.agg l.toArray, v, y]) ?_ hF.defers (kk w hS)
  simp only [results, hr]
  rw [← h2, ← h3]
  simp only [Array.getD_eq_getD_getElem?] at h1
  simp [h1, asAddr, hl]
/-- What is known of memory is known of the world as it is. -/
theorem lw_base {ops : Array Oper} {l : List Oper} (k : ∀ w1, St w0 T H w1 → LW P ops Q l n E w1 (fun b => ∃ x, x ∈ H ∧ x.1 = b) H) : LW P ops Q l n E w0 T H := fun a w hF hS =>
  k w hS a w hF ⟨rfl, rfl, rfl, Nat.le_refl _, fun _ _ _ => rfl, fun x hx => ⟨(hS.own x hx).1, .inr ⟨x, hx, rfl⟩⟩, hS.apart⟩
/-- A call behind which what is known is told of the world that it leaves. -/
theorem lcall_base {ops : Array Oper} {o : Oper} {l : List Oper} {dd : Nat} {f : FuncId} {xs : List Operand} {vs : List Value} {ts : Array TypeId} {X : Type} {F : X → World → Prop} {r : X → Value}
    (ho : o = ⟨some dd, .call ⟨.value (.func f), xs.toArray, ts⟩, ty, pos, af, none⟩) (hn : Nat.blt dd n = true) (hc : callB P f = true) (ha : Evs E xs vs)
    (h : ∀ w, St w0 NoT H w → Calls P f vs.toArray w fun e w' => ∃ s, F s w' ∧ e = .returned (r s) ∧ Below w0.heap.size w0 w')
    (k : ∀ s w1, F s w1 → Below w0.heap.size w0 w1 → LW P ops Q l n ((dd, r s) :: E) w1 NoT []) : LW P ops Q (o :: l) n E w0 NoT H := fun a w hF hS => by
  subst ho
  refine wpList_plain rfl fun K hK => ?_
  have e1 := evs_map (ρ := a.eval) ha (fun x u _ hx => hF.ev hx)
  have e2 : a.eval (.func f) = .func (.func f) #[] #[] := rfl
  unfold Oper.wp
  rw [done_call hc e2 e1]
  simp only [Oper.upon]
  refine (h w hS).mono fun e w' he => ?_
  obtain ⟨s, h1, rfl, h3⟩ := he
  exact hK _ _ (k s w' h1 h3 _ _ (hF.put hn _) (St.init w' _))
end
end Go.Proofs.Ytkjciobphbcknaa.En
