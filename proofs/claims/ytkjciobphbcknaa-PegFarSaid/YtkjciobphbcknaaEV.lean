/- Walks by what is known: a drawn region in which one call stands between all that is before and all that is behind it: behind it what is known is told of the world that it leaves. -/
import Derived.Test.YtkjciobphbcknaaSJ
namespace Go.Proofs.Ytkjciobphbcknaa.En
open Go.RowKit
section
variable {P : Program} {w0 : World} {T : Nat → Prop} {l : List Oper} {I : List Inf} {n : Nat} {Q : Exit → Act → World → Prop}
theorem any_chain {KK : Env → THeap → Prop} (r2 : List Nat) (hK : ∀ E E2 H H2, SameE E E2 → SameH H H2 → KK E H → KK E2 H2) (k1 : fineB l n = true) (k2 : upB l I = true)
    (k7 : ∀ x, x < l.length → ∀ t, t ∈ (infAt I x).wr → (infAt I x).pt.contains t = true) (k8 : ∀ x, x < l.length → ((infAt I x).pt.Nodup ∧ (infAt I x).rd.Nodup) ∧ (infAt I x).wr.Nodup)
    (kk : ∀ (fuel : Nat) (listed : Array Bool) (a : Act) (w : World) (E : Env) (H : THeap), listed.size = l.length → (listed.toList.filter (! ·)).length ≤ fuel → (∀ i, i < l.length → (listed.getD i false = true ↔ i ∉ r2)) →
      (∀ i j, listed.getD i false = true → waits l i j = true → listed.getD j false = true) → Fr n E a → StT w0 T H w → KK E H → wpAny P .any l.toArray Q fuel listed a w) :
    ∀ (fuel : Nat) (listed : Array Bool) (a : Act) (w : World) (r : List Nat) (E : Env) (H : THeap), listed.size = l.length → (listed.toList.filter (! ·)).length ≤ fuel → (∀ i, i < l.length → (listed.getD i false = true ↔ i ∉ r ∧ i ∉ r2)) → (∀ i, i ∈ r → i < l.length) → (∀ i, i ∈ r → i ∉ r2) → pairsB l I r = true → r.Nodup →
      (∀ i j, listed.getD i false = true → waits l i j = true → listed.getD j false = true) → (∀ j, j ∈ r2 → ∀ i, i ∈ r → (infAt I j).up.testBit i = true) → Fr n E a → StT w0 T H w → Chain P w0 T l I KK r E H → wpAny P .any l.toArray Q fuel listed a w := by
  intro fuel
  induction fuel with
  | zero =>
    intro listed a w r E H hs hc hl hr hr2 hp hnd hcl hup2 hF hS hch
    cases r with
    | nil =>
      cases hch with
      | nil k => exact kk _ _ a w E H hs hc (fun i hi => by rw [hl i hi]; simp) hcl hF hS k
    | cons i0 r =>
      exfalso
      have hi := hr i0 (by simp)
      have hlt : i0 < listed.size := by omega
      have hb : listed.getD i0 false = false := by
        cases hb : listed.getD i0 false with
        | false => rfl
        | true => exact absurd (show i0 ∈ i0 :: r by simp) ((hl i0 hi).1 hb).1
      have h3 : listed[i0] = false := by simpa [Array.getD, hlt] using hb
      have : false ∈ listed.toList.filter (! ·) := by
        rw [List.mem_filter]
        exact ⟨by rw [← h3]; simp, rfl⟩
      have := List.length_pos_of_mem this
      omega
  | succ fuel ih =>
    intro listed a w r E H hs hc hl hr hr2 hp hnd hcl hup2 hF hS hch
    by_cases hr0 : r = []
    · subst hr0
      cases hch with
      | nil k => exact kk _ _ a w E H hs hc (fun i hi => by rw [hl i hi]; simp) hcl hF hS k
    · obtain ⟨i0, hi0⟩ := List.exists_mem_of_ne_nil r hr0
      refine ⟨fun h => ?_, fun j hj => ?_⟩
      · have := ready_nil k1 hs h i0 (hr i0 hi0)
        exact absurd hi0 ((hl i0 (hr i0 hi0)).1 this).1
      obtain ⟨h1, h2, _⟩ := mem_ready hj
      have hjl : j < l.length := by simpa using h1
      have hlt : j < listed.size := by omega
      have h3 : listed[j] = false := by simpa [Array.getD, hlt] using h2
      have h3' : listed.getD j false = false := by simp [Array.getD, hlt, h3]
      have hwl0 : ∀ k, waits l j k = true → listed.getD k false = true := fun k hk => wait_listed hj hk
      have hjr : j ∈ r := Classical.byContradiction fun e => by
        by_cases e2 : j ∈ r2
        · have := up_listed k2 hcl j hjl hwl0 i0 (hr i0 hi0) (hup2 j e2 i0 hi0)
          rw [(hl i0 (hr i0 hi0))] at this; exact this.1 hi0
        · rw [(hl j hjl).2 ⟨e, e2⟩] at h3'; cases h3'
      have hwl : ∀ k, waits l j k = true → listed.getD k false = true := fun k hk => wait_listed hj hk
      have hrl : ∀ i, i ∈ r → listed.getD i false = false := fun i hi => by
        cases hb : listed.getD i false with
        | false => rfl
        | true => exact absurd hi ((hl i (hr i hi)).1 hb).1
      have hch2 := hch.front hK k1 hp hnd hjr hr (fun i hi => by
        cases hb : waits l j i with
        | false => rfl
        | true => have := hwl i hb; rw [hrl i hi] at this; cases this) (fun i hi => by
        cases hb : (infAt I j).up.testBit i with
        | false => rfl
        | true => have := up_listed k2 hcl j hjl hwl i (hr i hi) hb; rw [hrl i hi] at this; cases this)
      have ho : l[j]? = some l[j] := List.getElem?_eq_getElem hjl
      have hfd := (fine_at k1 ho).1
      -- what holds behind it
      have next : ∀ (a' : Act) (w' : World) (E' : Env) (H' : THeap), Fr n E' a' → StT w0 T H' w' → Chain P w0 T l I KK (r.erase j) E' H' → wpAny P .any l.toArray Q fuel (listed.setIfInBounds j true) a' w' := by
        intro a' w' E' H' hF' hS' hc'
        refine ih _ _ _ (r.erase j) E' H' (by simp [hs]) ?_ (fun i hi => ?_) (fun i hi => hr i (List.mem_of_mem_erase hi)) (fun i hi => hr2 i (List.mem_of_mem_erase hi)) ?_ (hnd.erase j) ?_ (fun j' hj' i hi => hup2 j' hj' i (List.mem_of_mem_erase hi)) hF' hS' hc'
        · have := count_set listed.toList j (by simpa using hlt) (by simpa using h3)
          rw [Array.toList_setIfInBounds]
          omega
        · rw [getD_set _ _ _ hlt, hnd.mem_erase_iff]
          by_cases e : i = j
          · subst e; simp [hr2 i hjr]
          · rw [if_neg e, hl i hi]; simp [e]
        · have sub : ∀ {r r' : List Nat}, r'.Sublist r → pairsB l I r = true → pairsB l I r' = true := by
            intro r r' hs
            induction hs with
            | slnil => exact fun h => h
            | cons x _ ih => intro h; simp only [pairsB, Bool.and_eq_true] at h; exact ih h.2
            | cons_cons x hs2 ih =>
              intro h
              simp only [pairsB, Bool.and_eq_true, List.all_eq_true] at h ⊢
              exact ⟨fun y hy => h.1 y (hs2.subset hy), ih h.2⟩
          exact sub List.erase_sublist hp
        · intro m k hm2 hw
          rw [getD_set _ _ _ hlt] at hm2 ⊢
          by_cases hkj : k = j
          · rw [if_pos hkj]
          · rw [if_neg hkj]
            by_cases hmj : m = j
            · subst hmj; exact hwl k hw
            · rw [if_neg hmj] at hm2
              exact hcl m k hm2 hw
      have hyes : ∀ {E : Env}, Fr n E a → GuardYes l E l[j] → Region.wanted l[j] (yielded l.toArray a.tmps) = true := by
        intro E hF hg
        rcases hg with hg | ⟨g, b, t, hg, hgt, hb⟩
        · simp [Region.wanted, hg]
        · have hgl := slot_lt hgt
          have hgo : l[g]? = some l[g] := List.getElem?_eq_getElem hgl
          have htn := (fine_at k1 hgo).1 t (by simpa [slotOf, hgo] using hgt)
          simp [Region.wanted, hg, yielded_of (ops := l.toArray) hF (show (l.toArray[g]?).bind (·.dst) = some t by simpa [slotOf] using hgt) hb (by simpa using htn)]
      have hno : ∀ {E : Env}, Fr n E a → GuardNo l E l[j] → Region.wanted l[j] (yielded l.toArray a.tmps) = false := by
        intro E hF hg
        obtain ⟨g, b, c, t, hg, hgt, hb, hcb⟩ := hg
        have hgl := slot_lt hgt
        have hgo : l[g]? = some l[g] := List.getElem?_eq_getElem hgl
        have htn := (fine_at k1 hgo).1 t (by simpa [slotOf, hgo] using hgt)
        simp only [Region.wanted, hg]
        exact not_yielded (ops := l.toArray) hF (show (l.toArray[g]?).bind (·.dst) = some t by simpa [slotOf] using hgt) hb (by simpa using htn) hcb
      have hnd3 := k8 j hjl
      have hwp := k7 j hjl
      unfold wpOp
      simp only [List.getElem?_toArray, ho]
      cases hch2 with
      | @det _ o _ _ _ v R A B b1 b2 b3 b4 b5 b6 b7 c =>
        rw [ho] at b2; cases b2
        rw [if_pos (hyes hF b3)]
        have sA := hS.sel b5 hnd3.2
        have sR := hS.sel b4 hnd3.1.2
        refine .inl (wp_of_done (b7 a.eval w (fun x u _ hx => hF.ev hx) hS.base (fun x hx => (sR.own x hx).1) (fun x hx => (sA.own x hx).1) sR sA.apart) ?_)
        rintro u w' ⟨rfl, ht⟩
        exact next _ w' _ _ (hF.dst hfd _) (hS.step b5 (fun t ht' => by rw [b6]; have := hwp t ht'; simpa using this) (by rw [b6]; exact hnd3.1.1) ht) c
      | @skip _ o _ _ _ b1 b2 b3 b4 c =>
        rw [ho] at b2; cases b2
        rw [if_neg (by rw [hno hF b3]; simp)]
        exact next _ w _ _ (hF.dst hfd _) hS c
      | @ext _ o _ _ _ X F v R A B b1 b2 b3 b4 b5 b6 bne b7 c =>
        rw [ho] at b2; cases b2
        rw [if_pos (hyes hF b3)]
        have sA := hS.sel b5 hnd3.2
        have sR := hS.sel b4 hnd3.1.2
        refine .inl (wp_of_done (b7 a.eval w (fun x u _ hx => hF.ev hx) hS.base (fun x hx => (sR.own x hx).1) (fun x hx => (sA.own x hx).1) sR sA.apart) ?_)
        rintro u w' ⟨x, hx, rfl, ht⟩
        exact next _ w' _ _ (hF.dst hfd _) (hS.step b5 (fun t ht' => by rw [b6 x]; have := hwp t ht'; simpa using this) (by rw [b6 x]; exact hnd3.1.1) ht) (c x hx)
      | @flo _ o _ _ _ t s z b1 b2 b3 b4 b5 b6 b7 b8 c =>
        rw [ho] at b2; cases b2
        rw [if_pos (hyes hF (.inl b3))]
        refine .inl (wp_of_done (K := fun u w' => u = t w.heap.size ∧ w' = w.alloc z) (by rw [b4.exec a.eval w (fun x u _ hx => hF.ev hx)]; exact ⟨rfl, rfl⟩) ?_)
        rintro u w' ⟨rfl, rfl⟩
        refine next _ _ _ _ (hF.dst hfd _) (hS.step (B := [(s, (w.heap.size, z))]) (.nil : Sel H [] []) (fun t ht => by cases ht) (by simp [tagsOf]) (tr_alloc w _)) (c w.heap.size)

/-- What stands behind the call. -/
def PV (P : Program) (l : List Oper) (I : List Inf) (Q : Exit → Act → World → Prop) (n j : Nat) (σ2 : List Nat) (w0 : World) (T : Nat → Prop) (E : Env) (H : THeap) : Prop :=
  ∃ o, l[j]? = some o ∧ o.guard = none ∧ ∀ a w, Fr n E a → StT w0 T H w → Done P ((execOp a.eval o).run P w) fun u w' => ∃ T2 H2, StT w' T2 H2 w' ∧ Chain P w' T2 l I (KQ Q n w' T2) σ2 (dstE o u E) H2
theorem Fr.same {E E2 : Env} {a : Act} (h : Fr n E2 a) (e : SameE E E2) : Fr n E a := ⟨h.size, h.defers, fun t v ht => h.get t v ((e t).trans ht)⟩
theorem PV.same {j : Nat} {σ2 : List Nat} (E E2 : Env) (H H2 : THeap) (h1 : SameE E E2) (h2 : SameH H H2) (k : PV P l I Q n j σ2 w0 T E H) : PV P l I Q n j σ2 w0 T E2 H2 := by
  obtain ⟨o, a1, a2, a3⟩ := k
  refine ⟨o, a1, a2, fun a w hF hS => (a3 a w (hF.same h1) ⟨hS.base, fun t x ht => hS.own t x ((h2 t).trans ht), fun s t x y hne hs ht => hS.apart s t x y hne ((h2 s).trans hs) ((h2 t).trans ht)⟩).mono fun u w' ⟨T2, H2, hs, c⟩ => ⟨T2, H2, hs, c.congr (KQ.same (Q := Q) (n := n) (w0 := w') (T := T2)) (h1.dst _ _) (fun _ => rfl)⟩⟩
def okV (l : List Oper) (I : List Inf) (σ1 : List Nat) (j : Nat) (σ2 : List Nat) (n : Nat) : Bool :=
  fineB l n && upB l I && pairsB l I σ1 && pairsB l I σ2 && decide ((σ1 ++ j :: σ2).length = l.length) && (List.range l.length).all (fun i => (σ1 ++ j :: σ2).contains i) && (σ1 ++ j :: σ2).all (fun i => decide (i < l.length)) &&
  ((List.range l.length).all fun i => (infAt I i).wr.all fun t => (infAt I i).pt.contains t) &&
  ((List.range l.length).all fun i => decide ((infAt I i).pt.Nodup) && decide ((infAt I i).rd.Nodup) && decide ((infAt I i).wr.Nodup)) && decide ((σ1 ++ j :: σ2).Nodup) &&
  ((j :: σ2).all fun i => σ1.all fun k => (infAt I i).up.testBit k) && σ2.all fun i => (infAt I i).up.testBit j
theorem cw_pivot {id j : Nat} {E : Env} {H : Heap} {σ1 σ2 : List Nat} (I : List Inf) (H0 : THeap) (hm : P.follows .mixedOrders = true) (hok : okV l I σ1 j σ2 n = true) (h0 : H0 = tagFrom 0 H) (h : Chain P w0 T l I (PV P l I Q n j σ2 w0 T) σ1 E H0) : CW P Q (.region id l.toArray true) n E w0 T H := fun a1 w1 hF1 hS1 => by
  subst h0
  simp only [okV, Bool.and_eq_true, List.all_eq_true, List.mem_range, decide_eq_true_eq] at hok
  obtain ⟨⟨⟨⟨⟨⟨⟨⟨⟨⟨⟨k1, k2⟩, k3⟩, k3'⟩, k4⟩, k5⟩, k6⟩, k7⟩, k8⟩, k9⟩, k10⟩, k11⟩ := hok
  have ndp := List.nodup_append.1 k9
  have hjn : j ∉ σ2 := (List.nodup_cons.1 ndp.2.1).1
  have hjl : j < l.length := k6 j (by simp)
  refine wp_region_any hm ?_
  refine any_chain (KK := PV P l I Q n j σ2 w0 T) (j :: σ2) PV.same k1 k2 k7 k8 ?_ _ _ _ _ σ1 E (tagFrom 0 H) (by simp) (by simp) (fun i hi => ?_) (fun i hi => k6 i (by simp [hi])) (fun i hi hj => ndp.2.2 i hi i hj rfl) k3 ndp.1 (fun i j h => ?_) (fun i hi k hk => k10 i hi k hk) hF1 hS1.drew.tags h
  · intro fuel listed a w E H hs hc hl hcl hF hS hp
    obtain ⟨o, o1, o2, o3⟩ := hp
    have hnl : listed.getD j false = false := by
      cases hb : listed.getD j false with
      | false => rfl
      | true => exact absurd (show j ∈ j :: σ2 by simp) ((hl j hjl).1 hb)
    have hlt : j < listed.size := by omega
    have h3 : listed[j] = false := by simpa [Array.getD, hlt] using hnl
    cases fuel with
    | zero =>
      exfalso
      have : false ∈ listed.toList.filter (! ·) := by
        rw [List.mem_filter]
        exact ⟨by rw [← h3]; simp, rfl⟩
      have := List.length_pos_of_mem this
      omega
    | succ fuel =>
      refine ⟨fun h => ?_, fun i hi => ?_⟩
      · rw [ready_nil k1 hs h j hjl] at hnl; cases hnl
      · obtain ⟨h1, h2, _⟩ := mem_ready hi
        have hil : i < l.length := by simpa using h1
        have hwl : ∀ k, waits l i k = true → listed.getD k false = true := fun k hk => wait_listed hi hk
        have hij : i = j := Classical.byContradiction fun e => by
          by_cases e2 : i ∈ σ2
          · have := up_listed k2 hcl i hil hwl j hjl (k11 i e2)
            rw [hnl] at this; cases this
          · have hlt2 : i < listed.size := by omega
            have h4 : listed[i] = false := by simpa [Array.getD, hlt2] using h2
            have h5 : listed.getD i false = false := by simp [Array.getD, hlt2, h4]
            rw [(hl i hil).2 (by simp [e, e2])] at h5; cases h5
        subst hij
        unfold wpOp
        simp only [List.getElem?_toArray, o1]
        rw [if_pos (by simp [Region.wanted, o2])]
        refine .inl (wp_of_done (o3 a w hF hS) ?_)
        rintro u w' ⟨T2, H2, hs2, c⟩
        have hfd := (fine_at k1 o1).1
        refine any_chain (KK := KQ Q n w' T2) [] (KQ.same (Q := Q) (n := n) (w0 := w') (T := T2)) k1 k2 k7 k8 ?_ fuel _ _ w' σ2 _ H2 (by simp [hs]) ?_ (fun k hk => ?_) (fun k hk => k6 k (by simp [hk])) (fun _ _ h => by cases h) k3' (List.nodup_cons.1 ndp.2.1).2 ?_ (fun _ h => by cases h) (hF.dst hfd _) hs2 c
        · intro fuel listed a w E H hs hc hl hcl hF hS k
          have h0 : Region.ready .any l.toArray listed = [] := by
            rw [List.eq_nil_iff_forall_not_mem]
            intro q hq
            obtain ⟨h1, h2, _⟩ := mem_ready hq
            have hlt2 : q < listed.size := by rw [hs]; simpa using h1
            have h4 : listed[q] = false := by simpa [Array.getD, hlt2] using h2
            have h5 : listed.getD q false = false := by simp [Array.getD, hlt2, h4]
            rw [(hl q (by simpa using h1)).2 (by simp)] at h5; cases h5
          cases fuel with
          | zero => exact ⟨h0, k a w hF hS⟩
          | succ fuel => exact ⟨fun _ => k a w hF hS, fun q hq => by rw [h0] at hq; cases hq⟩
        · have := count_set listed.toList i (by simpa using hlt) (by simpa using h3)
          rw [Array.toList_setIfInBounds]
          omega
        · rw [getD_set _ _ _ hlt]
          by_cases e : k = i
          · subst e; simp [hjn]
          · rw [if_neg e, hl k hk]; simp [e]
        · intro m k hm2 hw
          rw [getD_set _ _ _ hlt] at hm2 ⊢
          by_cases hkj : k = i
          · rw [if_pos hkj]
          · rw [if_neg hkj]
            by_cases hmj : m = i
            · subst hmj; exact hwl k hw
            · rw [if_neg hmj] at hm2
              exact hcl m k hm2 hw
  · constructor
    · intro h
      simp [Array.getD_eq_getD_getElem?, Array.getElem?_replicate] at h
      split at h <;> simp at h
    · intro h
      have := k5 i hi
      simp only [List.contains_eq_mem, List.mem_append, decide_eq_true_eq] at this
      exact absurd this (by simpa using h)
  · simp [Array.getD_eq_getD_getElem?, Array.getElem?_replicate] at h
    split at h <;> simp at h
/-- What is one's own stays, behind a call. -/
theorem St.over {H : Heap} {w w' : World} (h : St w0 T H w) (hb : Below w.heap.size w w') : St w' (blk H) H w' :=
  ⟨rfl, rfl, rfl, Nat.le_refl _, fun _ _ _ => rfl, fun x hx => ⟨(hb.block _ (h.lt hx)).trans (h.own x hx).1, .inr ⟨x, hx, rfl⟩⟩, h.apart⟩
theorem St.overB {H H' : Heap} {w w' w2 : World} (h : St w0 NoT H w) (hb : Below w.heap.size w w') (k : St w' (blk H) H' w2) : Below w0.heap.size w0 w2 :=
  ⟨k.os.trans (hb.os.trans h.os), k.tape.trans (hb.tape.trans h.tape), k.output.trans (hb.output.trans h.output), Nat.le_trans h.size (Nat.le_trans hb.size k.size), fun b hlt => by
    have l1 := Nat.lt_of_lt_of_le hlt h.size
    refine (k.old b (Nat.lt_of_lt_of_le l1 hb.size) fun ⟨x, hx, e⟩ => ?_).trans ((hb.block b l1).trans (h.old b hlt (fun q => q)))
    rcases (h.own x hx).2 with q | q
    · omega
    · exact q⟩
theorem pv_call {j : Nat} {σ2 ts2 : List Nat} {E : Env} {H : THeap} {Hs : Heap} {dd : Nat} {f : FuncId} {xs : List Operand} {vs : List Value} {ts : Array TypeId} {ty : TypeId} {pos : String} {af : Array Edge} {X : Type} {F : X → World → Prop} {r : X → Value}
    (hl : l[j]? = some ⟨some dd, .call ⟨.value (.func f), xs.toArray, ts⟩, ty, pos, af, none⟩) (hc : callB P f = true) (ha : Evs E xs vs) (hs : Sel H ts2 Hs) (hn : ts2.Nodup)
    (h : ∀ w, St w0 NoT Hs w → Calls P f vs.toArray w fun e w' => ∃ s, F s w' ∧ e = .returned (r s) ∧ Below w.heap.size w w')
    (k : ∀ s w', F s w' → (∀ (H' : Heap) (w2 : World), St w' (blk Hs) H' w2 → Below w0.heap.size w0 w2) → Chain P w' (blk Hs) l I (KQ Q n w' (blk Hs)) σ2 ((dd, r s) :: E) (tagFrom 0 Hs)) : PV P l I Q n j σ2 w0 NoT E H :=
  ⟨_, hl, rfl, fun a w hF hS => by
    have e1 := evs_map (ρ := a.eval) ha (fun x u _ hx => hF.ev hx)
    have e2 : a.eval (.func f) = .func (.func f) #[] #[] := rfl
    rw [done_call hc e2 e1]
    have h0 := hS.sel hs hn
    exact (h w h0).mono fun e w' ⟨s, h1, h2, h3⟩ => ⟨r s, h2, blk Hs, tagFrom 0 Hs, (h0.over h3).tags, k s w' h1 (fun H' w2 hk => h0.overB h3 hk)⟩⟩
end
end Go.Proofs.Ytkjciobphbcknaa.En
