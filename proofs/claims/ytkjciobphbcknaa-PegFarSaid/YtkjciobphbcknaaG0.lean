/- A region whose order is open, by its parts: what each operation leaves is told by itself, in words that last while others go on. A law of our own, over any program. -/
import Derived.Orders
import Derived.Deep.Quiet
namespace Go.Proofs.Ytkjciobphbcknaa
open Go

/-- What an operation gives, and what it does to the world, frames aside. -/
def Does (P : Program) (o : Oper) (a : Act) (w : World) (K : Value → World → Prop) : Prop :=
  match (execOp a.eval o).run P w with
  | .ok (.value v) w' => K v w'
  | .ok .skip w' => K undef w'
  | .ok (.enter f args) w' => Calls P f args w' fun e w'' => ∃ v, e = .returned v ∧ K v w''
  | _ => False
theorem wp_of_does {P : Program} {o : Oper} {a : Act} {w : World} {K : Value → World → Prop} {K' : Act → World → Prop} {Q : Exit → Act → World → Prop} (h : Does P o a w K) (hK : ∀ v w', K v w' → K' (a.put o.dst v) w') : o.wp P a w K' Q := by
  unfold Does at h
  unfold Oper.wp
  generalize (execOp a.eval o).run P w = r at *
  cases r with
  | ok n w' =>
    cases n with
    | value v => exact hK _ _ h
    | skip => exact hK _ _ h
    | enter f args =>
      simp only [Oper.upon]
      refine h.mono fun e w'' he => ?_
      obtain ⟨v, rfl, hv⟩ := he
      exact hK _ _ hv
    | _ => exact h.elim
  | halt x w' => exact h.elim

def slotOf (l : List Oper) (i : Nat) : Option Tmp := (l[i]?).bind (·.dst)
/-- Does operation i wait for operation j? -/
def waits (l : List Oper) (i j : Nat) : Bool := match l[i]? with | some o => o.after.toList.any fun e => Region.binds .any e && e.on == j | none => false
/-- What a region has to be: no guard, no slot twice, each operation waits for earlier ones alone; n: how many slots there are. -/
def plainB (l : List Oper) (n : Nat) : Bool :=
  l.all (fun o => o.guard.isNone) && (List.range l.length).all (fun i => (match slotOf l i with | some t => decide (t < n) | none => true) && (List.range l.length).all (fun j => (decide (i = j) || match slotOf l i with | some t => decide (slotOf l j ≠ some t) | none => true)) &&
    (match l[i]? with | some o => o.after.toList.all fun e => !Region.binds .any e || decide (e.on < i) | none => true))

/-- The frame after all. -/
def putFrom (v : Nat → Value) : Nat → List Oper → Act → Act
  | _, [], a => a
  | k, o :: r, a => putFrom v (k + 1) r (a.put o.dst (v k))

section
variable {P : Program} {l : List Oper} {a0 : Act} {n : Nat}
theorem plain_guard (h : plainB l n = true) {i : Nat} {o : Oper} (hi : l[i]? = some o) : o.guard = none := by
  simp only [plainB, Bool.and_eq_true, List.all_eq_true] at h
  have := h.1 o (List.mem_of_getElem? hi)
  simpa using this
theorem plain_at (h : plainB l n = true) {i : Nat} (hi : i < l.length) : (∀ t, slotOf l i = some t → t < n) ∧ (∀ j, j < l.length → i ≠ j → ∀ t, slotOf l i = some t → slotOf l j ≠ some t) ∧ ∀ o, l[i]? = some o → ∀ e ∈ o.after.toList, Region.binds .any e = true → e.on < i := by
  simp only [plainB, Bool.and_eq_true, List.all_eq_true, List.mem_range] at h
  obtain ⟨⟨h1, h2⟩, h3⟩ := h.2 i hi
  refine ⟨fun t ht => by rw [ht] at h1; simpa using h1, fun j hj hij t ht => ?_, fun o ho e he hb => ?_⟩
  · have := h2 j hj
    rw [ht] at this
    simpa [hij] using this
  · rw [ho] at h3
    have := List.all_eq_true.1 h3 e he
    simpa [hb] using this

/-- Which frames there are when some operations have come: each of these has given its value. -/
structure FitsL (l : List Oper) (a0 a : Act) (L : Nat → Bool) (v : Nat → Value) : Prop where
  defers : a.defers = a0.defers
  size : a.tmps.size = a0.tmps.size
  done : ∀ i t, L i = true → slotOf l i = some t → a.tmps[t]? = some (v i)
  rest : ∀ t, (∀ i, L i = true → slotOf l i ≠ some t) → a.tmps[t]? = a0.tmps[t]?

theorem putFrom_spec (v : Nat → Value) : ∀ (r : List Oper) (k : Nat) (a : Act), (putFrom v k r a).defers = a.defers ∧ (putFrom v k r a).tmps.size = a.tmps.size ∧
    (∀ t, (∀ i, slotOf r i ≠ some t) → (putFrom v k r a).tmps[t]? = a.tmps[t]?) ∧
    ∀ i t, slotOf r i = some t → t < a.tmps.size → (∀ j, i < j → slotOf r j ≠ some t) → (putFrom v k r a).tmps[t]? = some (v (k + i))
  | [], k, a => ⟨rfl, rfl, fun _ _ => rfl, fun i t h => by simp [slotOf] at h⟩
  | o :: r, k, a => by
    obtain ⟨h1, h2, h3, h4⟩ := putFrom_spec v r (k + 1) (a.put o.dst (v k))
    have e1 : (a.put o.dst (v k)).defers = a.defers := by unfold Act.put; split <;> rfl
    have e2 : (a.put o.dst (v k)).tmps.size = a.tmps.size := by unfold Act.put; split <;> simp
    refine ⟨h1.trans e1, h2.trans e2, fun t ht => ?_, fun i t hi hlt hj => ?_⟩
    · rw [putFrom, h3 t (fun i => ht (i + 1))]
      have h0 := ht 0
      unfold Act.put
      split
      · rename_i d hd
        have : d ≠ t := fun e => h0 (by simp [slotOf, hd, e])
        simp [Array.getElem?_setIfInBounds_ne this]
      · rfl
    · cases i with
      | zero =>
        rw [putFrom, h3 t (fun i => hj (i + 1) (by omega))]
        have hd : o.dst = some t := by simpa [slotOf] using hi
        unfold Act.put
        rw [hd]
        simp [Array.getElem?_setIfInBounds_self_of_lt hlt]
      | succ i =>
        rw [putFrom, h4 i t hi (by rw [e2]; exact hlt) (fun j hij => hj (j + 1) (by omega))]
        congr 2; omega

theorem fits_all {a : Act} {L : Nat → Bool} {v : Nat → Value} (hp : plainB l n = true) (hn : a0.tmps.size = n) (hf : FitsL l a0 a L v) (hL : ∀ i, i < l.length → L i = true) : a = putFrom v 0 l a0 := by
  obtain ⟨h1, h2, h3, h4⟩ := putFrom_spec v l 0 a0
  have e : a.tmps = (putFrom v 0 l a0).tmps := by
    apply Array.ext_getElem?
    intro t
    by_cases ht : ∃ i, slotOf l i = some t
    · obtain ⟨i, hi⟩ := ht
      have hil : i < l.length := by
        cases h : l[i]? with
        | none => simp [slotOf, h] at hi
        | some o => exact (List.getElem?_eq_some_iff.1 h).1
      obtain ⟨q1, q2, _⟩ := plain_at hp hil
      rw [hf.done i t (hL i hil) hi, h4 i t hi (by rw [hn]; exact q1 t hi) (fun j hij => ?_), Nat.zero_add]
      by_cases hj : j < l.length
      · exact q2 j hj (by omega) t hi
      · simp [slotOf, List.getElem?_eq_none (by omega : l.length ≤ j)]
    · have ht' : ∀ i, slotOf l i ≠ some t := fun i h => ht ⟨i, h⟩
      rw [hf.rest t (fun i _ => ht' i), h3 t ht']
  obtain ⟨at', ad⟩ := a
  have e2 : ad = (putFrom v 0 l a0).defers := hf.defers.trans h1.symm
  generalize putFrom v 0 l a0 = q at *
  obtain ⟨qt, qd⟩ := q
  simp only at e e2
  rw [e, e2]
theorem mem_ready {ops : Array Oper} {listed : Array Bool} {i : Nat} (h : i ∈ Region.ready .any ops listed) : i < ops.size ∧ listed.getD i true = false ∧ ∀ o, ops[i]? = some o → ∀ e ∈ o.after, Region.binds .any e = true → listed.getD e.on false = true := by
  simp only [Region.ready, List.mem_filter, List.mem_range, Bool.and_eq_true, Bool.not_eq_true'] at h
  obtain ⟨h1, h2, h3⟩ := h
  refine ⟨h1, h2, fun o ho e he hb => ?_⟩
  rw [ho] at h3
  simp only [Option.map_some, Option.getD_some] at h3
  rw [Array.all_eq_true_iff_forall_mem] at h3
  have := h3 e he
  simpa [hb] using this
theorem ready_nil {ops : Array Oper} {listed : Array Bool} (hp : plainB ops.toList n = true) (hs : listed.size = ops.size) (h : Region.ready .any ops listed = []) : ∀ i, i < ops.size → listed.getD i false = true := by
  intro i
  induction i using Nat.strongRecOn with
  | _ i ih =>
    intro hi
    cases hb : listed.getD i false with
    | true => rfl
    | false =>
      exfalso
      have hmem : i ∈ Region.ready .any ops listed := by
        simp only [Region.ready, List.mem_filter, List.mem_range, Bool.and_eq_true, Bool.not_eq_true']
        have hlt : i < listed.size := by omega
        refine ⟨hi, by simpa [Array.getD, hlt] using hb, ?_⟩
        rw [Array.getElem?_eq_getElem hi]
        simp only [Option.map_some, Option.getD_some]
        rw [Array.all_eq_true_iff_forall_mem]
        intro e he
        cases hbe : Region.binds .any e with
        | false => rfl
        | true =>
          have hlt2 := (plain_at hp (i := i) (by simpa using hi)).2.2 _ (by rw [Array.getElem?_toList]; exact Array.getElem?_eq_getElem hi) e (by simpa using he) hbe
          simpa using ih e.on hlt2 (by omega)
      rw [h] at hmem
      cases hmem

theorem wait_listed {listed : Array Bool} {i j : Nat} (h : i ∈ Region.ready .any l.toArray listed) (hw : waits l i j = true) : listed.getD j false = true := by
  obtain ⟨h1, h2, h3⟩ := mem_ready h
  unfold waits at hw
  split at hw
  · rename_i o ho
    obtain ⟨e, he, hb⟩ := List.any_eq_true.1 hw
    simp only [Bool.and_eq_true, beq_iff_eq] at hb
    have := h3 o (by simpa using ho) e (by simpa using he) hb.1
    rw [hb.2] at this
    exact this
  · cases hw

theorem getD_set (listed : Array Bool) (i j : Nat) (hi : i < listed.size) : (listed.setIfInBounds i true).getD j false = if j = i then true else listed.getD j false := by
  simp only [Array.getD_eq_getD_getElem?]
  by_cases h : j = i
  · subst h; rw [if_pos rfl, Array.getElem?_setIfInBounds_self_of_lt hi]; rfl
  · rw [if_neg h, Array.getElem?_setIfInBounds_ne (fun e => h e.symm)]

theorem count_set : ∀ (l : List Bool) (i : Nat) (h : i < l.length), l[i] = false → ((l.set i true).filter (! ·)).length + 1 = (l.filter (! ·)).length
  | [], i, h, _ => by simp at h
  | b :: r, 0, _, hb => by
    have hb : b = false := hb
    subst hb
    simp [List.filter_cons]
  | b :: r, i + 1, h, hb => by
    have := count_set r i (by simpa using h) (by simpa using hb)
    cases b <;> simp [List.filter_cons] at this ⊢ <;> omega

/-- May what is told of operation j be used by operation i? Whoever ends it is i itself, or waits for i. -/
def avail (l : List Oper) (keeps : Nat → Nat → Bool) (i j : Nat) : Bool := waits l i j && (List.range l.length).all fun k => keeps k j || decide (k = i) || waits l k i

/-- The law. 'R i v w': what operation i has left, said by its own value and those that it waited for; 'keeps i j': operation i doesn't end what is told of operation j. -/
theorem wp_region_parts {id : Nat} {Q : Exit → Act → World → Prop} {w0 : World} (keeps : Nat → Nat → Bool) (G : World → World → Prop) (R : Nat → (Nat → Value) → World → Prop)
    (hm : P.follows .mixedOrders = true) (hp : plainB l a0.tmps.size = true) (hG0 : G w0 { w0 with drawn := w0.drawn + 1 }) (hGt : ∀ a b c, G a b → G b c → G a c)
    (hRv : ∀ i v v' w, v i = v' i → (∀ j, waits l i j = true → v j = v' j) → R i v w → R i v' w)
    (hstep : ∀ i o, l[i]? = some o → ∀ (a : Act) (w : World) (v : Nat → Value), G w0 w → (∀ j, waits l i j = true → ∀ t, slotOf l j = some t → a.tmps.getD t undef = v j) → (∀ j, avail l keeps i j = true → R j v w) →
      (∀ t, (∀ j, slotOf l j ≠ some t) → a.tmps.getD t undef = a0.tmps.getD t undef) →
      Does P o a w fun u w' => G w w' ∧ R i (fun k => if k = i then u else v k) w' ∧ ∀ j, j ≠ i → keeps i j = true → R j v w → R j v w')
    (hQ : ∀ (v : Nat → Value) w, G w0 w → (∀ j, j < l.length → (∀ k, k < l.length → keeps k j = true) → R j v w) → Q .normal (putFrom v 0 l a0) w) : (Code.region id l.toArray true).wp P Q a0 w0 := by
  refine wp_region_any hm ?_
  have key : ∀ (fuel : Nat) (listed : Array Bool) (a : Act) (w : World) (v : Nat → Value), listed.size = l.length → (listed.toList.filter (! ·)).length ≤ fuel → G w0 w → FitsL l a0 a (fun i => listed.getD i false) v →
      (∀ i, listed.getD i false = true → (∀ k, listed.getD k false = true → keeps k i = true) → R i v w) → (∀ i j, listed.getD i false = true → waits l i j = true → listed.getD j false = true) → wpAny P .any l.toArray Q fuel listed a w := by
    intro fuel
    have done : ∀ (listed : Array Bool) (a : Act) (w : World) (v : Nat → Value), listed.size = l.length → G w0 w → FitsL l a0 a (fun i => listed.getD i false) v →
        (∀ i, listed.getD i false = true → (∀ k, listed.getD k false = true → keeps k i = true) → R i v w) → Region.ready .any l.toArray listed = [] → Q .normal a w := by
      intro listed a w v hs hG hf hr h
      have hall := ready_nil (ops := l.toArray) (by simpa using hp) (by simpa using hs) h
      rw [fits_all hp rfl hf (fun i hi => hall i (by simpa using hi))]
      refine hQ v w hG (fun i hi hk => hr i (hall i (by simpa using hi)) (fun k hk2 => hk k ?_))
      by_cases hkl : k < listed.size
      · omega
      · simp [Array.getD, hkl] at hk2
    induction fuel with
    | zero =>
      intro listed a w v hs hc hG hf hr _
      have h0 : Region.ready .any l.toArray listed = [] := by
        rw [List.eq_nil_iff_forall_not_mem]
        intro i hi
        obtain ⟨h1, h2, _⟩ := mem_ready hi
        have hlt : i < listed.size := by rw [hs]; simpa using h1
        have h3 : listed[i] = false := by simpa [Array.getD, hlt] using h2
        have : false ∈ listed.toList.filter (! ·) := by
          rw [List.mem_filter]
          exact ⟨by rw [← h3]; simp, rfl⟩
        have := List.length_pos_of_mem this
        omega
      exact ⟨h0, done listed a w v hs hG hf hr h0⟩
    | succ fuel ih =>
      intro listed a w v hs hc hG hf hr hcl
      refine ⟨fun h => done listed a w v hs hG hf hr h, fun i hi => ?_⟩
      obtain ⟨h1, h2, _⟩ := mem_ready hi
      have hil : i < l.length := by simpa using h1
      have hlt : i < listed.size := by omega
      have h3 : listed[i] = false := by simpa [Array.getD, hlt] using h2
      have h3' : listed.getD i false = false := by simp [Array.getD, hlt, h3]
      have ho : l[i]? = some l[i] := List.getElem?_eq_getElem hil
      have hne : ∀ j, listed.getD j false = true → j ≠ i := fun j hj e => by
        subst e
        rw [h3'] at hj; cases hj
      unfold wpOp
      simp only [List.getElem?_toArray, ho]
      rw [if_pos (by simp [Region.wanted, plain_guard hp ho])]
      left
      refine wp_of_does (hstep i l[i] ho a w v hG (fun j hj t ht => ?_) (fun j hj => ?_) (fun t ht => ?_)) ?_
      · have := hf.done j t (wait_listed hi hj) ht
        simp [Array.getD_eq_getD_getElem?, this]
      · simp only [avail, Bool.and_eq_true, List.all_eq_true, List.mem_range, Bool.or_eq_true, decide_eq_true_eq] at hj
        refine hr j (wait_listed hi hj.1) (fun k hk => ?_)
        have hkl : k < l.length := by
          by_cases hkl : k < listed.size
          · omega
          · simp [Array.getD, hkl] at hk
        rcases hj.2 k hkl with (h | h) | h
        · exact h
        · exact absurd h (hne k hk)
        · have := hcl k i hk h
          rw [h3'] at this; cases this
      · have := hf.rest t (fun j _ => ht j)
        simp [Array.getD_eq_getD_getElem?, this]
      · rintro u w' ⟨hg, hri, hkeep⟩
        refine ih _ _ _ (fun j => if j = i then u else v j) (by simp [hs]) ?_ (hGt _ _ _ hG hg) ⟨?_, ?_, ?_, ?_⟩ ?_ ?_
        · have := count_set listed.toList i (by simpa using hlt) (by simpa using h3)
          rw [Array.toList_setIfInBounds]
          omega
        · unfold Act.put; split <;> exact hf.defers
        · rw [← hf.size]; unfold Act.put; split <;> simp
        · intro j t hj ht
          rw [getD_set _ _ _ hlt] at hj
          by_cases hji : j = i
          · subst hji
            rw [if_pos rfl]
            have hd : l[j].dst = some t := by simpa [slotOf, ho] using ht
            have htn := (plain_at hp hil).1 t ht
            unfold Act.put
            rw [hd]
            simp [Array.getElem?_setIfInBounds_self_of_lt (show t < a.tmps.size by rw [hf.size]; exact htn)]
          · rw [if_neg hji] at hj ⊢
            have hjl : j < l.length := by
              cases h : l[j]? with
              | none => simp [slotOf, h] at ht
              | some o => exact (List.getElem?_eq_some_iff.1 h).1
            have hd : l[i].dst ≠ some t := fun e => (plain_at hp hjl).2.1 i hil hji t ht (by simpa [slotOf, ho] using e)
            rw [← hf.done j t hj ht]
            unfold Act.put
            split
            · rename_i d hd2
              rw [hd2] at hd
              exact Array.getElem?_setIfInBounds_ne (fun e : d = t => hd (by rw [e]))
            · rfl
        · intro t ht
          have hd : l[i].dst ≠ some t := fun e => ht i (by rw [getD_set _ _ _ hlt, if_pos rfl]) (by simpa [slotOf, ho] using e)
          rw [← hf.rest t (fun j hj => ht j (by rw [getD_set _ _ _ hlt, if_neg (hne j hj)]; exact hj))]
          unfold Act.put
          split
          · rename_i d hd2
            rw [hd2] at hd
            exact Array.getElem?_setIfInBounds_ne (fun e : d = t => hd (by rw [e]))
          · rfl
        · intro j hj hk
          rw [getD_set _ _ _ hlt] at hj
          by_cases hji : j = i
          · subst hji; exact hri
          · rw [if_neg hji] at hj
            have hkj : ∀ k, listed.getD k false = true → keeps k j = true := fun k hk2 => hk k (by rw [getD_set _ _ _ hlt, if_neg (hne k hk2)]; exact hk2)
            have h5 := hkeep j hji (hk i (by rw [getD_set _ _ _ hlt, if_pos rfl])) (hr j hj hkj)
            exact hRv j v _ w' (by simp only [if_neg hji]) (fun m hm2 => by simp only [if_neg (hne m (hcl j m hj hm2))]) h5
        · intro m j hm2 hw
          rw [getD_set _ _ _ hlt] at hm2 ⊢
          by_cases hji : j = i
          · rw [if_pos hji]
          · rw [if_neg hji]
            by_cases hmi : m = i
            · subst hmi; exact wait_listed hi hw
            · rw [if_neg hmi] at hm2
              exact hcl m j hm2 hw
  have hrep : ∀ i, (Array.replicate l.toArray.size false).getD i false = true → False := fun i h => by
    simp [Array.getD_eq_getD_getElem?, Array.getElem?_replicate] at h
    split at h <;> simp at h
  exact key _ _ _ _ (fun _ => undef) (by simp) (by simp) hG0 ⟨rfl, rfl, fun i t h => (hrep i h).elim, fun _ _ => rfl⟩ (fun i h => (hrep i h).elim) (fun i j h => (hrep i h).elim)
theorem fresh_of {l : List Oper} {t : Tmp} (h : l.all (fun o => decide (o.dst ≠ some t)) = true) : ∀ j, slotOf l j ≠ some t := by
  intro j
  unfold slotOf
  cases hj : l[j]? with
  | none => simp
  | some o =>
    have := List.all_eq_true.1 h o (List.mem_of_getElem? hj)
    simpa using this
end
end Go.Proofs.Ytkjciobphbcknaa
