/- Maps: what a look-up and a store do, where keys compare as they should. Laws over any program. -/
import Derived.Test.YtjdeplehhmhpcaaEV
namespace Go.Proofs.Ytjdeplehhmhpcaa.En
open Go.RowKit
section
variable {P : Program} {K : Type} {kv : K → Value} {kt mt : TypeId}
/-- Entries that are keys, each with true. -/
def Ents (kv : K → Value) (es : Array MapEntry) (l : List K) : Prop := es.toList.map (fun e => (e.key, e.val)) = l.map fun p => (kv p, Value.bool true)
theorem run_getMap {w : World} {m : Nat} {es : Array MapEntry} {ck : Nat} (h : w.heap[m]? = some (.map es ck)) : (getObj m).run P w = .ok (.map es ck) w := by simp [getObj, Sem.run, h]
/-- What a key's type asks. -/
structure KeyT [DecidableEq K] (P : Program) (mt kt : TypeId) (kv : K → Value) : Prop where
  map : ∀ w, (underlying mt).run P w = .ok (.map kt 4) w
  slow : ∀ p, (∃ d, (∀ w, (underlying kt).run P w = .ok d w) ∧ ∀ q, Instr.sameNow d (kv p) (kv q) = none)
  eq : ∀ p q w, (Op.equal kt (kv p) (kv q)).run P w = .ok (decide (p = q)) w
  ok : ∀ e p w, (Instr.checkKey e 10000 kt (kv p)).run P w = .ok () w
  zero : ∀ w, (zeroValue 4).run P w = .ok (.bool false) w
variable [DecidableEq K]
theorem run_findAsking (hk : KeyT P mt kt kv) (p : K) (w : World) : ∀ (es : List MapEntry) (l : List K) (i : Nat), es.map (fun e => (e.key, e.val)) = l.map (fun p => (kv p, Value.bool true)) →
    ∃ r, (Instr.findAsking kt (kv p) es i).run P w = .ok r w ∧ (p ∈ l → ∃ j, r = some (j, .bool true)) ∧ (p ∉ l → r = none)
  | [], [], i, _ => ⟨none, rfl, fun h => (List.not_mem_nil h).elim, fun _ => rfl⟩
  | [], _ :: _, i, h => by cases h
  | _ :: _, [], i, h => by cases h
  | e :: es, q :: l, i, h => by
    simp only [List.map_cons, List.cons.injEq, Prod.mk.injEq] at h
    obtain ⟨⟨h1, h2⟩, h3⟩ := h
    by_cases c : p = q
    · subst c
      refine ⟨some (i, .bool true), ?_, fun _ => ⟨i, rfl⟩, fun h => absurd (List.mem_cons_self) h⟩
      rw [Instr.findAsking, Sem.run_bind, h1, hk.eq p p w]
      simp [Result.andThen, h2, go_sem]
    · obtain ⟨r, h4, h5, h6⟩ := run_findAsking hk p w es l (i + 1) h3
      refine ⟨r, ?_, fun h => h5 ?_, fun h => h6 ?_⟩
      · rw [Instr.findAsking, Sem.run_bind, h1, hk.eq p q w]
        simpa [Result.andThen, c, go_sem] using h4
      · rcases List.mem_cons.1 h with h | h
        · exact absurd h c
        · exact h
      · exact fun h' => h (List.mem_cons_of_mem _ h')
theorem run_findKey (hk : KeyT P mt kt kv) (p : K) (w : World) {es : Array MapEntry} {l : List K} (h : Ents kv es l) :
    ∃ r, (Instr.findKey kt (kv p) es.toList).run P w = .ok r w ∧ (p ∈ l → ∃ j, r = some (j, .bool true)) ∧ (p ∉ l → r = none) := by
  obtain ⟨d, h1, h2⟩ := hk.slow p
  obtain ⟨r, h3, h4⟩ := run_findAsking hk p w es.toList l 0 h
  unfold Instr.findKey
  cases he : es.toList with
  | nil =>
    unfold Ents at h
    rw [he] at h h3
    refine ⟨none, by simp [Sem.run_bind, Result.andThen, Sem.run_pure, h1, Instr.findNow], fun hm => ?_, fun _ => rfl⟩
    cases l with
    | nil => cases hm
    | cons a b => cases h
  | cons e es' =>
    unfold Ents at h
    rw [he] at h h3
    cases l with
    | nil => cases h
    | cons q l' =>
      have e1 : e.key = kv q := by
        simp only [List.map_cons, List.cons.injEq, Prod.mk.injEq] at h
        exact h.1.1
      refine ⟨r, ?_, h4⟩
      rw [← h3]
      simp [Sem.run_bind, Result.andThen, h1, Instr.findNow, e1, h2 q]
variable {E : Env} {w0 w : World} {T : Nat → Prop} {H : Heap} {d : Option Tmp} {ty : TypeId} {pos : String} {af : Array Edge} {g : Option (Nat × Bool)} {x y : Operand} {m : Nat}
theorem run_lookup (hk : KeyT P mt kt kv) {es : Array MapEntry} {ck : Nat} {l : List K} {p : K} (hx : Ev E x (.map (some m))) (hy : Ev E y (kv p)) (hm : (m, Obj.map es ck) ∈ H) (he : Ents kv es l) :
    RunB P E w0 T H ⟨d, .lookup mt x y false, ty, pos, af, g⟩ (.bool (decide (p ∈ l))) := fun ρ w hρ hS => by
  refine doneO rfl ?_
  have e1 := hρ x _ (by simp [Op.operands]) hx
  have e2 := hρ y _ (by simp [Op.operands]) hy
  obtain ⟨r, h1, h2, h3⟩ := run_findKey hk p w he
  have h4 := hS.mem hm
  have h5 : (Instr.lookup mt (.map (some m)) (kv p) false).run P w = .ok (.bool (decide (p ∈ l))) w := by
    unfold Instr.lookup
    have hz := hk.zero w
    by_cases c : p ∈ l
    · obtain ⟨j, rfl⟩ := h2 c
      simp [Sem.run_bind, Result.andThen, hk.map, run_getMap h4, hk.ok, h1, c, Sem.run_pure]
    · obtain rfl := h3 c
      simp [Sem.run_bind, Result.andThen, hk.map, run_getMap h4, hk.ok, h1, c, hz, Sem.run_pure]
  simp [execOp, e1, e2, Done, go_sem, h5, Below.refl]
theorem run_mapStore (hk : KeyT P mt kt kv) {es : Array MapEntry} {ck : Nat} {l : List K} {p : K} (he : Ents kv es l) (hn : p ∉ l) (h4 : w.heap[m]? = some (Obj.map es ck)) :
    (Instr.mapUpdate mt (.map (some m)) (kv p) (.bool true)).run P w = .ok () (w.putObj m (Obj.map (es.push { key := kv p, val := .bool true, born := ck }) (ck + 1))) := by
  obtain ⟨r, h1, h2, h3⟩ := run_findKey hk p w he
  obtain rfl := h3 hn
  unfold Instr.mapUpdate
  simp [Sem.run_bind, Result.andThen, hk.map, run_getMap h4, hk.ok, h1, Sem.run_pure]
  simp [setObj, Sem.run, h4, World.putObj]
omit [DecidableEq K] in
theorem Ents.push {es : Array MapEntry} {l : List K} (h : Ents kv es l) (p : K) (ck : Nat) : Ents kv (es.push { key := kv p, val := .bool true, born := ck }) (l ++ [p]) := by
  unfold Ents at *
  simp [h]
/-- A new key is stored. -/
theorem run_mapUpdate (hk : KeyT P mt kt kv) {z : Operand} {es : Array MapEntry} {ck : Nat} {l : List K} {p : K} {H' : Heap} (hx : Ev E x (.map (some m))) (hy : Ev E y (kv p)) (hz : Ev E z (.bool true)) (he : Ents kv es l) (hn : p ∉ l)
    (hu : Upd H m (Obj.map es ck) (Obj.map (es.push { key := kv p, val := .bool true, born := ck }) (ck + 1)) H') :
    Run1 P E w0 T H ⟨d, .mapUpdate mt x y z, ty, pos, af, g⟩ undef H' := fun ρ w hρ hS => by
  refine doneO rfl ?_
  have e1 := hρ x _ (by simp [Op.operands]) hx
  have e2 := hρ y _ (by simp [Op.operands]) hy
  have e3 := hρ z _ (by simp [Op.operands]) hz
  have h4 := hS.mem hu.mem
  have h5 := run_mapStore (w := w) hk he hn h4
  have h6 : St w0 T H' (w.putObj m (Obj.map (es.push { key := kv p, val := .bool true, born := ck }) (ck + 1))) :=
    hS.upd hu rfl rfl rfl (by simp) (fun k _ hne => World.putObj_heap_other hne) (World.putObj_heap_same (hS.lt hu.mem))
  simp [execOp, e1, e2, e3, Done, go_sem, h5, h6]
/-- A map is made. -/
theorem run_makeMap (ht : ∀ w, (underlying mt).run P w = .ok (.map kt 4) w) : Runs P E w0 T H ⟨d, .makeMap mt none, ty, pos, af, g⟩ (fun _ : Nat => True) (fun b => .map (some b)) (fun b => (b, Obj.map #[] 0) :: H) := fun ρ w hρ hS => by
  refine doneO rfl ?_
  have h := hS.alloc (Obj.map #[] 0)
  simp [execOp, Done, go_sem, Instr.makeMap, ht]
  exact h
end
end Go.Proofs.Ytjdeplehhmhpcaa.En
