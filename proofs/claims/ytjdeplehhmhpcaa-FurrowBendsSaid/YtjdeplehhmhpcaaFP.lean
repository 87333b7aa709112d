/- Package furrow: wrong stations lie anywhere. -/
import Derived.Test.YtjdeplehhmhpcaaFO
import Derived.Laws.CopyRow
namespace Go.Proofs.Ytjdeplehhmhpcaa
open Go.RowKit En

theorem run_copy_all {P : Program} (w : World) (dT sT ty elem : TypeId) (g n c sc sz : Nat) (a : Addr) (cur : List Value) (t : TypeId) (cs : List Value)
    (hu : P.underlying dT = some (.slice elem)) (hs : (P.info? elem).map (·.size) = some sz) (hg : w.heap[g]? = some (.cells cur.toArray t (0, 0))) (hn : cs.length = n * sz) (hcur : cur.length = n * sz)
    (hsrc : ∀ j v, cs[j]? = some v → w.cell? (a.add j) = some v) (h1 : ∀ v ∈ cs, v.oneCell' = true) :
    (Builtin.copy_ #[dT, sT] ty #[.slice (some ⟨g, 0, none⟩) n c, .slice (some a) n sc]).run P w = .ok (goInt n) (w.setRow g cs.toArray) := by
  have hl := run_loadCells_list (P := P) w a cs hsrc
  have hst := run_storeCells_at P g 0 t cs 0 cur.toArray w hg (by simp [hn, hcur]) h1
  have e : (cur.toArray.toList.take (0 + 0) ++ cs ++ cur.toArray.toList.drop (0 + 0 + cs.length)).toArray = cs.toArray := by
    rw [show cur.toArray.toList = cur from rfl, List.drop_of_length_le (by omega)]
    simp
  rw [e] at hst
  cases hq : P.info? elem with
  | none => simp [hq] at hs
  | some i =>
    have hi : i.size = sz := by simpa [hq] using hs
    simp [Builtin.copy_, run_underlying hu, Builtin.lenOf, Builtin.firstCells, sizeOf, typeInfo, hq, hi, ← hn, hl, hst]
section
variable {E : Env} {w0 : World} {T : Nat → Prop} {H : Heap} {d : Option Tmp} {ty : TypeId} {pos : String} {af : Array Edge} {g : Option (Nat × Bool)} {x y : Operand}
theorem un69 : Try.prog.underlying 69 = some (.slice 67) := by kernel_rfl
theorem in67 : (Try.prog.info? 67).map (·.size) = some 2 := by kernel_rfl
theorem spans_one (l : List SpanD) : ∀ v ∈ spansC l, v.oneCell' = true := fun v hv => by
  obtain ⟨s, _, hs⟩ := List.mem_flatMap.1 hv
  simp only [spanC, List.mem_cons, List.not_mem_nil, or_false] at hs
  rcases hs with rfl | rfl <;> rfl
theorem spans_flat {w : World} {b o : Nat} {l : List SpanD} (h : ∀ i s, l[i]? = some s → ∀ j v, (spanC s)[j]? = some v → w.cell? ⟨b, o + i * 2 + j, none⟩ = some v) : ∀ j v, (spansC l)[j]? = some v → w.cell? ⟨b, o + j, none⟩ = some v := fun j v hj => by
  have hlt := (List.getElem?_eq_some_iff.1 hj).1
  rw [spansC_length] at hlt
  obtain ⟨s, hs⟩ : ∃ s, l[j / 2]? = some s := ⟨_, List.getElem?_eq_getElem (by omega)⟩
  obtain ⟨a1, a2⟩ := spansC_at l (j / 2) s hs
  rcases Nat.mod_two_eq_zero_or_one j with e | e
  · rw [show j / 2 * 2 = j by omega] at a1
    rw [a1] at hj
    have := h (j / 2) s hs 0 v hj
    rwa [show o + j / 2 * 2 + 0 = o + j by omega] at this
  · rw [show j / 2 * 2 + 1 = j by omega] at a2
    rw [a2] at hj
    have := h (j / 2) s hs 1 v hj
    rwa [show o + j / 2 * 2 + 1 = o + j by omega] at this
/-- All spans of a course are copied into an own row. -/
theorem run_copySpans {k b o n c sc : Nat} {cur : List Value} {l : List SpanD} {H' : Heap} (hx : Ev E x (.slice (some ⟨k, 0, none⟩) n c)) (hy : Ev E y (.slice (some ⟨b, o, none⟩) n sc)) (hn : l.length = n) (hcur : cur.length = n * 2)
    (hu : Upd H k (Obj.cells cur.toArray 67 (0, 0)) (Obj.cells (spansC l).toArray 67 (0, 0)) H') (hsrc : ∀ w, St w0 T H w → ∀ i s, l[i]? = some s → ∀ j v, (spanC s)[j]? = some v → w.cell? ⟨b, o + i * 2 + j, none⟩ = some v) :
    Run1 Try.prog E w0 T H ⟨d, .call ⟨.builtin .copy, [x, y].toArray, [69, 69].toArray⟩, ty, pos, af, g⟩ (.int .i64 (n : Int)) H' := fun ρ w hρ hS => by
  refine doneO rfl ?_
  have e1 := hρ x _ (by simp [Op.operands, Call.operands]) hx
  have e2 := hρ y _ (by simp [Op.operands, Call.operands]) hy
  have hm := hS.mem hu.mem
  have hf := spans_flat (hsrc w hS)
  have h := run_copy_all (P := Try.prog) w 69 69 ty 67 k n c sc 2 ⟨b, o, none⟩ cur 67 (spansC l) un69 in67 hm (by rw [spansC_length, hn]) hcur (fun j v hj => by rw [add_spot]; exact hf j v hj) (spans_one l)
  have hS2 : St w0 T H' (w.setRow k (spansC l).toArray) := hS.upd hu rfl rfl rfl (by simp [World.setRow]) (fun j _ hne => by simp [World.setRow, Array.getElem?_modify, Ne.symm hne]) (setRow_heap w k cur.toArray (spansC l).toArray 67 (0, 0) hm)
  simp [execOp, e1, e2, Done, go_sem, h, goInt]
  exact hS2
end
end Go.Proofs.Ytjdeplehhmhpcaa
