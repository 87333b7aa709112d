/- Furrow: numbers that are drawn. -/
import Derived.Test.YtjdeplehhmhpcaaGL
namespace Go.Proofs.Ytjdeplehhmhpcaa
open Go.RowKit En

theorem enterT {P : Program} {fn : Func} {f : FuncId} {c : Code} {l : List Value} {n b : Nat} {o : Obj} {E : Env} {w : World} {R : Ending → World → Prop} (hf : P.funcs[f]? = some fn) (hb : fn.body = some c) (hn : fn.ntmps = n) (hl : Nat.ble l.length n = true) (hE : Fill 0 l E) (ho : w.heap[b]? = some o)
    (k : CW none [] P (bodyPostM (FF P none) 0 P fn R) c n E w (fun k => k = b) [(b, o)]) : CallsF P f l.toArray w R := by
  have hl' : l.length ≤ n := by simpa using hl
  refine (callsIn_of_wp_marks hf hb (show (P.funcs[f]?).isSome = true by rw [hf]; rfl) (k _ w ⟨by simp [hn]; omega, rfl, fun t v ht => ?_⟩ (own_one ho)) rfl)
  obtain ⟨_, h2⟩ := hE.get t v ht
  simp only [Nat.sub_zero] at h2
  have hlt : t < l.length := (List.getElem?_eq_some_iff.1 h2).1
  simp [Array.getD_eq_getD_getElem?, Array.getElem?_append_left (show t < l.toArray.size by simpa using hlt), h2]
/-- What a drawing function reads: numbers below 65536. -/
structure DrawOk (w : World) (b1 dC : Nat) (pb po cap : Nat) (l : List Int) : Prop where
  box : w.cell? ⟨b1, 0, none⟩ = some (.slice (some ⟨pb, po, none⟩) l.length cap)
  row : ∀ i x, l[i]? = some x → (0 ≤ x ∧ x ≤ 65535) ∧ w.cell? ⟨pb, po + i, none⟩ = some (.int .u16 x)
  n1 : b1 ≠ dC
  n2 : pb ≠ dC
  pos : 0 < l.length
  len : (l.length : Int) ≤ 9223372036854775807
abbrev cntO (c : Int) : Obj := Obj.cells [.int .i64 c].toArray 3 (0, 0)
theorem DrawOk.kept {w w' : World} {b1 dC pb po cap : Nat} {l : List Int} {H : Heap} (h : DrawOk w b1 dC pb po cap l) (hS : St w (fun k => k = dC) H w') : DrawOk w' b1 dC pb po cap l :=
  ⟨hS.old_cell h.n1 h.box, fun i x hi => ⟨(h.row i x hi).1, hS.old_cell h.n2 (h.row i x hi).2⟩, h.n1, h.n2, h.pos, h.len⟩
theorem DrawOk.below {w w' : World} {b1 dC pb po cap : Nat} {l : List Int} (h : DrawOk w b1 dC pb po cap l) (hB : Below w.heap.size w w') : DrawOk w' b1 dC pb po cap l :=
  ⟨by rw [cell_kept hB (World.block_lt_of_cell? w _ h.box)]; exact h.box, fun i x hi => ⟨(h.row i x hi).1, by rw [cell_kept hB (World.block_lt_of_cell? w _ (h.row i x hi).2)]; exact (h.row i x hi).2⟩, h.n1, h.n2, h.pos, h.len⟩
abbrev drawV (dC b1 : Nat) : Value := .func (.func 72) #[] ([.pointer (some ⟨dC, 0, none⟩), .pointer (some ⟨b1, 0, none⟩)] : List Value).toArray
/-- A station as it truly is, and what is told of it. -/
structure TrueD where
  o : Int
  w : Int
  d : Int
  so : SpanD
  sw : SpanD
  sd : SpanD
structure OkT (r : TrueD) : Prop where
  o : -9 ≤ r.o ∧ r.o ≤ 9
  w : 10 ≤ r.w ∧ r.w ≤ 49
  d : 5 ≤ r.d ∧ r.d ≤ 34
  so : r.o - 3 ≤ r.so.lo ∧ r.so.lo ≤ r.o ∧ r.o ≤ r.so.hi ∧ r.so.hi ≤ r.o + 3
  sw : r.w - 4 ≤ r.sw.lo ∧ r.sw.lo ≤ r.w ∧ r.w ≤ r.sw.hi ∧ r.sw.hi ≤ r.w + 4
  sd : r.d - 4 ≤ r.sd.lo ∧ r.sd.lo ≤ r.d ∧ r.d ≤ r.sd.hi ∧ r.sd.hi ≤ r.d + 4
def furT (L : List TrueD) : FurrowD := ⟨L.map (·.so), L.map (·.sw), L.map (·.sd)⟩
def soilT : List TrueD → Int
  | [] => 0
  | r :: L => r.w * r.d + soilT L
instance : Inhabited TrueD := ⟨⟨0, 0, 0, default, default, default⟩⟩
end Go.Proofs.Ytjdeplehhmhpcaa
