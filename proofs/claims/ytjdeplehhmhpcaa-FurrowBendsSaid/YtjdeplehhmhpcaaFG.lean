/- Package furrow: the search for a way. -/
import Derived.Test.YtjdeplehhmhpcaaFF0
namespace Go.Proofs.Ytjdeplehhmhpcaa
open Go.RowKit En

theorem put_set : ∀ (cs : List Value) (k : Nat) (v : Value), k < cs.length → Put cs k [v] (cs.set k v)
  | [], k, v, h => absurd h (Nat.not_lt_zero k)
  | x :: r, 0, v, _ => .put .done
  | x :: r, k + 1, v, h => .skip (put_set r k v (by simpa using h))
theorem put_int (l : List Int) (k : Nat) (x : Int) (h : k < l.length) : Put (intsV l) k [.int .i64 x] (intsV (l.set k x)) := by
  have := put_set (intsV l) k (.int .i64 x) (by simpa [intsV] using h)
  simpa [intsV, List.map_set] using this
structure WayA where
  bs : Nat
  br : Nat
  bo : Nat
  bg : Nat
  sa : Option Addr
  sc : Nat
  o : Nat
  m : Nat
  oc : Nat
abbrev ptrV (b : Nat) : Value := .pointer (some ⟨b, 0, none⟩)
abbrev WayA.cs (q : WayA) : List Value := [ptrV q.bs, ptrV q.br, ptrV q.bo, ptrV q.bg]
structure WayW (W0 w : World) (q : WayA) (n : Nat) : Prop where
  below : Below W0.heap.size W0 w
  cs_ : w.cell? ⟨q.bs, 0, none⟩ = some (.slice q.sa n q.sc)
  cr : w.cell? ⟨q.br, 0, none⟩ = some (.map (some q.m))
  co : w.cell? ⟨q.bo, 0, none⟩ = some (.slice (some ⟨q.o, 0, none⟩) n q.oc)
  cg : w.cell? ⟨q.bg, 0, none⟩ = some (.func (.func 102) #[] q.cs.toArray)
/-- Blocks of which none is what a way reads. -/
structure NotIn (T : Nat → Prop) (W0 : World) (q : WayA) : Prop where
  bs : ¬ T q.bs
  br : ¬ T q.br
  bo : ¬ T q.bo
  bg : ¬ T q.bg
  old : ∀ b, b < W0.heap.size → ¬ T b
theorem WayW.next {W0 w w' : World} {q : WayA} {n : Nat} {T : Nat → Prop} {H : Heap} (h : WayW W0 w q n) (hN : NotIn T W0 q) (hS : St w T H w') : WayW W0 w' q n :=
  ⟨⟨hS.os.trans h.below.os, hS.tape.trans h.below.tape, hS.output.trans h.below.output, Nat.le_trans h.below.size hS.size, fun b hb => (hS.old b (Nat.lt_of_lt_of_le hb h.below.size) (hN.old b hb)).trans (h.below.block b hb)⟩,
    hS.old_cell hN.bs h.cs_, hS.old_cell hN.br h.cr, hS.old_cell hN.bo h.co, hS.old_cell hN.bg h.cg⟩
theorem WayW.not {W0 w w' : World} {q : WayA} {n : Nat} {T : Nat → Prop} {H : Heap} (h : WayW W0 w q n) (hN : NotIn T W0 q) (hS : St w T H w') : NotIn (blk H) W0 q :=
  ⟨hS.not_blk (World.block_lt_of_cell? w _ h.cs_) hN.bs, hS.not_blk (World.block_lt_of_cell? w _ h.cr) hN.br, hS.not_blk (World.block_lt_of_cell? w _ h.co) hN.bo, hS.not_blk (World.block_lt_of_cell? w _ h.cg) hN.bg,
    fun b hb => hS.not_blk (Nat.lt_of_lt_of_le hb h.below.size) (hN.old b hb)⟩
abbrev oH (q : WayA) (offs : List Int) : Nat × Obj := (q.o, Obj.cells (intsV offs).toArray 3 (0, 0))
abbrev mH (q : WayA) (es : Array MapEntry) (ck : Nat) : Nat × Obj := (q.m, Obj.map es ck)
/-- From a place no way leads on. -/
def deadP (l : List SpotD) (p : PlaceD) : Prop := goes l (l.length - p.k.toNat) p.k.toNat p.a p.b = none
def Dead (l : List SpotD) (k : Nat) (R : List PlaceD) : Prop := ∀ p ∈ R, (k : Int) ≤ p.k → deadP l p
structure After (l : List SpotD) (d k : Nat) (a b : Int) (offs : List Int) (R : List PlaceD) (s : List Int × Array MapEntry × Nat × List PlaceD) : Prop where
  ents : Ents placeV s.2.1 s.2.2.2
  len : s.1.length = l.length
  take : s.1.take k = offs.take k
  new : ∀ p ∈ s.2.2.2, p ∈ R ∨ (k : Int) ≤ p.k
  some_ : ∀ t, goes l d k a b = some t → s.1.drop k = t
  none_ : goes l d k a b = none → Dead l k s.2.2.2
theorem findUp {β : Type} {lo hi : Int} {f : Int → Option β} {j : Nat} {v : β} (h1 : ∀ i, i < j → f (lo + (i : Int)) = none) (hj : j < (hi - lo + 1).toNat) (h2 : f (lo + (j : Int)) = some v) : (upL lo hi).findSome? f = some v := by
  have e : upL lo hi = (upL lo hi).take j ++ (lo + (j : Int)) :: (upL lo hi).drop (j + 1) := by
    have h := upL_at hj
    obtain ⟨h3, h4⟩ := List.getElem?_eq_some_iff.1 h
    rw [← h4, ← List.drop_eq_getElem_cons h3, List.take_append_drop]
  rw [e, List.findSome?_append]
  have e2 : ((upL lo hi).take j).findSome? f = none := by
    rw [List.findSome?_eq_none_iff]
    intro x hx
    obtain ⟨i, hi2, rfl⟩ := List.getElem_of_mem hx
    rw [List.length_take, upL_length] at hi2
    have h5 := upL_at (lo := lo) (hi := hi) (k := i) (by omega)
    rw [List.getElem_take]
    obtain ⟨h6, h7⟩ := List.getElem?_eq_some_iff.1 h5
    rw [h7]
    exact h1 i (by omega)
  rw [e2, List.findSome?_cons, h2]
  rfl
theorem findUp_none {β : Type} {lo hi : Int} {f : Int → Option β} (h1 : ∀ i, i < (hi - lo + 1).toNat → f (lo + (i : Int)) = none) : (upL lo hi).findSome? f = none := by
  rw [List.findSome?_eq_none_iff]
  intro x hx
  obtain ⟨h2, h3⟩ := mem_upL.1 hx
  have := h1 (x - lo).toNat (by omega)
  rwa [show lo + ((x - lo).toNat : Int) = x by omega] at this
/-- What an offset leads to. -/
def cand (l : List SpotD) (d k : Nat) (a b o : Int) : Option (List Int) := if letsB l k a b o then (goes l d (k + 1) b o).map (o :: ·) else none
theorem goes_succ (l : List SpotD) (d k : Nat) (a b : Int) : goes l (d + 1) k a b = (upL (l.getD k default).lo (l.getD k default).hi).findSome? (cand l d k a b) := rfl
theorem goes_length {l : List SpotD} : ∀ {d k : Nat} {a b : Int} {t : List Int}, goes l d k a b = some t → t.length = d
  | 0, _, _, _, t, h => by cases h; rfl
  | d + 1, k, a, b, t, h => by
    rw [goes_succ] at h
    obtain ⟨o, _, ho⟩ := List.exists_of_findSome?_eq_some h
    unfold cand at ho
    split at ho
    · obtain ⟨t', h1, rfl⟩ := Option.map_eq_some_iff.1 ho
      simp [goes_length h1]
    · cases ho
theorem after_ne (l : List SpotD) (d k : Nat) (a b : Int) (offs : List Int) (es : Array MapEntry) (ck : Nat) (R : List PlaceD) (hk : k + d = l.length) (hl : offs.length = l.length) (he : Ents placeV es R) (hd : Dead l k R) : ∃ s, After l d k a b offs R s := by
  cases h : goes l d k a b with
  | none => exact ⟨(offs, es, ck, R), he, hl, rfl, fun p hp => .inl hp, fun t ht => (by rw [h] at ht; cases ht), fun _ => hd⟩
  | some t =>
    have ht := goes_length h
    have e : (offs.take k).length = k := by rw [List.length_take]; omega
    exact ⟨(offs.take k ++ t, es, ck, R), he, (by rw [List.length_append, e, ht]; exact hk), (by rw [List.take_append_of_le_length (by omega), List.take_of_length_le (by omega)]), fun p hp => .inl hp, fun t' h' => (by rw [h] at h'; cases h'; rw [List.drop_append_of_le_length (by omega), List.drop_of_length_le (by omega)]; rfl), fun h' => (by rw [h] at h'; cases h')⟩
theorem drop_cons {A : List Int} {k : Nat} {x : Int} {t B : List Int} (h1 : A.take (k + 1) = (B.set k x).take (k + 1)) (h2 : A.drop (k + 1) = t) (h3 : k < B.length) (h4 : A.length = B.length) : A.drop k = x :: t := by
  have hk : k < A.length := by omega
  rw [List.drop_eq_getElem_cons hk, h2]
  congr 1
  have e := congrArg (fun z => z[k]?) h1
  simp only [List.getElem?_take, Nat.lt_succ_self, if_true, List.getElem?_set_self h3, List.getElem?_eq_getElem hk] at e
  exact Option.some.inj e
theorem take_set {A : List Int} {k : Nat} {x : Int} : (A.set k x).take k = A.take k := by
  rw [List.take_set, List.set_eq_of_length_le (by rw [List.length_take]; omega)]
end Go.Proofs.Ytjdeplehhmhpcaa
