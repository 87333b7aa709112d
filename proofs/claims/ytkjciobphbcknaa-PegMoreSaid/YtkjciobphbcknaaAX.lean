/- PegMore: a length, or a post, made narrower in place. -/
import Derived.Test.YtkjciobphbcknaaFA
import Derived.Test.YtkjciobphbcknaaG2
import Derived.Test.YtkjciobphbcknaaAW
namespace Go.Proofs.Ytkjciobphbcknaa
open Go.RowKit Go.Sort

theorem PBox.keptT {T : Nat → Prop} {W W' : World} {b : Nat} {v0 v1 v2 : Value} (h : PBox W b v0 v1 v2) (k : KeptT T W W') (hn : ¬ T b) : PBox W' b v0 v1 v2 := by
  obtain ⟨l, h0, h1, h2, z0, z1, z2⟩ := h
  exact ⟨Nat.lt_of_lt_of_le l k.size, (k.cells _ _ l hn).trans h0, (k.cells _ _ l hn).trans h1, (k.cells _ _ l hn).trans h2, (k.frozens _ _ l hn).trans z0, (k.frozens _ _ l hn).trans z1, (k.frozens _ _ l hn).trans z2⟩
theorem lenCells_less : ∀ (L : List Len) (k : Nat) (l : Len), L[k]? = some l → (lenCells L).set (k * 4 + 2) (.int .i64 (lessLen l).lo) = lenCells (L.modify k lessLen)
  | [], k, l, h => by simp at h
  | x :: r, 0, l, h => by simp at h; subst h; rfl
  | x :: r, k + 1, l, h => by
    have ih := lenCells_less r k l (by simpa using h)
    have e : (k + 1) * 4 + 2 = (k * 4 + 2) + 1 + 1 + 1 + 1 := by omega
    rw [e, List.modify_succ_cons]
    show (Value.int .i64 x.a :: Value.int .i64 x.b :: Value.int .i64 x.lo :: Value.int .i64 x.hi :: lenCells r).set _ _ = Value.int .i64 x.a :: Value.int .i64 x.b :: Value.int .i64 x.lo :: Value.int .i64 x.hi :: lenCells (r.modify k lessLen)
    simp only [List.set_cons_succ, ih]
theorem postCells_less : ∀ (L : List Post) (k : Nat) (l : Post), L[k]? = some l → (postCells L).set (k * 4 + 1) (.int .i64 (lessPost l).xhi) = postCells (L.modify k lessPost)
  | [], k, l, h => by simp at h
  | x :: r, 0, l, h => by simp at h; subst h; rfl
  | x :: r, k + 1, l, h => by
    have ih := postCells_less r k l (by simpa using h)
    have e : (k + 1) * 4 + 1 = (k * 4 + 1) + 1 + 1 + 1 + 1 := by omega
    rw [e, List.modify_succ_cons]
    show (Value.int .i64 x.xlo :: Value.int .i64 x.xhi :: Value.int .i64 x.ylo :: Value.int .i64 x.yhi :: postCells r).set _ _ = Value.int .i64 x.xlo :: Value.int .i64 x.xhi :: Value.int .i64 x.ylo :: Value.int .i64 x.yhi :: postCells (r.modify k lessPost)
    simp only [List.set_cons_succ, ih]
theorem OwnsLens.less {w : World} {base g n c : Nat} {L : List Len} (h : OwnsLens w base (.slice (some ⟨g, 0, none⟩) n c) L) {k : Nat} {l : Len} (hk : L[k]? = some l) (hn : n = L.length) :
    OwnsLens (w.setCell ⟨g, k * 4 + 2, none⟩ (.int .i64 (lessLen l).lo)) base (.slice (some ⟨g, 0, none⟩) n c) (L.modify k lessLen) := by
  subst hn
  unfold OwnsLens at *
  rw [← lenCells_less L k l hk, List.length_modify]
  exact (World.ownsRow.stored h _ _).1
theorem OwnsPosts.less {w : World} {base g n c : Nat} {L : List Post} (h : OwnsPosts w base (.slice (some ⟨g, 0, none⟩) n c) L) {k : Nat} {l : Post} (hk : L[k]? = some l) (hn : n = L.length) :
    OwnsPosts (w.setCell ⟨g, k * 4 + 1, none⟩ (.int .i64 (lessPost l).xhi)) base (.slice (some ⟨g, 0, none⟩) n c) (L.modify k lessPost) := by
  subst hn
  unfold OwnsPosts at *
  rw [← postCells_less L k l hk, List.length_modify]
  exact (World.ownsRow.stored h _ _).1
theorem OwnsPosts.setLens {w : World} {base g n c : Nat} {v : Value} {L : List Post} {M : List Len} (h : OwnsPosts w base v L) (k : OwnsLens w base (.slice (some ⟨g, 0, none⟩) n c) M) (o : Nat) (u : Value) : OwnsPosts (w.setCell ⟨g, o, none⟩ u) base v L := by
  obtain ⟨h1, h2 | ⟨g1, cap, cur, a, b, hg, r⟩⟩ := h
  · exact ⟨h1, .inl h2⟩
  · refine ⟨h1, .inr ⟨g1, cap, cur, a, b, (Below.heap_setCell _ _ _ _ ?_).trans hg, r⟩⟩
    rintro rfl
    obtain ⟨_, ⟨k2, _⟩ | ⟨g2, cap2, cur2, a2, _, hg2, _⟩⟩ := k
    · simp at k2
    · simp only [Value.slice.injEq, Option.some.injEq, Addr.mk.injEq, and_true] at a2
      obtain ⟨rfl, _⟩ := a2
      rw [hg] at hg2
      cases hg2
theorem OwnsLens.setPosts {w : World} {base g n c : Nat} {v : Value} {L : List Len} {M : List Post} (h : OwnsLens w base v L) (k : OwnsPosts w base (.slice (some ⟨g, 0, none⟩) n c) M) (o : Nat) (u : Value) : OwnsLens (w.setCell ⟨g, o, none⟩ u) base v L := by
  obtain ⟨h1, h2 | ⟨g1, cap, cur, a, b, hg, r⟩⟩ := h
  · exact ⟨h1, .inl h2⟩
  · refine ⟨h1, .inr ⟨g1, cap, cur, a, b, (Below.heap_setCell _ _ _ _ ?_).trans hg, r⟩⟩
    rintro rfl
    obtain ⟨_, ⟨k2, _⟩ | ⟨g2, cap2, cur2, a2, _, hg2, _⟩⟩ := k
    · simp at k2
    · simp only [Value.slice.injEq, Option.some.injEq, Addr.mk.injEq, and_true] at a2
      obtain ⟨rfl, _⟩ := a2
      rw [hg] at hg2
      cases hg2
theorem PBox.setFar {W : World} {b : Nat} {v0 v1 v2 : Value} (h : PBox W b v0 v1 v2) {g : Nat} (o : Nat) (u : Value) (hn : b ≠ g) : PBox (W.setCell ⟨g, o, none⟩ u) b v0 v1 v2 :=
  h.keptT (keptT_setCell W g o u) hn
theorem KeptT.setAbove {T : Nat → Prop} {A B : World} (h : KeptT T A B) {g : Nat} (o : Nat) (u : Value) (hg : A.heap.size ≤ g) : KeptT T A (B.setCell ⟨g, o, none⟩ u) :=
  ⟨h.os, h.tape, h.output, by simpa using h.size, fun k hk hn => (Below.heap_setCell _ _ _ _ (show k ≠ g by omega)).trans (h.block k hk hn)⟩
theorem PostsIn.keptT {T : Nat → Prop} {W W' : World} {pa : Option Addr} {L : List Post} (h : PostsIn W pa L) (k : KeptT T W W') (hn : ∀ a, pa = some a → L ≠ [] → ¬ T a.block) : PostsIn W' pa L := by
  intro i q hi
  obtain ⟨b, o, rfl, hl, c0, c1, c2, c3⟩ := h i q hi
  have hne : ¬ T b := hn _ rfl (by intro e; rw [e] at hi; simp at hi)
  exact ⟨b, o, rfl, Nat.lt_of_lt_of_le hl k.size, (k.cells _ _ hl hne).trans c0, (k.cells _ _ hl hne).trans c1, (k.cells _ _ hl hne).trans c2, (k.cells _ _ hl hne).trans c3⟩
/-- What is told with narrower pegs, beside what is told with the others. -/
structure Told (q p : PegsD) (i j k : Int) : Prop where
  pe : errOf (movedR p) = 0
  qe : errOf (movedR q) = 0
  wh : errOf (whereR q i) = errOf (whereR p i)
  whs : errOf (whereR p i) = 0 → spanIn (valOf ((0, 0), (0, 0)) (whereR q i)).1 (valOf ((0, 0), (0, 0)) (whereR p i)).1 ∧ spanIn (valOf ((0, 0), (0, 0)) (whereR q i)).2 (valOf ((0, 0), (0, 0)) (whereR p i)).2
  ap : errOf (apartR q i j) = errOf (apartR p i j)
  aps : errOf (apartR p i j) = 0 → spanIn (valOf (0, 0) (apartR q i j)) (valOf (0, 0) (apartR p i j))
  ar : errOf (areaR q i j k) = errOf (areaR p i j k)
  ars : errOf (areaR p i j k) = 0 → spanIn (valOf (0, 0) (areaR q i j k)) (valOf (0, 0) (areaR p i j k))
  pl : errOf (placesR q i) = errOf (placesR p i)
  pls : valOf 0 (placesR q i) ≤ valOf 0 (placesR p i)
theorem told {p q : PegsD} (hp : validB p = true) (hq : validB q = true) (hs : Sub q p) (hne : truthsL q ≠ []) (i j k : Int) : Told q p i j k := by
  obtain ⟨S, b, h1, _⟩ := movedR_spec hp (sub_some hp hq hs hne)
  obtain ⟨S', b', h1', _⟩ := movedR_spec hq hne
  have two : ¬ ((2 : Int) = 0) := by decide
  refine ⟨by rw [h1]; rfl, by rw [h1']; rfl, ?_, ?_, ?_, ?_, ?_, ?_, ?_, ?_⟩
  · rcases sub_where hp hq hs hne i with ⟨a, b⟩ | ⟨x, y, u, v, a, b, c, d⟩ <;> rw [a, b] <;> rfl
  · rcases sub_where hp hq hs hne i with ⟨a, b⟩ | ⟨x, y, u, v, a, b, c, d⟩ <;> rw [a, b]
    · exact fun h => absurd h two
    · exact fun _ => ⟨c, d⟩
  · rcases sub_apart hp hq hs hne i j with ⟨a, b⟩ | ⟨x, y, a, b, c⟩ <;> rw [a, b] <;> rfl
  · rcases sub_apart hp hq hs hne i j with ⟨a, b⟩ | ⟨x, y, a, b, c⟩ <;> rw [a, b]
    · exact fun h => absurd h two
    · exact fun _ => c
  · rcases sub_area hp hq hs hne i j k with ⟨a, b⟩ | ⟨x, y, a, b, c⟩ <;> rw [a, b] <;> rfl
  · rcases sub_area hp hq hs hne i j k with ⟨a, b⟩ | ⟨x, y, a, b, c⟩ <;> rw [a, b]
    · exact fun h => absurd h two
    · exact fun _ => c
  · rcases sub_places hp hq hs hne i with ⟨a, b⟩ | ⟨x, y, a, b, c⟩ <;> rw [a, b] <;> rfl
  · rcases sub_places hp hq hs hne i with ⟨a, b⟩ | ⟨x, y, a, b, c⟩ <;> rw [a, b]
    · exact Int.le_refl _
    · exact (by omega : (x : Int) ≤ (y : Int))
theorem movedR_bad {q : PegsD} (h : truthsL q = []) : errOf (movedR q) ≠ 0 := by
  rw [movedR, if_pos h]
  split
  · exact (by decide : ¬ ((1 : Int) = 0))
  · exact (by decide : ¬ ((10 : Int) = 0))
theorem movedR_clash {q : PegsD} (hq : validB q = true) (h : truthsL q = []) : errOf (movedR q) = 10 := by
  rw [movedR, if_neg (by simp [hq]), if_pos h]; rfl
/-- Cells one after the other in block g. -/
def Row (W : World) (g : Nat) (vs : List Value) : Prop := g < W.heap.size ∧ ∀ n v, vs[n]? = some v → W.cell? ⟨g, n, none⟩ = some v
theorem Row.kept {W W' : World} {g : Nat} {vs : List Value} (h : Row W g vs) (k : Kept W W') : Row W' g vs :=
  ⟨k.lt h.1, fun n v hv => (k.cells _ _ h.1).trans (h.2 n v hv)⟩
theorem row_new (W : World) (vs : List Value) (ty : TypeId) : Row (W.alloc (Obj.cells vs.toArray ty)) W.heap.size vs :=
  ⟨by simp, fun n v hv => by simp [go_sem, hv]⟩
/-- What is known of the n-th of the three pegs. -/
structure Third (p : PegsD) (W : World) (vs : List Value) (n : Nat) (q : PegsD) (qa ql : Option Addr) (qc qd : Nat) : Prop where
  v0 : vs[n * 3]? = some (.int .i64 q.side)
  v1 : vs[n * 3 + 1]? = some (.slice qa q.ps.length qc)
  v2 : vs[n * 3 + 2]? = some (.slice ql q.ls.length qd)
  mem : PegsIn W q qa ql
  m1 : q.ps.length ≤ 10
  m2 : q.ls.length ≤ 10
  sub : Sub q p
  tru : n < 2 → ∀ t m, IsTruth q t m → IsTruth p t m
theorem andnot_all : ∀ S' : Fin 16, ∀ S : Fin 16, S'.val &&& S.val = S'.val → bits BinOp.andNot IntKind.i64 (S'.val : Int) (S.val : Int) = 0 := by decide
theorem bits_andnot {S S' : Nat} (h1 : S < 16) (h2 : S' < 16) (h : S' &&& S = S') : bits BinOp.andNot IntKind.i64 (S' : Int) (S : Int) = 0 := andnot_all ⟨S', h2⟩ ⟨S, h1⟩ h
/-- 'in': one span lies in another one. -/
theorem in40_any (a b c d : Int) (w : World) : Calls Try.prog 40 #[.agg #[.int .i64 a, .int .i64 b], .agg #[.int .i64 c, .int .i64 d]] w fun e w' => e = .returned (.bool (decide (c ≤ a) && decide (b ≤ d))) ∧ Kept w w' := by
  go_enter Try.func40, Try.ntmps40
  go_wp2
  · refine bodyPost_ret (v := .bool (decide (c ≤ a) && decide (b ≤ d))) (by simp [results, Try.results40, go_sem, *]) rfl ?_
    exact ⟨rfl, ((Kept.refl _).alloc _).alloc _⟩
  · have hf : decide (c ≤ a) = false := decide_eq_false (by omega)
    refine bodyPost_ret (v := .bool (decide (c ≤ a) && decide (b ≤ d))) (by rw [hf]; simp [results, Try.results40, go_sem]) rfl ?_
    exact ⟨rfl, ((Kept.refl _).alloc _).alloc _⟩
end Go.Proofs.Ytkjciobphbcknaa
