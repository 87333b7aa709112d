/- PegMore: a length, or a post, made narrower in place. -/
import Derived.Test.YtkjciobphbcknaaAV
import Derived.Test.YtkjciobphbcknaaG1
import Derived.Test.YtkjciobphbcknaaFA
namespace Go.Proofs.Ytkjciobphbcknaa
open Go.RowKit

/-- Wherever pegs stand by q they can stand by p. -/
def Sub (q p : PegsD) : Prop := q.ps.length = p.ps.length ∧ ∀ t m, IsTruth q t m → ∃ m', IsTruth p t m'
theorem truths_some {p : PegsD} (hf : Fit p) : truthsL p ≠ [] ↔ ∃ t m, IsTruth p t m := by
  constructor
  · intro h
    cases hE : truthsL p with
    | nil => exact absurd hE h
    | cons x r => exact ⟨x.1, x.2, (mem_truthsL hf).1 (by rw [hE]; simp)⟩
  · rintro ⟨t, m, h⟩
    exact List.ne_nil_of_mem ((mem_truthsL hf).2 h)
section
variable {p q : PegsD} (hp : validB p = true) (hq : validB q = true) (hs : Sub q p) (hne : truthsL q ≠ [])
include hp hq hs hne in
theorem sub_some : truthsL p ≠ [] := by
  obtain ⟨t, m, h⟩ := (truths_some (fit_of_valid hq)).1 hne
  obtain ⟨m', h'⟩ := hs.2 t m h
  exact (truths_some (fit_of_valid hp)).2 ⟨t, m', h'⟩
include hp hq hs in
theorem sub_check (xs : List Int) : checkR q xs = checkR p xs := by simp [checkR, hp, hq, hs.1]
theorem checkR_cases {p : PegsD} (hp : validB p = true) (xs : List Int) : checkR p xs = some 2 ∨ checkR p xs = none ∧ ∀ x ∈ xs, 0 ≤ x ∧ x < p.ps.length := by
  by_cases h : xs.all (isPegB p.ps.length) = true
  · right
    refine ⟨by simp [checkR, hp, h], fun x hx => ?_⟩
    have := List.all_eq_true.1 h x hx
    simpa [isPegB] using this
  · left
    have : xs.all (isPegB p.ps.length) = false := by simpa using h
    simp [checkR, hp, this]
/-- One span lies in another one. -/
def spanIn (a b : Int × Int) : Prop := b.1 ≤ a.1 ∧ a.2 ≤ b.2
omit hne in
include hp hq hs in
theorem sub_stand {i : Nat} {s : Pl} (h : s ∈ standL i (truthsL q)) : s ∈ standL i (truthsL p) := by
  obtain ⟨t, m, h1, h2⟩ := (mem_stand (fit_of_valid hq) i).1 h
  obtain ⟨m', h'⟩ := hs.2 t m h1
  exact (mem_stand (fit_of_valid hp) i).2 ⟨t, m', h', h2⟩
theorem stand_ne {p : PegsD} (i : Nat) (h : truthsL p ≠ []) : standL i (truthsL p) ≠ [] := by
  cases hE : truthsL p with
  | nil => exact absurd hE h
  | cons x r => exact List.ne_nil_of_mem (mem_standL.2 ⟨x, by simp, rfl⟩)
theorem endsOn_in (f : Pl → Int) {L M : List Pl} (hL : L ≠ []) (h : ∀ s ∈ L, s ∈ M) : spanIn (spanOf (endsOn f L)) (spanOf (endsOn f M)) := by
  have hM : M ≠ [] := by
    cases L with
    | nil => exact absurd rfl hL
    | cons a r => exact List.ne_nil_of_mem (h a (by simp))
  obtain ⟨_, _, ⟨s1, b1, c1⟩, ⟨s2, b2, c2⟩⟩ := endsOn_spec f L hL
  obtain ⟨_, d1, _, _⟩ := endsOn_spec f M hM
  have x1 := d1 s1 (h s1 b1)
  have x2 := d1 s2 (h s2 b2)
  simp only [spanIn, spanOf]
  omega
include hp hq hs hne in
theorem sub_where (i : Int) : (whereR q i = .error 2 ∧ whereR p i = .error 2) ∨ ∃ x y u v, whereR q i = .ok (x, y) ∧ whereR p i = .ok (u, v) ∧ spanIn x u ∧ spanIn y v := by
  have hpe := sub_some hp hq hs hne
  have hc := sub_check hp hq hs [i]
  rcases checkR_cases hp [i] with h | ⟨h, _⟩
  · left; simp only [whereR, hc, h]; exact ⟨trivial, trivial⟩
  · right
    simp only [whereR, hc, h, hne, hpe, if_false]
    exact ⟨_, _, _, _, rfl, rfl, endsOn_in _ (stand_ne _ hne) (fun s hs' => sub_stand hp hq hs hs'), endsOn_in _ (stand_ne _ hne) (fun s hs' => sub_stand hp hq hs hs')⟩
include hp hq hs hne in
theorem sub_places (i : Int) : (placesR q i = .error 2 ∧ placesR p i = .error 2) ∨ ∃ a b : Nat, placesR q i = .ok (a : Int) ∧ placesR p i = .ok (b : Int) ∧ a ≤ b := by
  have hpe := sub_some hp hq hs hne
  have hc := sub_check hp hq hs [i]
  rcases checkR_cases hp [i] with h | ⟨h, _⟩
  · left; simp only [placesR, hc, h]; exact ⟨trivial, trivial⟩
  · right
    simp only [placesR, hc, h, hne, hpe, if_false]
    exact ⟨_, _, rfl, rfl, nodup_len _ _ (standL_nodup _ _) (fun s hs' => sub_stand hp hq hs hs')⟩
include hp hq hs hne in
theorem sub_ends (f : At → Int) : ∃ a b, endsR (fun x => f x.1) q = .ok a ∧ endsR (fun x => f x.1) p = .ok b ∧ spanIn a b := by
  have hpe := sub_some hp hq hs hne
  simp only [endsR, hne, hpe, if_false]
  refine ⟨_, _, rfl, rfl, ?_⟩
  obtain ⟨_, _, ⟨s1, b1, c1⟩, ⟨s2, b2, c2⟩⟩ := endsL_spec (fun x => f x.1) _ hne
  obtain ⟨_, d1, _, _⟩ := endsL_spec (fun x => f x.1) _ hpe
  have key : ∀ x ∈ truthsL q, ∃ y ∈ truthsL p, y.1 = x.1 := fun x hx => by
    obtain ⟨m', h'⟩ := hs.2 x.1 x.2 ((mem_truthsL (fit_of_valid hq)).1 hx)
    exact ⟨(x.1, m'), (mem_truthsL (fit_of_valid hp)).2 h', rfl⟩
  obtain ⟨y1, hy1, e1⟩ := key s1 b1
  obtain ⟨y2, hy2, e2⟩ := key s2 b2
  have x1 := (d1 y1 hy1).1
  have x2 := (d1 y2 hy2).2
  simp only [e1] at x1
  simp only [e2] at x2
  simp only [spanIn]
  omega
include hp hq hs hne in
theorem sub_apart (i j : Int) : (apartR q i j = .error 2 ∧ apartR p i j = .error 2) ∨ ∃ a b, apartR q i j = .ok a ∧ apartR p i j = .ok b ∧ spanIn a b := by
  have hc := sub_check hp hq hs [i, j]
  rcases checkR_cases hp [i, j] with h | ⟨h, _⟩
  · left; simp only [apartR, hc, h]; exact ⟨trivial, trivial⟩
  · right
    simp only [apartR, hc, h]
    exact sub_ends hp hq hs hne (fun t => apartI (t.get i) (t.get j))
include hp hq hs hne in
theorem sub_area (i j k : Int) : (areaR q i j k = .error 2 ∧ areaR p i j k = .error 2) ∨ ∃ a b, areaR q i j k = .ok a ∧ areaR p i j k = .ok b ∧ spanIn a b := by
  have hc := sub_check hp hq hs [i, j, k]
  rcases checkR_cases hp [i, j, k] with h | ⟨h, _⟩
  · left; simp only [areaR, hc, h]; exact ⟨trivial, trivial⟩
  · by_cases he : i = j ∨ j = k ∨ k = i
    · left; simp only [areaR, hc, h, he, if_true]; exact ⟨trivial, trivial⟩
    · right
      simp only [areaR, hc, h, he, if_false]
      exact sub_ends hp hq hs hne (fun t => max (areaI (t.get i) (t.get j) (t.get k)) (-areaI (t.get i) (t.get j) (t.get k)))
end

/-- A length more. -/
def plusP (p : PegsD) (l : Len) : PegsD := ⟨p.side, p.ps, p.ls ++ [l]⟩
theorem plus_truth {p : PegsD} {l : Len} {t : At} {m : Int} (h : IsTruth (plusP p l) t m) : IsTruth p t m := ⟨h.1, h.2.1, h.2.2.1, h.2.2.2.1, fun l' hl => h.2.2.2.2 l' (by simp [plusP, hl])⟩
theorem plus_sub (p : PegsD) (l : Len) : Sub (plusP p l) p := ⟨rfl, fun _ m h => ⟨m, plus_truth h⟩⟩
/-- A narrower length. -/
def lessLen (l : Len) : Len := { l with lo := min l.hi (l.lo + 1) }
def narrowL (p : PegsD) (k : Nat) : PegsD := ⟨p.side, p.ps, p.ls.modify k lessLen⟩
theorem sq_mono {a b : Int} (h0 : 0 ≤ a) (h : a ≤ b) : a * a ≤ b * b := Int.mul_le_mul h h h0 (by omega)
theorem narrowL_truth {p : PegsD} (hv : validB p = true) {k : Nat} {t : At} {m : Int} (h : IsTruth (narrowL p k) t m) : IsTruth p t m := by
  refine ⟨h.1, h.2.1, h.2.2.1, h.2.2.2.1, fun l hl => ?_⟩
  obtain ⟨i, hi⟩ := List.mem_iff_getElem?.1 hl
  have hfit := (fit_of_valid hv).lens l hl
  obtain ⟨⟨_, _, _, _, h1, h2, _⟩, _⟩ := hfit
  by_cases hik : k = i
  · subst hik
    have hm : lessLen l ∈ (narrowL p k).ls := List.mem_of_getElem? (i := k) (by simp [narrowL, hi])
    have hr := h.2.2.2.2 _ hm
    simp only [rightB, lessLen, Bool.and_eq_true] at hr ⊢
    exact ⟨decide_eq_true (Int.le_trans (sq_mono h1 (show l.lo ≤ min l.hi (l.lo + 1) by omega)) (of_decide_eq_true hr.1)), hr.2⟩
  · have hm : l ∈ (narrowL p k).ls := List.mem_of_getElem? (i := i) (by simp [narrowL, hik, hi])
    exact h.2.2.2.2 l hm
theorem narrowL_sub {p : PegsD} (hv : validB p = true) (k : Nat) : Sub (narrowL p k) p := ⟨rfl, fun _ m h => ⟨m, narrowL_truth hv h⟩⟩
/-- A narrower post. -/
def lessPost (q : Post) : Post := { q with xhi := max q.xlo (q.xhi - 1) }
def narrowP (p : PegsD) (k : Nat) : PegsD := ⟨p.side, p.ps.modify k lessPost, p.ls⟩
theorem narrowP_sub {p : PegsD} (hv : validB p = true) (k : Nat) : Sub (narrowP p k) p := by
  have hf := fit_of_valid hv
  refine ⟨by simp [narrowP], fun t m h => ?_⟩
  obtain ⟨h1, h2, h3, h4, h5⟩ := h
  have hlen : (narrowP p k).ps.length = p.ps.length := by simp [narrowP]
  rw [hlen] at h2 h4
  have side : (narrowP p k).side = p.side := rfl
  -- who is not at his post there is either not here, or is
  by_cases hm : 0 ≤ m ∧ ∃ q, p.ps[m.toNat]? = some q ∧ atPost q (t.get m)
  · obtain ⟨hm0, q0, hq0, hat⟩ := hm
    refine ⟨-1, by omega, by omega, fun i q hq => ?_, h4, h5⟩
    have hin : inField p.side (t.get i) ∧ atPost q (t.get i) := by
      by_cases hi : (i : Int) = m
      · have : m.toNat = i := by omega
        rw [this, hq] at hq0
        cases hq0
        subst hi
        obtain ⟨a1, a2, a3, a4, a5, a6⟩ := hf.posts _ (List.mem_of_getElem? hq)
        obtain ⟨b1, b2, b3, b4⟩ := hat
        exact ⟨⟨by omega, by omega, by omega, by omega⟩, ⟨b1, b2, b3, b4⟩⟩
      · by_cases hik : k = i
        · subst hik
          obtain ⟨c1, c2⟩ := h3 k (lessPost q) (by simp [narrowP, hq])
          refine ⟨c1, ?_⟩
          obtain ⟨b1, b2, b3, b4⟩ := c2.2 hi
          obtain ⟨a1, a2, _⟩ := hf.posts q (List.mem_of_getElem? hq)
          simp only [lessPost] at b1 b2 b3 b4
          exact ⟨b1, by omega, b3, b4⟩
        · obtain ⟨c1, c2⟩ := h3 i q (by simp [narrowP, hik, hq])
          exact ⟨c1, c2.2 hi⟩
    exact ⟨hin.1, fun _ => by omega, fun _ => hin.2⟩
  · refine ⟨m, h1, h2, fun i q hq => ?_, h4, h5⟩
    by_cases hi : (i : Int) = m
    · have hnat : ¬ atPost q (t.get i) := fun ha => hm ⟨by omega, q, by rw [← hi]; simpa using hq, by rw [← hi]; exact ha⟩
      have hin : inField p.side (t.get i) := by
        by_cases hik : k = i
        · subst hik; exact (h3 k (lessPost q) (by simp [narrowP, hq])).1
        · exact (h3 i q (by simp [narrowP, hik, hq])).1
      exact ⟨hin, fun ha => absurd ha hnat, fun hne => absurd hi hne⟩
    · by_cases hik : k = i
      · subst hik
        obtain ⟨c1, c2⟩ := h3 k (lessPost q) (by simp [narrowP, hq])
        obtain ⟨b1, b2, b3, b4⟩ := c2.2 hi
        obtain ⟨a1, a2, _⟩ := hf.posts q (List.mem_of_getElem? hq)
        simp only [lessPost] at b1 b2 b3 b4
        exact ⟨c1, fun _ => hi, fun _ => ⟨b1, by omega, b3, b4⟩⟩
      · obtain ⟨c1, c2⟩ := h3 i q (by simp [narrowP, hik, hq])
        exact ⟨c1, c2⟩

/-- Nobody more can have been moved. -/
theorem sub_moved {p q : PegsD} (hp : validB p = true) (hq : validB q = true) (hlen : q.ps.length = p.ps.length) (hsub : ∀ t m, IsTruth q t m → IsTruth p t m) (hne : truthsL q ≠ []) :
    ∃ (A B : Int) (S S' : Nat) (b b' : Bool), movedR p = .ok (A, (S : Int), b) ∧ movedR q = .ok (B, (S' : Int), b') ∧ S < 16 ∧ S' < 16 ∧ (b' = true → b = true) ∧ S' &&& S = S' := by
  have hs : Sub q p := ⟨hlen, fun t m h => ⟨m, hsub t m h⟩⟩
  have hpe := sub_some hp hq hs hne
  obtain ⟨S, b, h1, h2, h3, h4⟩ := movedR_spec hp hpe
  obtain ⟨S', b', h1', h2', h3', h4'⟩ := movedR_spec hq hne
  have p4 : 2 ^ p.ps.length ≤ 16 := Nat.pow_le_pow_right (by omega) (show p.ps.length ≤ 4 from (fit_of_valid hp).n4)
  have q4 : 2 ^ q.ps.length ≤ 16 := Nat.pow_le_pow_right (by omega) (show q.ps.length ≤ 4 from (fit_of_valid hq).n4)
  refine ⟨_, _, S, S', b, b', h1, h1', by omega, by omega, fun h => ?_, sub_iff.2 fun j hj => ?_⟩
  · obtain ⟨t, ht⟩ := h3'.1 h
    exact h3.2 ⟨t, hsub t _ ht⟩
  · obtain ⟨t, ht⟩ := (h4' j).1 hj
    exact (h4 j).2 ⟨t, hsub t _ ht⟩
/-- Whether there is a truth or not: what Moved tells of valid pegs. -/
theorem movedR_cases {q : PegsD} (hq : validB q = true) : (truthsL q = [] ∧ movedR q = .error 10) ∨ truthsL q ≠ [] := by
  by_cases h : truthsL q = []
  · left; exact ⟨h, by rw [movedR, if_neg (by simp [hq]), if_pos h]⟩
  · exact .inr h
end Go.Proofs.Ytkjciobphbcknaa
namespace Go.Proofs.Ytkjciobphbcknaa
open Go.RowKit

/-- Below block 'base' nothing has turned but the cells of C. -/
structure GC (base : Nat) (C : Nat → Nat → Prop) (A B : World) : Prop where
  os : B.os = A.os
  tape : B.tape = A.tape
  output : B.output = A.output
  size : A.heap.size ≤ B.heap.size
  cell : ∀ b o, b < base → b < A.heap.size → ¬ C b o → B.cell? ⟨b, o, none⟩ = A.cell? ⟨b, o, none⟩
  frozen : ∀ b o, b < base → b < A.heap.size → B.frozen? ⟨b, o, none⟩ = A.frozen? ⟨b, o, none⟩
  some : ∀ b o, b < base → b < A.heap.size → (A.cell? ⟨b, o, none⟩).isSome = true → (B.cell? ⟨b, o, none⟩).isSome = true
  block : ∀ b, b < base → b < A.heap.size → (∀ o, ¬ C b o) → B.heap[b]? = A.heap[b]?
section
variable {base : Nat} {C : Nat → Nat → Prop} {A B D : World}
theorem GC.refl (A : World) : GC base C A A := ⟨rfl, rfl, rfl, Nat.le_refl _, fun _ _ _ _ _ => rfl, fun _ _ _ _ => rfl, fun _ _ _ _ h => h, fun _ _ _ _ => rfl⟩
theorem GC.trans (h : GC base C A B) (k : GC base C B D) : GC base C A D :=
  ⟨k.os.trans h.os, k.tape.trans h.tape, k.output.trans h.output, Nat.le_trans h.size k.size, fun b o hb hl hn => (k.cell b o hb (Nat.lt_of_lt_of_le hl h.size) hn).trans (h.cell b o hb hl hn),
    fun b o hb hl => (k.frozen b o hb (Nat.lt_of_lt_of_le hl h.size)).trans (h.frozen b o hb hl), fun b o hb hl hs => k.some b o hb (Nat.lt_of_lt_of_le hl h.size) (h.some b o hb hl hs),
    fun b hb hl hn => (k.block b hb (Nat.lt_of_lt_of_le hl h.size) hn).trans (h.block b hb hl hn)⟩
theorem Kept.toG (h : Kept A B) : GC base C A B :=
  ⟨Below.os h, Below.tape h, Below.output h, Below.size h, fun b o _ hl _ => h.cells b o hl, fun b o _ hl => h.frozens b o hl, fun b o _ hl hs => by rw [h.cells b o hl]; exact hs, fun b _ hl _ => Below.block h b hl⟩
theorem GC.ofGrown {r : Option Nat} (h : A.grownBy B r) (hr : ∀ k, r = .some k → base ≤ k) : GC base C A B := by
  have hb : ∀ b, b < base → b < A.heap.size → B.heap[b]? = A.heap[b]? := fun b hb hl => h.block b hl (fun e => by have := hr b e.symm; omega)
  exact ⟨h.os, h.tape, h.output, h.size, fun b o h1 h2 _ => World.cell?_of_block (w := A) (hb b h1 h2), fun b o h1 h2 => World.frozen?_of_block (w := A) (hb b h1 h2),
    fun b o h1 h2 hs => by rw [World.cell?_of_block (w := A) (a := ⟨b, o, none⟩) (hb b h1 h2)]; exact hs, fun b h1 h2 _ => hb b h1 h2⟩
theorem GC.ofSet {b o : Nat} (hC : C b o) (v : Value) : GC base C A (A.setCell ⟨b, o, none⟩ v) := by
  refine ⟨rfl, rfl, rfl, by simp, fun b' o' _ _ hn => ?_, fun b' o' _ _ => World.frozen?_setCell _ _ _ _, fun b' o' _ _ hs => ?_, fun b' _ _ hn => Below.heap_setCell _ _ _ _ (fun e => by subst e; exact hn o hC)⟩
  · rw [World.cell?_setCell_other _ _ _ _ (by intro e; cases e; exact hn hC)]
  · by_cases e : (⟨b', o', none⟩ : Addr) = ⟨b, o, none⟩
    · rw [e] at hs ⊢
      rw [World.cell?_setCell_same' _ _ _ hs]; rfl
    · rw [World.cell?_setCell_other _ _ _ _ (fun e2 => e (by first | exact e2 | exact e2.symm))]; exact hs
theorem GC.toT (h : GC base C A B) (hA : A.heap.size ≤ base) : KeptT (fun q => ∃ o, C q o) A B :=
  ⟨h.os, h.tape, h.output, h.size, fun k hk hn => h.block k (by omega) hk (fun o ho => hn ⟨o, ho⟩)⟩
theorem GC.drew (A : World) : GC base C A { A with drawn := A.drawn + 1 } := Kept.toG (Kept.refl A).drew
end
end Go.Proofs.Ytkjciobphbcknaa
namespace Go.Proofs.Ytkjciobphbcknaa
open Go.RowKit Go.Sort

theorem PBox.keptT {T : Nat → Prop} {W W' : World} {b : Nat} {v0 v1 v2 : Value} (h : PBox W b v0 v1 v2) (k : KeptT T W W') (hn : ¬ T b) : PBox W' b v0 v1 v2 := by
  obtain ⟨l, h0, h1, h2, z0, z1, z2⟩ := h
  exact ⟨Nat.lt_of_lt_of_le l k.size, (k.cells _ _ l hn).trans h0, (k.cells _ _ l hn).trans h1, (k.cells _ _ l hn).trans h2, (k.frozens _ _ l hn).trans z0, (k.frozens _ _ l hn).trans z1, (k.frozens _ _ l hn).trans z2⟩
theorem lenCells_less : ∀ (L : List Len) (k : Nat) (l : Len), L[k]? = some l → (lenCells L).set (k * 4 + 2) (.int .i64 (lessLen l).lo) = lenCells (L.modify k lessLen)
  | [], k, l, h => by simp at h
  | x :: r, 0, l, h => by simp at h; subst h; rfl
  | x :: r, k + 1, l, h => by
    have ih := lenCells_less r k l (by simpa using h)
    have e : (k + 1) * 4 + 2 = (k * 4 + 2) + 1 + 1 + 1 + 1 := by omega
    rw [e, List.modify_succ_cons]
    show (Value.int .i64 x.a :: Value.int .i64 x.b :: Value.int .i64 x.lo :: Value.int .i64 x.hi :: lenCells r).set _ _ = Value.int .i64 x.a :: Value.int .i64 x.b :: Value.int .i64 x.lo :: Value.int .i64 x.hi :: lenCells (r.modify k lessLen)
    simp only [List.set_cons_succ, ih]
theorem postCells_less : ∀ (L : List Post) (k : Nat) (l : Post), L[k]? = some l → (postCells L).set (k * 4 + 1) (.int .i64 (lessPost l).xhi) = postCells (L.modify k lessPost)
  | [], k, l, h => by simp at h
  | x :: r, 0, l, h => by simp at h; subst h; rfl
  | x :: r, k + 1, l, h => by
    have ih := postCells_less r k l (by simpa using h)
    have e : (k + 1) * 4 + 1 = (k * 4 + 1) + 1 + 1 + 1 + 1 := by omega
    rw [e, List.modify_succ_cons]
    show (Value.int .i64 x.xlo :: Value.int .i64 x.xhi :: Value.int .i64 x.ylo :: Value.int .i64 x.yhi :: postCells r).set _ _ = Value.int .i64 x.xlo :: Value.int .i64 x.xhi :: Value.int .i64 x.ylo :: Value.int .i64 x.yhi :: postCells (r.modify k lessPost)
    simp only [List.set_cons_succ, ih]
theorem OwnsLens.less {w : World} {base g n c : Nat} {L : List Len} (h : OwnsLens w base (.slice (some ⟨g, 0, none⟩) n c) L) {k : Nat} {l : Len} (hk : L[k]? = some l) (hn : n = L.length) :
    OwnsLens (w.setCell ⟨g, k * 4 + 2, none⟩ (.int .i64 (lessLen l).lo)) base (.slice (some ⟨g, 0, none⟩) n c) (L.modify k lessLen) := by
  subst hn
  unfold OwnsLens at *
  rw [← lenCells_less L k l hk, List.length_modify]
  exact (World.ownsRow.stored h _ _).1
theorem OwnsPosts.less {w : World} {base g n c : Nat} {L : List Post} (h : OwnsPosts w base (.slice (some ⟨g, 0, none⟩) n c) L) {k : Nat} {l : Post} (hk : L[k]? = some l) (hn : n = L.length) :
    OwnsPosts (w.setCell ⟨g, k * 4 + 1, none⟩ (.int .i64 (lessPost l).xhi)) base (.slice (some ⟨g, 0, none⟩) n c) (L.modify k lessPost) := by
  subst hn
  unfold OwnsPosts at *
  rw [← postCells_less L k l hk, List.length_modify]
  exact (World.ownsRow.stored h _ _).1
theorem OwnsPosts.setLens {w : World} {base g n c : Nat} {v : Value} {L : List Post} {M : List Len} (h : OwnsPosts w base v L) (k : OwnsLens w base (.slice (some ⟨g, 0, none⟩) n c) M) (o : Nat) (u : Value) : OwnsPosts (w.setCell ⟨g, o, none⟩ u) base v L := by
  obtain ⟨h1, h2 | ⟨g1, cap, cur, a, b, hg, r⟩⟩ := h
  · exact ⟨h1, .inl h2⟩
  · refine ⟨h1, .inr ⟨g1, cap, cur, a, b, (Below.heap_setCell _ _ _ _ ?_).trans hg, r⟩⟩
    rintro rfl
    obtain ⟨_, ⟨k2, _⟩ | ⟨g2, cap2, cur2, a2, _, hg2, _⟩⟩ := k
    · simp at k2
    · simp only [Value.slice.injEq, Option.some.injEq, Addr.mk.injEq, and_true] at a2
      obtain ⟨rfl, _⟩ := a2
      rw [hg] at hg2
      cases hg2
theorem OwnsLens.setPosts {w : World} {base g n c : Nat} {v : Value} {L : List Len} {M : List Post} (h : OwnsLens w base v L) (k : OwnsPosts w base (.slice (some ⟨g, 0, none⟩) n c) M) (o : Nat) (u : Value) : OwnsLens (w.setCell ⟨g, o, none⟩ u) base v L := by
  obtain ⟨h1, h2 | ⟨g1, cap, cur, a, b, hg, r⟩⟩ := h
  · exact ⟨h1, .inl h2⟩
  · refine ⟨h1, .inr ⟨g1, cap, cur, a, b, (Below.heap_setCell _ _ _ _ ?_).trans hg, r⟩⟩
    rintro rfl
    obtain ⟨_, ⟨k2, _⟩ | ⟨g2, cap2, cur2, a2, _, hg2, _⟩⟩ := k
    · simp at k2
    · simp only [Value.slice.injEq, Option.some.injEq, Addr.mk.injEq, and_true] at a2
      obtain ⟨rfl, _⟩ := a2
      rw [hg] at hg2
      cases hg2
theorem PBox.setFar {W : World} {b : Nat} {v0 v1 v2 : Value} (h : PBox W b v0 v1 v2) {g : Nat} (o : Nat) (u : Value) (hn : b ≠ g) : PBox (W.setCell ⟨g, o, none⟩ u) b v0 v1 v2 :=
  h.keptT (keptT_setCell W g o u) hn
theorem KeptT.setAbove {T : Nat → Prop} {A B : World} (h : KeptT T A B) {g : Nat} (o : Nat) (u : Value) (hg : A.heap.size ≤ g) : KeptT T A (B.setCell ⟨g, o, none⟩ u) :=
  ⟨h.os, h.tape, h.output, by simpa using h.size, fun k hk hn => (Below.heap_setCell _ _ _ _ (show k ≠ g by omega)).trans (h.block k hk hn)⟩
theorem PostsIn.keptT {T : Nat → Prop} {W W' : World} {pa : Option Addr} {L : List Post} (h : PostsIn W pa L) (k : KeptT T W W') (hn : ∀ a, pa = some a → L ≠ [] → ¬ T a.block) : PostsIn W' pa L := by
  intro i q hi
  obtain ⟨b, o, rfl, hl, c0, c1, c2, c3⟩ := h i q hi
  have hne : ¬ T b := hn _ rfl (by intro e; rw [e] at hi; simp at hi)
  exact ⟨b, o, rfl, Nat.lt_of_lt_of_le hl k.size, (k.cells _ _ hl hne).trans c0, (k.cells _ _ hl hne).trans c1, (k.cells _ _ hl hne).trans c2, (k.cells _ _ hl hne).trans c3⟩
/-- What is told with narrower pegs, beside what is told with the others. -/
structure Told (q p : PegsD) (i j k : Int) : Prop where
  pe : errOf (movedR p) = 0
  qe : errOf (movedR q) = 0
  wh : errOf (whereR q i) = errOf (whereR p i)
  whs : errOf (whereR p i) = 0 → spanIn (valOf ((0, 0), (0, 0)) (whereR q i)).1 (valOf ((0, 0), (0, 0)) (whereR p i)).1 ∧ spanIn (valOf ((0, 0), (0, 0)) (whereR q i)).2 (valOf ((0, 0), (0, 0)) (whereR p i)).2
  ap : errOf (apartR q i j) = errOf (apartR p i j)
  aps : errOf (apartR p i j) = 0 → spanIn (valOf (0, 0) (apartR q i j)) (valOf (0, 0) (apartR p i j))
  ar : errOf (areaR q i j k) = errOf (areaR p i j k)
  ars : errOf (areaR p i j k) = 0 → spanIn (valOf (0, 0) (areaR q i j k)) (valOf (0, 0) (areaR p i j k))
  pl : errOf (placesR q i) = errOf (placesR p i)
  pls : valOf 0 (placesR q i) ≤ valOf 0 (placesR p i)
theorem told {p q : PegsD} (hp : validB p = true) (hq : validB q = true) (hs : Sub q p) (hne : truthsL q ≠ []) (i j k : Int) : Told q p i j k := by
  obtain ⟨S, b, h1, _⟩ := movedR_spec hp (sub_some hp hq hs hne)
  obtain ⟨S', b', h1', _⟩ := movedR_spec hq hne
  have two : ¬ ((2 : Int) = 0) := by decide
  refine ⟨by rw [h1]; rfl, by rw [h1']; rfl, ?_, ?_, ?_, ?_, ?_, ?_, ?_, ?_⟩
  · rcases sub_where hp hq hs hne i with ⟨a, b⟩ | ⟨x, y, u, v, a, b, c, d⟩ <;> rw [a, b] <;> rfl
  · rcases sub_where hp hq hs hne i with ⟨a, b⟩ | ⟨x, y, u, v, a, b, c, d⟩ <;> rw [a, b]
    · exact fun h => absurd h two
    · exact fun _ => ⟨c, d⟩
  · rcases sub_apart hp hq hs hne i j with ⟨a, b⟩ | ⟨x, y, a, b, c⟩ <;> rw [a, b] <;> rfl
  · rcases sub_apart hp hq hs hne i j with ⟨a, b⟩ | ⟨x, y, a, b, c⟩ <;> rw [a, b]
    · exact fun h => absurd h two
    · exact fun _ => c
  · rcases sub_area hp hq hs hne i j k with ⟨a, b⟩ | ⟨x, y, a, b, c⟩ <;> rw [a, b] <;> rfl
  · rcases sub_area hp hq hs hne i j k with ⟨a, b⟩ | ⟨x, y, a, b, c⟩ <;> rw [a, b]
    · exact fun h => absurd h two
    · exact fun _ => c
  · rcases sub_places hp hq hs hne i with ⟨a, b⟩ | ⟨x, y, a, b, c⟩ <;> rw [a, b] <;> rfl
  · rcases sub_places hp hq hs hne i with ⟨a, b⟩ | ⟨x, y, a, b, c⟩ <;> rw [a, b]
    · exact Int.le_refl _
    · exact (by omega : (x : Int) ≤ (y : Int))
theorem movedR_bad {q : PegsD} (h : truthsL q = []) : errOf (movedR q) ≠ 0 := by
  rw [movedR, if_pos h]
  split
  · exact (by decide : ¬ ((1 : Int) = 0))
  · exact (by decide : ¬ ((10 : Int) = 0))
theorem movedR_clash {q : PegsD} (hq : validB q = true) (h : truthsL q = []) : errOf (movedR q) = 10 := by
  rw [movedR, if_neg (by simp [hq]), if_pos h]; rfl
/-- Cells one after the other in block g. -/
def Row (W : World) (g : Nat) (vs : List Value) : Prop := g < W.heap.size ∧ ∀ n v, vs[n]? = some v → W.cell? ⟨g, n, none⟩ = some v
theorem Row.kept {W W' : World} {g : Nat} {vs : List Value} (h : Row W g vs) (k : Kept W W') : Row W' g vs :=
  ⟨k.lt h.1, fun n v hv => (k.cells _ _ h.1).trans (h.2 n v hv)⟩
theorem row_new (W : World) (vs : List Value) (ty : TypeId) : Row (W.alloc (Obj.cells vs.toArray ty)) W.heap.size vs :=
  ⟨by simp, fun n v hv => by simp [go_sem, hv]⟩
/-- What is known of the n-th of the three pegs. -/
structure Third (p : PegsD) (W : World) (vs : List Value) (n : Nat) (q : PegsD) (qa ql : Option Addr) (qc qd : Nat) : Prop where
  v0 : vs[n * 3]? = some (.int .i64 q.side)
  v1 : vs[n * 3 + 1]? = some (.slice qa q.ps.length qc)
  v2 : vs[n * 3 + 2]? = some (.slice ql q.ls.length qd)
  mem : PegsIn W q qa ql
  m1 : q.ps.length ≤ 10
  m2 : q.ls.length ≤ 10
  sub : Sub q p
  tru : n < 2 → ∀ t m, IsTruth q t m → IsTruth p t m
theorem andnot_all : ∀ S' : Fin 16, ∀ S : Fin 16, S'.val &&& S.val = S'.val → bits BinOp.andNot IntKind.i64 (S'.val : Int) (S.val : Int) = 0 := by decide
theorem bits_andnot {S S' : Nat} (h1 : S < 16) (h2 : S' < 16) (h : S' &&& S = S') : bits BinOp.andNot IntKind.i64 (S' : Int) (S : Int) = 0 := andnot_all ⟨S', h2⟩ ⟨S, h1⟩ h
/-- 'in': one span lies in another one. -/
theorem in40_any (a b c d : Int) (w : World) : Calls Try.prog 40 #[.agg #[.int .i64 a, .int .i64 b], .agg #[.int .i64 c, .int .i64 d]] w fun e w' => e = .returned (.bool (decide (c ≤ a) && decide (b ≤ d))) ∧ Kept w w' := by
  go_enter Try.func40, Try.ntmps40
  go_wp2
  · refine bodyPost_ret (v := .bool (decide (c ≤ a) && decide (b ≤ d))) (by simp [results, Try.results40, go_sem, *]) rfl ?_
    exact ⟨rfl, ((Kept.refl _).alloc _).alloc _⟩
  · have hf : decide (c ≤ a) = false := decide_eq_false (by omega)
    refine bodyPost_ret (v := .bool (decide (c ≤ a) && decide (b ≤ d))) (by rw [hf]; simp [results, Try.results40, go_sem]) rfl ?_
    exact ⟨rfl, ((Kept.refl _).alloc _).alloc _⟩
end Go.Proofs.Ytkjciobphbcknaa
