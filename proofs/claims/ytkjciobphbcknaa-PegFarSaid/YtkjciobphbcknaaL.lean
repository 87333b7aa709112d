/- A range over a function whose iterator writes cells of its own between the rounds: a law of our own. -/
import Derived.Test.YtkjciobphbcknaaK
import Derived.RangeFuncNested
import Derived.RangeFuncBound
import Derived.RangeFuncCalls
import Derived.RangeFuncLeaves
import Derived.Shelf.Abstract
import Derived.Shelf.RegionOpen
import Derived.OwnWalkIn
import Derived.TacticsInMore
import Derived.LoopNIn
import Derived.LoopIn
namespace Go.Proofs.Ytkjciobphbcknaa
open Go.RowKit

/-- Nothing of what was there has turned but blocks of T. -/
structure KeptT (T : Nat → Prop) (W W' : World) : Prop where
  os : W'.os = W.os
  tape : W'.tape = W.tape
  output : W'.output = W.output
  size : W.heap.size ≤ W'.heap.size
  block : ∀ k, k < W.heap.size → ¬ T k → W'.heap[k]? = W.heap[k]?
section
variable {T : Nat → Prop} {A B C : World}
theorem KeptT.refl (A : World) : KeptT T A A := ⟨rfl, rfl, rfl, Nat.le_refl _, fun _ _ _ => rfl⟩
theorem KeptT.trans (h : KeptT T A B) (k : KeptT T B C) : KeptT T A C :=
  ⟨k.os.trans h.os, k.tape.trans h.tape, k.output.trans h.output, Nat.le_trans h.size k.size, fun i hi hn => (k.block i (Nat.lt_of_lt_of_le hi h.size) hn).trans (h.block i hi hn)⟩
theorem Kept.toT (h : Kept A B) (T : Nat → Prop) : KeptT T A B := ⟨Below.os h, Below.tape h, Below.output h, Below.size h, fun k hk _ => Below.block h k hk⟩
theorem KeptT.cells (h : KeptT T A B) (b o : Nat) (hb : b < A.heap.size) (hn : ¬ T b) : B.cell? ⟨b, o, none⟩ = A.cell? ⟨b, o, none⟩ := World.cell?_of_block (w := A) (h.block b hb hn)
theorem KeptT.frozens (h : KeptT T A B) (b o : Nat) (hb : b < A.heap.size) (hn : ¬ T b) : B.frozen? ⟨b, o, none⟩ = A.frozen? ⟨b, o, none⟩ := World.frozen?_of_block (w := A) (h.block b hb hn)
end
/-- It speaks of what lies below block B alone. -/
def Stable (B : Nat) (J : World → Prop) : Prop := ∀ W W', J W → Below B W W' → J W'

/-- An iterator that gives xs, one by one, whatever the rounds do to the blocks of T. -/
def Iter (P : Program) (g : Nat) (lb : Array Value) {α : Type} (encs : α → Array Value) (xs : List α) (T : Nat → Prop) (w : World) : Prop :=
  ∀ (l : Nat) (J : List α → World → Prop) (Jx : World → Prop) (W : World), KeptT T w W → (∀ pre, Stable W.heap.size (J pre)) → Stable W.heap.size Jx →
    (∀ pre x suf W1, xs = pre ++ x :: suf → J pre W1 → YieldAt Fence.wide 0 P l (encs x) W1 fun e W' =>
      (e = .returned (.bool true) ∧ J (pre ++ [x]) W' ∧ KeptT T W1 W') ∨ (e = .returned (.bool false) ∧ Jx W')) →
    J [] W → Calls P g (#[.func (.yield l) #[] #[]] ++ lb) W fun e W' => (∃ v, e = .returned v) ∧ (J xs W' ∨ Jx W')

/-- How a round's body may be left. -/
def RoundEnds (T : Nat → Prop) (Inext : World → Prop) (Ix : Code → World → Prop) (W : World) : Exit → Act → World → Prop
  | .normal, _, W' => KeptT T W W' ∧ Inext W'
  | .exit id, _, W' => KeptT T W W' ∧ Ix (.exit id) W'
  | .ret, _, W' => KeptT T W W' ∧ Ix .ret W'
  | _, _, _ => False

theorem below_put (W : World) (l : Nat) (o : Obj) {B : Nat} (h : B ≤ l) : Below B W (W.putObj l o) :=
  ⟨rfl, rfl, rfl, by simp, fun k hk => World.putObj_heap_other (by omega)⟩
theorem below_alloc2 (w : World) (o o' : Obj) : Below w.heap.size w ((w.alloc o).alloc o') := ((Kept.refl w).alloc o).alloc o'

variable {P : Program} {α : Type} {encs : α → Array Value} {xs : List α} {T : Nat → Prop}
theorem range_law {n : Nat} {g : Operand} {ps : Array Tmp} {assign body : Code} {Q : Exit → Act → World → Prop} {a : Act} {w w0 : World} {gf : Nat} {lb : Array Value}
    (hg : a.eval g = .func (.func gf) #[] lb) (eg : ∀ args w, (callFunc gf args).run P w = .ok (.enter gf args) w) (hseq : Iter P gf lb encs xs T w0) (hw0 : KeptT T w0 w) (hps : ∀ x, (encs x).size = ps.size)
    (hT : ∀ k, T k → k < w.heap.size) (I : List α → World → Prop) (Ix : Code → World → Prop) (hI : ∀ pre, Stable w.heap.size (I pre)) (hIx : ∀ c, Stable w.heap.size (Ix c)) (h0 : I [] w)
    (Ax : α → Act → World → Prop) (hAx : ∀ x a' W l r o, Ax x a' W → W.heap[l]? = some (.loop r) → Ax x a' (W.putObj l o))
    (hassign : ∀ (l : Nat) (pre : List α) (x : α) (W : World) (K : Act → World → Prop), I pre W → w.heap.size + 1 < W.heap.size → (∀ a' W', KeptT T W W' → I pre W' → Ax x a' W' → K a' W') →
      assign.wpIn (Fence.wide.inRound l) 0 P (Exit.then K (fun _ _ _ => False)) { tmps := (ps.zip (encs x)).foldl (fun t (p, v) => t.setIfInBounds p v) a.tmps, defers := [] } W)
    (hbody : ∀ (l : Nat) (pre : List α) (x : α) (suf : List α) (a' : Act) (W : World), xs = pre ++ x :: suf → w.heap.size + 1 < W.heap.size → I pre W → Ax x a' W →
      body.wpIn (Fence.wide.inRound l) 0 P (RoundEnds T (I (pre ++ [x])) Ix W) a' W)
    (hdone : ∀ (D : Nat) (W : World), w.heap.size ≤ D → I xs W → W.heap[D]? = some (.deferred (some [])) → Q .normal { a with defers := { target := .collected D, args := #[] } :: a.defers } W)
    (hstop : ∀ (D : Nat) (c : Code) (W : World), w.heap.size ≤ D → Ix c W → W.heap[D]? = some (.deferred (some [])) → c.wpIn Fence.wide n P Q { a with defers := { target := .collected D, args := #[] } :: a.defers } W) :
    (Code.rangeFunc g ps assign body).wpIn Fence.wide n P Q a w := by
  refine wpIn_rangeFunc fun fn _ => ?_
  obtain ⟨rec, hrec⟩ : ∃ rec : LoopState → Option Code → Loop, rec = fun st pe => { state := st, pending := pe, fn, tmps := a.tmps, params := ps, assign, body, defers := w.heap.size } := ⟨_, rfl⟩
  obtain ⟨W1, hW1⟩ : ∃ W1, W1 = (w.alloc (.deferred (some []))).alloc (.loop (rec .ready none)) := ⟨_, rfl⟩
  obtain ⟨l, hl⟩ : ∃ l, l = w.heap.size + 1 := ⟨_, rfl⟩
  have hs1 : W1.heap.size = w.heap.size + 2 := by rw [hW1]; simp
  have r1 : W1.heap[l]? = some (.loop (rec .ready none)) := by
    rw [hW1, hl]; have := World.alloc_heap_new (w.alloc (.deferred (some []))) (.loop (rec .ready none)); rwa [World.size_alloc] at this
  have d1 : W1.heap[w.heap.size]? = some (.deferred (some [])) := by
    rw [hW1]; exact (Below.heap_alloc _ _ _ (by simp)).trans (World.alloc_heap_new w _)
  have b1 : Below w.heap.size w W1 := by rw [hW1]; exact below_alloc2 _ _ _
  have hnl : ¬ T l := fun h => by have := hT _ h; omega
  have hnd : ¬ T w.heap.size := fun h => by have := hT _ h; omega
  refine ⟨l, [{ target := .collected w.heap.size, args := #[] }], W1, { target := .fn (.func gf) lb, args := #[.func (.yield l) #[] #[]] }, W1, gf, #[.func (.yield l) #[] #[]] ++ lb, W1, ?_, ?_, fun _ _ => trivial, ?_, fun h => by simp [Fence.wide] at h, ?_⟩
  · rw [hW1, hl, hrec]; exact run_enterLoop_outer _ _ _ _ _
  · simp only [resolve, hg]
    simp [go_sem]
  · simp [invoke, go_sem, eg]
  · refine callsIn_wide.2 ?_
    refine (hseq l (fun pre W => I pre W ∧ W.heap[l]? = some (.loop (rec .ready none)) ∧ W.heap[w.heap.size]? = some (.deferred (some [])))
      (fun W => ∃ c, Ix c W ∧ W.heap[l]? = some (.loop (rec .done (some c))) ∧ W.heap[w.heap.size]? = some (.deferred (some []))) W1 (hw0.trans (Kept.toT b1 T)) ?_ ?_ ?_ ⟨hI _ _ _ h0 b1, r1, d1⟩).mono ?_
    · rintro pre A B ⟨h1, h2, h3⟩ hb
      exact ⟨hI _ _ _ h1 (hb.mono (by omega)), (hb.block _ (by omega)).trans h2, (hb.block _ (by omega)).trans h3⟩
    · rintro A B ⟨c, h1, h2, h3⟩ hb
      exact ⟨c, hIx _ _ _ h1 (hb.mono (by omega)), (hb.block _ (by omega)).trans h2, (hb.block _ (by omega)).trans h3⟩
    · rintro pre x suf W hx ⟨hi, hr, hd⟩
      have hlt := (Array.getElem?_eq_some_iff.1 hr).1
      have hy := run_yield (P := P) (args := encs x) hr (by rw [hrec]; exact hps x)
      rw [hrec] at hy
      refine ⟨fn, _, assign, body, hy, roundIn_of_wpIn trivial (hassign l pre x W _ hi (by omega) ?_)⟩
      intro a' Wa hka hia hax
      have hra := (hka.block _ hlt hnl).trans hr
      have hda := (hka.block _ (Array.getElem?_eq_some_iff.1 hd).1 hnd).trans hd
      have hlta := (Array.getElem?_eq_some_iff.1 hra).1
      refine ⟨_, run_beginRound hra (by rw [hrec]), ?_⟩
      generalize hWb : Wa.putObj l (.loop { rec .ready none with state := .busy }) = Wb
      have bb : Below w.heap.size Wa Wb := by rw [← hWb]; exact below_put _ _ _ (by omega)
      have hrb : Wb.heap[l]? = some (.loop { rec .ready none with state := .busy }) := by rw [← hWb]; exact World.putObj_heap_same hlta
      have hob : ∀ k, k ≠ l → Wb.heap[k]? = Wa.heap[k]? := fun k hk => by rw [← hWb]; exact World.putObj_heap_other hk
      have hsb : Wb.heap.size = Wa.heap.size := by rw [← hWb]; simp
      refine wpIn_mono (hbody l pre x suf a' Wb hx (by omega) (hI _ _ _ hia bb) (by rw [← hWb]; exact hAx _ _ _ _ _ _ hax hra)) ?_
      have fin : ∀ (jump : Option Code) (W3 : World), KeptT T Wb W3 →
          (Instr.endRound l jump).run P W3 = .ok (.bool jump.isNone) (W3.putObj l (.loop (rec (if jump.isNone then .ready else .done) jump))) ∧
          (W3.putObj l (.loop (rec (if jump.isNone then .ready else .done) jump))).heap[l]? = some (.loop (rec (if jump.isNone then .ready else .done) jump)) ∧
          (W3.putObj l (.loop (rec (if jump.isNone then .ready else .done) jump))).heap[w.heap.size]? = some (.deferred (some [])) := fun jump W3 hk3 => by
        have hl3 := (hk3.block _ (by omega) hnl).trans hrb
        have hd3 : W3.heap[w.heap.size]? = some (.deferred (some [])) := (hk3.block _ (by have := (Array.getElem?_eq_some_iff.1 hda).1; omega) hnd).trans ((hob _ (by omega)).trans hda)
        have := run_endRound (P := P) jump hl3
        rw [hrec] at this ⊢
        exact ⟨this, World.putObj_heap_same (Array.getElem?_eq_some_iff.1 hl3).1, (World.putObj_heap_other (by omega)).trans hd3⟩
      rintro e a3 W3 hp
      cases e with
      | normal =>
        obtain ⟨hk3, hi3⟩ := hp
        obtain ⟨q1, q2, q3⟩ := fin none W3 hk3
        refine ⟨_, _, q1, .inl ⟨rfl, ⟨hI _ _ _ hi3 (below_put _ _ _ (by omega)), q2, q3⟩, ?_⟩⟩
        refine ⟨hk3.os.trans (bb.os.trans hka.os), hk3.tape.trans (bb.tape.trans hka.tape), hk3.output.trans (bb.output.trans hka.output), ?_, fun k hk hn => ?_⟩
        · have := hk3.size; have := hka.size; simp; omega
        · by_cases hkl : k = l
          · subst hkl; exact q2.trans hr.symm
          · have := hka.size
            exact (World.putObj_heap_other hkl).trans ((hk3.block k (by omega) hn).trans ((hob k hkl).trans (hka.block k hk hn)))
      | ret =>
        obtain ⟨hk3, hi3⟩ := hp
        obtain ⟨q1, q2, q3⟩ := fin (some .ret) W3 hk3
        exact ⟨_, _, q1, .inr ⟨rfl, .ret, hIx _ _ _ hi3 (below_put _ _ _ (by omega)), q2, q3⟩⟩
      | exit id =>
        obtain ⟨hk3, hi3⟩ := hp
        obtain ⟨q1, q2, q3⟩ := fin (some (.exit id)) W3 hk3
        exact ⟨_, _, q1, .inr ⟨rfl, .exit id, hIx _ _ _ hi3 (below_put _ _ _ (by omega)), q2, q3⟩⟩
      | goto t => exact hp.elim
      | panic ch => exact hp.elim
      | outgrown => exact hp.elim
    · rintro e W2 ⟨⟨v, rfl⟩, (⟨hi, h2, h3⟩ | ⟨c, hi, h2, h3⟩)⟩
      · refine ⟨none, _, by have := run_endLoop (P := P) h2 (by rw [hrec]; simp); rw [hrec] at this; exact this, ?_⟩
        exact hdone _ _ (Nat.le_refl _) (hI _ _ _ hi (below_put _ _ _ (by omega))) ((World.putObj_heap_other (by omega)).trans h3)
      · refine ⟨some c, _, by have := run_endLoop (P := P) h2 (by rw [hrec]; simp); rw [hrec] at this; exact this, ?_⟩
        exact hstop _ c _ (Nat.le_refl _) (hIx _ _ _ hi (below_put _ _ _ (by omega))) ((World.putObj_heap_other (by omega)).trans h3)
end Go.Proofs.Ytkjciobphbcknaa
