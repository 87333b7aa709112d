/- Worlds of a region that makes memory, and stores into some old cells. -/
import Derived.Test.YtkjciobphbcknaaG1
namespace Go.Proofs.Ytkjciobphbcknaa
open Go.RowKit

/-- Below block 'base' nothing has turned but the cells of C. -/
structure GC (base : Nat) (C : Nat → Nat → Prop) (A B : World) : Prop where
  os : B.os = A.os
  tape : B.tape = A.tape
  output : B.output = A.output
  size : A.heap.size ≤ B.heap.size
  cell : ∀ b o, b < base → b < A.heap.size → ¬ C b o → B.cell? ⟨b, o, none⟩ = A.cell? ⟨b, o, none⟩
  frozen : ∀ b o, b < base → b < A.heap.size → B.frozen? ⟨b, o, none⟩ = A.frozen? ⟨b, o, none⟩
  some : ∀ b o, b < base → b < A.heap.size → (A.cell? ⟨b, o, none⟩).isSome = true → (B.cell? ⟨b, o, none⟩).isSome = true
  block : ∀ b, b < base → b < A.heap.size → (∀ o, ¬ C b o) → B.heap[b]? = A.heap[b]?
section
variable {base : Nat} {C : Nat → Nat → Prop} {A B D : World}
theorem GC.refl (A : World) : GC base C A A := ⟨rfl, rfl, rfl, Nat.le_refl _, fun _ _ _ _ _ => rfl, fun _ _ _ _ => rfl, fun _ _ _ _ h => h, fun _ _ _ _ => rfl⟩
theorem GC.trans (h : GC base C A B) (k : GC base C B D) : GC base C A D :=
  ⟨k.os.trans h.os, k.tape.trans h.tape, k.output.trans h.output, Nat.le_trans h.size k.size, fun b o hb hl hn => (k.cell b o hb (Nat.lt_of_lt_of_le hl h.size) hn).trans (h.cell b o hb hl hn),
    fun b o hb hl => (k.frozen b o hb (Nat.lt_of_lt_of_le hl h.size)).trans (h.frozen b o hb hl), fun b o hb hl hs => k.some b o hb (Nat.lt_of_lt_of_le hl h.size) (h.some b o hb hl hs),
    fun b hb hl hn => (k.block b hb (Nat.lt_of_lt_of_le hl h.size) hn).trans (h.block b hb hl hn)⟩
theorem Kept.toG (h : Kept A B) : GC base C A B :=
  ⟨Below.os h, Below.tape h, Below.output h, Below.size h, fun b o _ hl _ => h.cells b o hl, fun b o _ hl => h.frozens b o hl, fun b o _ hl hs => by rw [h.cells b o hl]; exact hs, fun b _ hl _ => Below.block h b hl⟩
theorem GC.ofGrown {r : Option Nat} (h : A.grownBy B r) (hr : ∀ k, r = .some k → base ≤ k) : GC base C A B := by
  have hb : ∀ b, b < base → b < A.heap.size → B.heap[b]? = A.heap[b]? := fun b hb hl => h.block b hl (fun e => by have := hr b e.symm; omega)
  exact ⟨h.os, h.tape, h.output, h.size, fun b o h1 h2 _ => World.cell?_of_block (w := A) (hb b h1 h2), fun b o h1 h2 => World.frozen?_of_block (w := A) (hb b h1 h2),
    fun b o h1 h2 hs => by rw [World.cell?_of_block (w := A) (a := ⟨b, o, none⟩) (hb b h1 h2)]; exact hs, fun b h1 h2 _ => hb b h1 h2⟩
theorem GC.ofSet {b o : Nat} (hC : C b o) (v : Value) : GC base C A (A.setCell ⟨b, o, none⟩ v) := by
  refine ⟨rfl, rfl, rfl, by simp, fun b' o' _ _ hn => ?_, fun b' o' _ _ => World.frozen?_setCell _ _ _ _, fun b' o' _ _ hs => ?_, fun b' _ _ hn => Below.heap_setCell _ _ _ _ (fun e => by subst e; exact hn o hC)⟩
  · rw [World.cell?_setCell_other _ _ _ _ (by intro e; cases e; exact hn hC)]
  · by_cases e : (⟨b', o', none⟩ : Addr) = ⟨b, o, none⟩
    · rw [e] at hs ⊢
      rw [World.cell?_setCell_same' _ _ _ hs]; rfl
    · rw [World.cell?_setCell_other _ _ _ _ (fun e2 => e (by first | exact e2 | exact e2.symm))]; exact hs
theorem GC.toT (h : GC base C A B) (hA : A.heap.size ≤ base) : KeptT (fun q => ∃ o, C q o) A B :=
  ⟨h.os, h.tape, h.output, h.size, fun k hk hn => h.block k (by omega) hk (fun o ho => hn ⟨o, ho⟩)⟩
theorem GC.drew (A : World) : GC base C A { A with drawn := A.drawn + 1 } := Kept.toG (Kept.refl A).drew
end
end Go.Proofs.Ytkjciobphbcknaa
