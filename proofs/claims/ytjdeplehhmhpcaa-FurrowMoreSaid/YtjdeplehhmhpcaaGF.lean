/- Furrow: arguments as data: small numbers. -/
import Derived.Test.YtjdeplehhmhpcaaGC
import Derived.Test.YtjdeplehhmhpcaaGE
import Derived.Test.YtjdeplehhmhpcaaLaw
namespace Go.Proofs.Ytjdeplehhmhpcaa
open Go.ChangeShapes Go.WideShapes Go.ChangeAt Go.RowKit Go.Joins Go.Deep

theorem under52 : Try.prog.underlying 52 = some (.slice 5) := by kernel_rfl
theorem underU8 : Try.prog.underlying 5 = some (.int .u8) := by kernel_rfl
theorem cellsOfU8 : Try.prog.cellsOf 5 = 1 := by kernel_rfl
section
variable {H : Type} {enc : TypeId × Value → H} {w : World} {base : Nat} {held : Bool}
set_option maxRecDepth 100000 in
theorem open_bytes {r : Reach} {b0 : Nat} {v : Value} {d : DataW H} {ps : List MemPlace} (hv : Value.okWide Try.prog w r b0 52 v) (h : DataW.Trod enc Try.prog w base (fun _ => true) held 52 v d ps) :
    ∃ (pa : Option Addr) (m : List Int) (cap : Nat), v = .slice pa m.length cap ∧ U8At w pa m ∧ m.length ≤ 9223372036854775807 := by
  obtain ⟨pa, len, cap, rfl⟩ := okWide_slice under52 hv
  obtain ⟨fuel, hf⟩ := h
  rcases Nat.eq_zero_or_pos len with rfl | h0
  · exact ⟨pa, [], cap, rfl, ⟨fun i x h => by simp at h⟩, by simp⟩
  rcases open_slice1 under52 cellsOfU8 hf with ⟨e, _⟩ | ⟨a, l, c, m, n, V, D, Pl, e, _, hl, hm, hmm, _, hx⟩
  · simp [Value.cells] at e; omega
  · simp [Value.cells] at e
    obtain ⟨rfl, rfl, rfl⟩ := e
    have hmc : m = cap := by simpa using hmm
    subst hmc
    have hs : a.spot = none := by
      have h1 := (hx 0 (by omega)).1
      rw [add_zero'] at h1
      obtain ⟨b, o, s⟩ := a
      cases s with
      | none => rfl
      | some q => exfalso; simp only [World.cell?] at h1; split at h1 <;> simp at h1
    obtain ⟨b, o, s⟩ := a
    simp only at hs
    subst hs
    unfold maxLen at hm
    obtain ⟨xs, hxl, hxR⟩ := listOf (α := Int) len (fun i x => (0 ≤ x ∧ x ≤ 255) ∧ w.cell? ⟨b, o + i, none⟩ = some (.int .u8 x)) (fun i hi => by
      obtain ⟨h1, h2⟩ := hx i (by omega)
      obtain ⟨x, e, _, hw⟩ := DataW.trod_int underU8 h2
      rw [add_none] at h1
      simp only [List.cons.injEq, and_true] at e
      rw [e] at h1
      simp only [Lit.wf, Bool.and_eq_true, decide_eq_true_eq] at hw
      refine ⟨x, ⟨?_, ?_⟩, h1⟩
      · have := hw.1; exact this
      · have := hw.2; exact this)
    exact ⟨some ⟨b, o, none⟩, xs, m, by rw [hxl], ⟨fun i x hi => ⟨b, o, rfl, World.block_lt_of_cell? w _ (hxR i x hi).2, (hxR i x hi).1, (hxR i x hi).2⟩⟩, by omega⟩
end
end Go.Proofs.Ytjdeplehhmhpcaa
