/- Furrow: arguments as data: numbers to draw from. -/
import Derived.Test.YtjdeplehhmhpcaaGC
import Derived.Test.YtjdeplehhmhpcaaGO
import Derived.Test.YtjdeplehhmhpcaaLaw
namespace Go.Proofs.Ytjdeplehhmhpcaa

open Go.ChangeShapes Go.WideShapes Go.ChangeAt Go.RowKit Go.Joins Go.Deep
theorem under45 : Try.prog.underlying 45 = some (.slice 102) := by kernel_rfl
theorem under102 : Try.prog.underlying 102 = some (.int .u16) := by kernel_rfl
theorem cellsOf102 : Try.prog.cellsOf 102 = 1 := by kernel_rfl
section
variable {H : Type} {enc : TypeId × Value → H} {w : World} {base : Nat} {held : Bool}
set_option maxRecDepth 100000 in
theorem open_draws {r : Reach} {b0 : Nat} {v : Value} {d : DataW H} {ps : List MemPlace} (hv : Value.okWide Try.prog w r b0 45 v) (h : DataW.Trod enc Try.prog w base (fun _ => true) held 45 v d ps) :
    ∃ (pa : Option Addr) (n cap : Nat), v = .slice pa n cap ∧ (0 < n → ∃ pb po l, pa = some ⟨pb, po, none⟩ ∧ n = l.length ∧ U16At w pb po l) := by
  obtain ⟨pa, len, cap, rfl⟩ := okWide_slice under45 hv
  obtain ⟨fuel, hf⟩ := h
  refine ⟨pa, len, cap, rfl, fun h0 => ?_⟩
  rcases open_slice1 under45 cellsOf102 hf with ⟨e, _⟩ | ⟨a, l, c, m, n, V, D, Pl, e, _, hl, hm, hmm, _, hx⟩
  · simp [Value.cells] at e; omega
  · simp [Value.cells] at e
    obtain ⟨rfl, rfl, rfl⟩ := e
    have hmc : m = cap := by simpa using hmm
    subst hmc
    have hs : a.spot = none := by
      have h1 := (hx 0 (by omega)).1
      rw [add_zero'] at h1
      obtain ⟨b, o, s⟩ := a
      cases s with
      | none => rfl
      | some q => exfalso; simp only [World.cell?] at h1; split at h1 <;> simp at h1
    obtain ⟨b, o, s⟩ := a
    simp only at hs
    subst hs
    unfold maxLen at hm
    obtain ⟨xs, hxl, hxR⟩ := listOf (α := Int) len (fun i x => (0 ≤ x ∧ x ≤ 65535) ∧ w.cell? ⟨b, o + i, none⟩ = some (.int .u16 x)) (fun i hi => by
      obtain ⟨h1, h2⟩ := hx i (by omega)
      obtain ⟨x, e, _, hw⟩ := DataW.trod_int under102 h2
      rw [add_none] at h1
      simp only [List.cons.injEq, and_true] at e
      rw [e] at h1
      simp only [Lit.wf, Bool.and_eq_true, decide_eq_true_eq] at hw
      refine ⟨x, ⟨?_, ?_⟩, h1⟩
      · have := hw.1; exact this
      · have := hw.2; exact this)
    exact ⟨b, o, xs, rfl, hxl.symm, ⟨hxR, by omega, by omega⟩⟩
end
end Go.Proofs.Ytjdeplehhmhpcaa
