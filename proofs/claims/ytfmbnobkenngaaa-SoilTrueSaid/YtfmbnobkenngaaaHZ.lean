/- Soil: arguments as data: numbers to draw from. -/
import Derived.Test.YtfmbnobkenngaaaHX
import Derived.Test.YtfmbnobkenngaaaLaw
namespace Go.Proofs.Ytfmbnobkenngaaa

open Go.ChangeShapes Go.WideShapes Go.ChangeAt Go.RowKit Go.Joins Go.Deep
theorem under42 : Try.prog.underlying 42 = some (.slice 113) := by kernel_rfl
theorem under113 : Try.prog.underlying 113 = some (.int .u16) := by kernel_rfl
theorem cellsOf113 : Try.prog.cellsOf 113 = 1 := by kernel_rfl
theorem i16_wf {n : Int} (h : (Lit.int .i16 n).wf = true) : -32768 ≤ n ∧ n ≤ 32767 := by
  simp [Lit.wf, IntKind.min, IntKind.max, IntKind.bits, IntKind.signed] at h
  omega
section
variable {H : Type} {enc : TypeId × Value → H} {w : World} {base : Nat} {held : Bool}
set_option maxRecDepth 100000 in
theorem open_draws {r : Reach} {b0 : Nat} {v : Value} {d : DataW H} {ps : List MemPlace} (hv : Value.okWide Try.prog w r b0 42 v) (h : DataW.Trod enc Try.prog w base (fun _ => true) held 42 v d ps) :
    ∃ (pa : Option Addr) (n cap : Nat), v = .slice pa n cap ∧ (0 < n → ∃ pb po l, pa = some ⟨pb, po, none⟩ ∧ n = l.length ∧ U16At w pb po l) := by
  obtain ⟨pa, len, cap, rfl⟩ := okWide_slice under42 hv
  obtain ⟨fuel, hf⟩ := h
  refine ⟨pa, len, cap, rfl, fun h0 => ?_⟩
  rcases open_slice1 under42 cellsOf113 hf with ⟨e, _⟩ | ⟨a, l, c, m, n, V, D, Pl, e, _, hl, hm, hmm, _, hx⟩
  · simp [Value.cells] at e; omega
  · simp [Value.cells] at e
    obtain ⟨rfl, rfl, rfl⟩ := e
    have hmc : m = cap := by simpa using hmm
    subst hmc
    have hs : a.spot = none := by
      have h1 := (hx 0 (by omega)).1
      rw [add_zero'] at h1
      obtain ⟨b, o, s⟩ := a
      cases s with
      | none => rfl
      | some q => exfalso; simp only [World.cell?] at h1; split at h1 <;> simp at h1
    obtain ⟨b, o, s⟩ := a
    simp only at hs
    subst hs
    unfold maxLen at hm
    obtain ⟨xs, hxl, hxR⟩ := listOf (α := Int) len (fun i x => (0 ≤ x ∧ x ≤ 65535) ∧ w.cell? ⟨b, o + i, none⟩ = some (.int .u16 x)) (fun i hi => by
      obtain ⟨h1, h2⟩ := hx i (by omega)
      obtain ⟨x, e, _, hw⟩ := DataW.trod_int under113 h2
      rw [add_none] at h1
      simp only [List.cons.injEq, and_true] at e
      rw [e] at h1
      simp only [Lit.wf, Bool.and_eq_true, decide_eq_true_eq] at hw
      refine ⟨x, ⟨?_, ?_⟩, h1⟩
      · have := hw.1; exact this
      · have := hw.2; exact this)
    exact ⟨b, o, xs, rfl, hxl.symm, ⟨hxR, by omega, by omega⟩⟩
end
end Go.Proofs.Ytfmbnobkenngaaa
