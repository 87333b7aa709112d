/- PegTrue returns true, and leaves its argument as it was, whatever numbers it is called with: wherever pegs truly stand, what is told of them holds. No condition. -/
import Derived.Test.YtkjciobphbcknaaTW
import Derived.Test.YtkjciobphbcknaaOpen
namespace Go.Proofs.Ytkjciobphbcknaa.pegTrue
open Go.ChangeShapes Go.WideShapes Go.ChangeAt Go.RowKit Go.Deep

theorem underlying45 : Try.prog.underlying 45 = some (.slice 126) := by kernel_rfl
theorem underlying126 : Try.prog.underlying 126 = some (.int .u16) := by kernel_rfl
theorem cellsOf126 : Try.prog.cellsOf 126 = 1 := by kernel_rfl
section
variable {H : Type} {enc : TypeId × Value → H} {w : World} {base : Nat} {held : Bool}
set_option maxRecDepth 100000 in
theorem open_by {r : Reach} {b0 : Nat} {v : Value} {d : DataW H} {ps : List MemPlace} (hv : Value.okWide Try.prog w r b0 45 v) (h : DataW.Trod enc Try.prog w base (fun _ => true) held 45 v d ps) :
    ∃ (pa : Option Addr) (len cap : Nat), v = .slice pa len cap ∧ (len = 0 ∨ ∃ b o, pa = some ⟨b, o, none⟩ ∧ 0 < len ∧ len ≤ 9223372036854775807 ∧ ByIn w b o len) := by
  obtain ⟨pa, len, cap, rfl⟩ := okWide_slice underlying45 hv
  obtain ⟨fuel, hf⟩ := h
  refine ⟨pa, len, cap, rfl, ?_⟩
  rcases open_slice1 underlying45 cellsOf126 hf with ⟨e, _⟩ | ⟨a, l, c, m, n, V, D, Pl, e, _, hl, hm, hmm, _, hx⟩
  · simp [Value.cells] at e; exact .inl e.2.1
  · simp [Value.cells] at e
    obtain ⟨rfl, rfl, rfl⟩ := e
    by_cases h0 : len = 0
    · exact .inl h0
    · have hmc : m = cap := by simpa using hmm
      subst hmc
      have hs : a.spot = none := by
        have h1 := (hx 0 (by omega)).1
        rw [add_zero'] at h1
        obtain ⟨b, o, s⟩ := a
        cases s with
        | none => rfl
        | some q => exfalso; simp only [World.cell?] at h1; split at h1 <;> simp at h1
      obtain ⟨b, o, s⟩ := a
      simp only at hs
      subst hs
      unfold maxLen at hm
      refine .inr ⟨b, o, rfl, by omega, by omega, fun i hi => ?_⟩
      obtain ⟨h1, h2⟩ := hx i (by omega)
      obtain ⟨x, e, _, hw⟩ := DataW.trod_int underlying126 h2
      rw [add_none] at h1
      simp only [List.cons.injEq, and_true] at e
      rw [e] at h1
      simp only [Lit.wf, Bool.and_eq_true, decide_eq_true_eq] at hw
      refine ⟨x, ?_, ?_, h1⟩
      · have := hw.1; exact this
      · have := hw.2; exact this
end
theorem walk (pa : Option Addr) (len cap : Nat) (w : World) (h : len = 0 ∨ ∃ b o, pa = some ⟨b, o, none⟩ ∧ 0 < len ∧ len ≤ 9223372036854775807 ∧ ByIn w b o len) :
    Calls Try.prog 6 #[.slice pa len cap] w fun e w' => e = .returned (.bool true) ∧ Kept w w' := by
  rcases h with rfl | ⟨b, o, rfl, h0, hm, hby⟩
  · exact true_none pa cap w
  · exact true_any len cap b o h0 hm w hby

theorem own : ownKnob Try.prog.godebug = none := by kernel_rfl
theorem laidOut : laidOutB Try.prog = true := by kernel_rfl

set_option maxRecDepth 100000 in
theorem lifted (os : Os) (started : os.Started) (H : Type) (enc : TypeId × Value → H) :
    ReturnsInHanded {} Try.checked os 6 .any (Rows.pegTrueSpec.pre6 enc Try.prog Try.f6 Rows.pegTrueRow.domain false) (Rows.pegTrueSpec.post enc Try.prog Try.f6 false true false false) := by
  refine returnsInHanded_of_change (C := Try.checked) own started (by kernel_rfl) Try.func6
    (ChangeSpec.witness6 (enc := enc) (C := Try.checked) false ⟨#[], #[.slice none 0 0], []⟩ 8 (by kernel_rfl) (by kernel_rfl) (by kernel_rfl) (by kernel_rfl)) ?_
  intro W base args ds gs before hval0 hW _ _
  have hval : ∀ (j : Nat) t v, Try.f6.params[j]? = some t → args[j]? = some v → Value.okWide Try.prog W .any base t v := hval0
  have hW' := hW
  obtain ⟨q, r, hA0, hV, rfl, _, _⟩ := hW
  have hA : DataW.TrodAll enc Try.prog W 0 (fun _ => true) true Try.f6.params.toList args.toList ds q := hA0
  rw [Try.params6] at hA hval
  obtain ⟨v0, d0, rfl, rfl, h0⟩ := trodAll_one hA
  obtain ⟨pa, len, cap, rfl, hp⟩ := open_by (hval 0 45 v0 rfl rfl) h0
  refine (walk pa len cap W hp).mono fun e W' ⟨he, hk⟩ => ?_
  subst he
  exact ⟨_, rfl, law_post (ts := [45]) laidOut Try.underlying4 rfl (by rw [Try.params6]) (by intro t ht; simp at ht; subst ht; exact ⟨by kernel_rfl, of_decide_eq_true (by kernel_rfl)⟩) rfl hW' (fun h => by subst h; rfl) hk⟩

theorem over : Rows.pegTrueRow.holds Try.pinned (OpenSpec.ofChange Rows.pegTrueSpec) :=
  OpenClaim.holds_of_wide 6 Try.f6 rfl rfl rfl rfl rfl rfl rfl ⟨rfl, rfl, rfl, rfl, rfl⟩ rfl rfl rfl rfl rfl (by kernel_rfl) Try.func6 (by kernel_rfl)
    (of_decide_eq_true (by kernel_rfl)) (by unfold Func.isWrapper; first | (rw [if_pos (by decide +kernel)]; kernel_rfl) | (rw [if_neg (by decide +kernel)]; exact ⟨rfl, rfl⟩))
    (fun os started H enc _ => lifted os started H enc)

theorem proved : Rows.PegTrueSaid := over
end Go.Proofs.Ytkjciobphbcknaa.pegTrue
