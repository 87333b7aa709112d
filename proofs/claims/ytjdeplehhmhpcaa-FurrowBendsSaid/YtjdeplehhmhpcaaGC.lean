/- Furrow: arguments as data. -/
import Derived.Test.YtjdeplehhmhpcaaFW
import Derived.Lib.SmallJoins
import Derived.Deep.Slices
import Derived.ChangeSlices
import Derived.ProofKit
import Derived.OpenShut
import Derived.Carry
namespace Go.Proofs.Ytjdeplehhmhpcaa
open Go.ChangeShapes Go.WideShapes Go.ChangeAt Go.RowKit Go.Joins Go.Deep

theorem cellsOf3 : Try.prog.cellsOf 3 = 1 := by kernel_rfl
theorem cellsOf24 : Try.prog.cellsOf 24 = 3 := by kernel_rfl
theorem cellsOf28 : Try.prog.cellsOf 28 = 2 := by kernel_rfl
theorem add_none (b o k : Nat) : (⟨b, o, none⟩ : Addr).add k = ⟨b, o + k, none⟩ := by
  unfold Addr.add
  split
  · rename_i h; rw [h]; rfl
  · rfl
theorem add_zero' (a : Addr) : a.add 0 = a := by simp [Addr.add]
theorem list2 {α : Type} {l : List α} (h : l.length = 2) : ∃ a b, l = [a, b] := by
  match l, h with
  | [a, b], _ => exact ⟨a, b, rfl⟩
section
variable {H : Type} {enc : TypeId × Value → H} {w : World} {base : Nat} {spare : Nat → Bool} {held : Bool} {fuel : Nat} {x : DataW H × List MemPlace}
set_option maxRecDepth 100000 in
theorem trod_span {cs : List Value} (h : DataW.trod enc Try.prog w base spare held fuel 28 cs = some x) : ∃ a b : Int, cs = [.int .i64 a, .int .i64 b] := by
  obtain ⟨xs, n, _, _, hl, hx, hf⟩ := DataW.trod_struct Try.underlying28 h
  rw [cellsOf28] at hl
  obtain ⟨u, v, rfl⟩ := list2 hl
  · have h0 : DataW.trod enc Try.prog w base spare held n 3 ([u, v].take (Try.prog.cellsOf 3)) = xs[0]? := hf 0 _ rfl
    have h1 : DataW.trod enc Try.prog w base spare held n 3 ([v].take (Try.prog.cellsOf 3)) = xs[1]? := hf 1 _ rfl
    rw [cellsOf3] at h0 h1
    replace h0 : DataW.trod enc Try.prog w base spare held n 3 [u] = xs[0]? := h0
    replace h1 : DataW.trod enc Try.prog w base spare held n 3 [v] = xs[1]? := h1
    obtain ⟨y0, e0⟩ : ∃ y, xs[0]? = some y := ⟨xs[0]'(by rw [hx]; decide), List.getElem?_eq_getElem _⟩
    obtain ⟨y1, e1⟩ : ∃ y, xs[1]? = some y := ⟨xs[1]'(by rw [hx]; decide), List.getElem?_eq_getElem _⟩
    rw [e0] at h0
    rw [e1] at h1
    obtain ⟨a, ea, _⟩ := DataW.trod_int Try.underlying3 h0
    obtain ⟨b, eb, _⟩ := DataW.trod_int Try.underlying3 h1
    simp at ea eb
    exact ⟨a, b, by rw [ea, eb]⟩
/-- A list out of what each number has. -/
theorem listOf {α : Type} (n : Nat) (R : Nat → α → Prop) (h : ∀ i, i < n → ∃ a, R i a) : ∃ l : List α, l.length = n ∧ ∀ i a, l[i]? = some a → R i a := by
  induction n with
  | zero => exact ⟨[], rfl, fun i a h => by simp at h⟩
  | succ n ih =>
    obtain ⟨l, hl, hR⟩ := ih (fun i hi => h i (by omega))
    obtain ⟨a, ha⟩ := h n (by omega)
    refine ⟨l ++ [a], by simp [hl], fun i b hb => ?_⟩
    by_cases hi : i < l.length
    · rw [List.getElem?_append_left hi] at hb; exact hR i b hb
    · rw [List.getElem?_append_right (by omega)] at hb
      have : i - l.length = 0 := by
        have := (List.getElem?_eq_some_iff.1 hb).1
        simp at this; omega
      rw [this] at hb
      simp at hb
      subst hb
      rw [show i = n by omega]; exact ha

theorem cells_spot {a : Addr} {n : Nat} {cs : List Value} (h : w.cells? base (a.add 0) n = some cs) (hn : 0 < n) : a.spot = none := by
  obtain ⟨_, hl, hc⟩ := World.cells?_some h
  have h1 := hc 0 hn
  rw [add_zero', add_zero', List.getElem?_eq_getElem (by omega)] at h1
  obtain ⟨b, o, s⟩ := a
  cases s with
  | none => rfl
  | some q =>
    exfalso
    simp only [World.cell?] at h1
    split at h1 <;> simp at h1
theorem cells_at {b o k n : Nat} {cs : List Value} (h : w.cells? base ((⟨b, o, none⟩ : Addr).add k) n = some cs) (i : Nat) (hi : i < n) (v : Value) (hv : cs[i]? = some v) : b < w.heap.size ∧ w.cell? ⟨b, o + k + i, none⟩ = some v := by
  obtain ⟨_, hl, hc⟩ := World.cells?_some h
  have h1 := hc i hi
  rw [hv, add_none, add_none] at h1
  exact ⟨World.block_lt_of_cell? w _ h1, h1⟩

set_option maxRecDepth 100000 in
theorem trod_spans {cs : List Value} (h : DataW.trod enc Try.prog w base (fun _ => true) held fuel 22 cs = some x) : ∃ (pa : Option Addr) (ps : List SpanD) (c : Nat), cs = [.slice pa ps.length c] ∧ SpansAt w pa ps ∧ ps.length ≤ maxLen := by
  rcases open_slice Try.underlying22 h with ⟨rfl, _⟩ | ⟨a, len, cap, m, n, D, Pl, rfl, _, hle, hcap, hm, _, hel⟩
  · exact ⟨none, [], 0, rfl, fun i p h => by simp at h, by simp⟩
  · simp only [if_true] at hm
    have hlm : len ≤ m := by omega
    clear hm
    by_cases h0 : len = 0
    · subst h0
      exact ⟨some a, [], cap, rfl, fun i p h => by simp at h, by simp⟩
    have hs : a.spot = none := by
      obtain ⟨cs', hc, _⟩ := hel 0 (by omega)
      rw [cellsOf28, show 0 * 2 = 0 from rfl] at hc
      exact cells_spot hc (by omega)
    obtain ⟨b, o, s⟩ := a
    simp only at hs
    subst hs
    obtain ⟨l, hl, hR⟩ := listOf (α := SpanD) len (fun i p => b < w.heap.size ∧ ∀ j v, (spanC p)[j]? = some v → w.cell? ⟨b, o + i * 2 + j, none⟩ = some v) (fun i hi => by
        obtain ⟨cs', hc, ht⟩ := hel i (by omega)
        obtain ⟨p0, p1, rfl⟩ := trod_span ht
        refine ⟨⟨p0, p1⟩, ?_⟩
        rw [cellsOf28] at hc
        refine ⟨(cells_at hc 0 (by omega) _ rfl).1, fun j v hj => (cells_at hc j ?_ v hj).2⟩
        have := (List.getElem?_eq_some_iff.1 hj).1
        simpa using this)
    refine ⟨some ⟨b, o, none⟩, l, cap, by rw [hl], fun i r hr => ?_, by rw [hl]; exact Nat.le_trans hle hcap⟩
    rw [List.getElem?_map] at hr
    obtain ⟨p, hp, rfl⟩ := Option.map_eq_some_iff.1 hr
    exact ⟨b, o, rfl, hR i p hp⟩
set_option maxRecDepth 100000 in
theorem open_furrow {r : Reach} {b0 : Nat} {v : Value} {d : DataW H} {ps : List MemPlace} (hv : Value.okWide Try.prog w r b0 24 v) (h : DataW.Trod enc Try.prog w base (fun _ => true) held 24 v d ps) :
    ∃ (f : FurrowD) (oa wa da : Option Addr) (oc wc dc : Nat), v = furrowV f oa wa da oc wc dc ∧ FurrowAt w f oa wa da ∧ (f.offs.length ≤ 9223372036854775807 ∧ f.wids.length ≤ 9223372036854775807 ∧ f.deps.length ≤ 9223372036854775807) := by
  obtain ⟨v0, v1, v2, y0, y1, y2, n, rfl, _, _, h0, h1, h2⟩ := open_agg3 Try.underlying24 (by kernel_rfl) cellsOf24 hv (show DataW.Trod enc Try.prog w base (fun _ => true) held 24 v d ps from h)
  obtain ⟨oa, ol, oc, eo, ho, hom⟩ := trod_spans h0
  obtain ⟨wa, wl, wc, ew, hw, hwm⟩ := trod_spans h1
  obtain ⟨da, dl, dc, ed, hd, hdm⟩ := trod_spans h2
  simp at eo ew ed
  subst eo; subst ew; subst ed
  unfold maxLen at hom hwm hdm
  exact ⟨⟨ol, wl, dl⟩, oa, wa, da, oc, wc, dc, rfl, ⟨ho, hw, hd⟩, hom, hwm, hdm⟩
end
end Go.Proofs.Ytjdeplehhmhpcaa
