/- Laws: arguments as data. -/
import Derived.Test.YtkjciobphbcknaaLaw
import Derived.Test.YtkjciobphbcknaaC
import Derived.Lib.SmallJoins
import Derived.Deep.Slices
import Derived.ChangeSlices
namespace Go.Proofs.Ytkjciobphbcknaa
open Go.ChangeShapes Go.WideShapes Go.ChangeAt Go.RowKit Go.Joins Go.Deep

theorem cellsOf3 : Try.prog.cellsOf 3 = 1 := by kernel_rfl
theorem cellsOf25 : Try.prog.cellsOf 25 = 3 := by kernel_rfl
theorem cellsOf32 : Try.prog.cellsOf 32 = 2 := by kernel_rfl
theorem cellsOf56 : Try.prog.cellsOf 56 = 4 := by kernel_rfl
theorem cellsOf65 : Try.prog.cellsOf 65 = 4 := by kernel_rfl
theorem list2 {α : Type} {l : List α} (h : l.length = 2) : ∃ a b, l = [a, b] := by
  match l, h with
  | [a, b], _ => exact ⟨a, b, rfl⟩
theorem list4 {α : Type} {l : List α} (h : l.length = 4) : ∃ a b c d, l = [a, b, c, d] := by
  match l, h with
  | [a, b, c, d], _ => exact ⟨a, b, c, d, rfl⟩
theorem add_none (b o k : Nat) : (⟨b, o, none⟩ : Addr).add k = ⟨b, o + k, none⟩ := by
  unfold Addr.add
  split
  · rename_i h; rw [h]; rfl
  · rfl
theorem add_zero' (a : Addr) : a.add 0 = a := by simp [Addr.add]
section
variable {H : Type} {enc : TypeId × Value → H} {w : World} {base : Nat} {spare : Nat → Bool} {held : Bool} {fuel : Nat} {x : DataW H × List MemPlace}
set_option maxRecDepth 100000 in
theorem trod_span {cs : List Value} (h : DataW.trod enc Try.prog w base spare held fuel 32 cs = some x) : ∃ a b : Int, cs = [.int .i64 a, .int .i64 b] := by
  obtain ⟨xs, n, _, _, hl, hx, hf⟩ := DataW.trod_struct Try.underlying32 h
  rw [cellsOf32] at hl
  obtain ⟨u, v, rfl⟩ := list2 hl
  · have h0 : DataW.trod enc Try.prog w base spare held n 3 ([u, v].take (Try.prog.cellsOf 3)) = xs[0]? := hf 0 _ rfl
    have h1 : DataW.trod enc Try.prog w base spare held n 3 ([v].take (Try.prog.cellsOf 3)) = xs[1]? := hf 1 _ rfl
    rw [cellsOf3] at h0 h1
    replace h0 : DataW.trod enc Try.prog w base spare held n 3 [u] = xs[0]? := h0
    replace h1 : DataW.trod enc Try.prog w base spare held n 3 [v] = xs[1]? := h1
    obtain ⟨y0, e0⟩ : ∃ y, xs[0]? = some y := ⟨xs[0]'(by rw [hx]; decide), List.getElem?_eq_getElem _⟩
    obtain ⟨y1, e1⟩ : ∃ y, xs[1]? = some y := ⟨xs[1]'(by rw [hx]; decide), List.getElem?_eq_getElem _⟩
    rw [e0] at h0
    rw [e1] at h1
    obtain ⟨a, ea, _⟩ := DataW.trod_int Try.underlying3 h0
    obtain ⟨b, eb, _⟩ := DataW.trod_int Try.underlying3 h1
    simp at ea eb
    exact ⟨a, b, by rw [ea, eb]⟩
set_option maxRecDepth 100000 in
theorem trod_post {cs : List Value} (h : DataW.trod enc Try.prog w base spare held fuel 56 cs = some x) : ∃ a b c d : Int, cs = [.int .i64 a, .int .i64 b, .int .i64 c, .int .i64 d] := by
  obtain ⟨xs, n, _, _, hl, hx, hf⟩ := DataW.trod_struct Try.underlying56 h
  rw [cellsOf56] at hl
  obtain ⟨u, v, u', v', rfl⟩ := list4 hl
  · have h0 : DataW.trod enc Try.prog w base spare held n 32 ([u, v, u', v'].take (Try.prog.cellsOf 32)) = xs[0]? := hf 0 _ rfl
    have h1 : DataW.trod enc Try.prog w base spare held n 32 ([u', v'].take (Try.prog.cellsOf 32)) = xs[1]? := hf 1 _ rfl
    rw [cellsOf32] at h0 h1
    replace h0 : DataW.trod enc Try.prog w base spare held n 32 [u, v] = xs[0]? := h0
    replace h1 : DataW.trod enc Try.prog w base spare held n 32 [u', v'] = xs[1]? := h1
    obtain ⟨y0, e0⟩ : ∃ y, xs[0]? = some y := ⟨xs[0]'(by rw [hx]; decide), List.getElem?_eq_getElem _⟩
    obtain ⟨y1, e1⟩ : ∃ y, xs[1]? = some y := ⟨xs[1]'(by rw [hx]; decide), List.getElem?_eq_getElem _⟩
    rw [e0] at h0
    rw [e1] at h1
    obtain ⟨a, b, ea⟩ := trod_span h0
    obtain ⟨c, d, eb⟩ := trod_span h1
    simp at ea eb
    exact ⟨a, b, c, d, by rw [ea.1, ea.2, eb.1, eb.2]⟩
set_option maxRecDepth 100000 in
theorem trod_len {cs : List Value} (h : DataW.trod enc Try.prog w base spare held fuel 65 cs = some x) : ∃ a b c d : Int, cs = [.int .i64 a, .int .i64 b, .int .i64 c, .int .i64 d] := by
  obtain ⟨xs, n, _, _, hl, hx, hf⟩ := DataW.trod_struct Try.underlying65 h
  rw [cellsOf65] at hl
  obtain ⟨u, v, u', v', rfl⟩ := list4 hl
  · have h0 : DataW.trod enc Try.prog w base spare held n 3 ([u, v, u', v'].take (Try.prog.cellsOf 3)) = xs[0]? := hf 0 _ rfl
    have h1 : DataW.trod enc Try.prog w base spare held n 3 ([v, u', v'].take (Try.prog.cellsOf 3)) = xs[1]? := hf 1 _ rfl
    have h2 : DataW.trod enc Try.prog w base spare held n 32 ([u', v'].take (Try.prog.cellsOf 32)) = xs[2]? := hf 2 _ rfl
    rw [cellsOf3] at h0 h1
    rw [cellsOf32] at h2
    replace h0 : DataW.trod enc Try.prog w base spare held n 3 [u] = xs[0]? := h0
    replace h1 : DataW.trod enc Try.prog w base spare held n 3 [v] = xs[1]? := h1
    replace h2 : DataW.trod enc Try.prog w base spare held n 32 [u', v'] = xs[2]? := h2
    obtain ⟨y0, e0⟩ : ∃ y, xs[0]? = some y := ⟨xs[0]'(by rw [hx]; decide), List.getElem?_eq_getElem _⟩
    obtain ⟨y1, e1⟩ : ∃ y, xs[1]? = some y := ⟨xs[1]'(by rw [hx]; decide), List.getElem?_eq_getElem _⟩
    obtain ⟨y2, e2⟩ : ∃ y, xs[2]? = some y := ⟨xs[2]'(by rw [hx]; decide), List.getElem?_eq_getElem _⟩
    rw [e0] at h0
    rw [e1] at h1
    rw [e2] at h2
    obtain ⟨a, ea, _⟩ := DataW.trod_int Try.underlying3 h0
    obtain ⟨b, eb, _⟩ := DataW.trod_int Try.underlying3 h1
    obtain ⟨c, d, ec⟩ := trod_span h2
    simp at ea eb ec
    exact ⟨a, b, c, d, by rw [ea, eb, ec.1, ec.2]⟩

/-- A list out of what each number has. -/
theorem listOf {α : Type} (n : Nat) (R : Nat → α → Prop) (h : ∀ i, i < n → ∃ a, R i a) : ∃ l : List α, l.length = n ∧ ∀ i a, l[i]? = some a → R i a := by
  induction n with
  | zero => exact ⟨[], rfl, fun i a h => by simp at h⟩
  | succ n ih =>
    obtain ⟨l, hl, hR⟩ := ih (fun i hi => h i (by omega))
    obtain ⟨a, ha⟩ := h n (by omega)
    refine ⟨l ++ [a], by simp [hl], fun i b hb => ?_⟩
    by_cases hi : i < l.length
    · rw [List.getElem?_append_left hi] at hb; exact hR i b hb
    · rw [List.getElem?_append_right (by omega)] at hb
      have : i - l.length = 0 := by
        have := (List.getElem?_eq_some_iff.1 hb).1
        simp at this; omega
      rw [this] at hb
      simp at hb
      subst hb
      rw [show i = n by omega]; exact ha

theorem cells_spot {a : Addr} {n : Nat} {cs : List Value} (h : w.cells? base (a.add 0) n = some cs) (hn : 0 < n) : a.spot = none := by
  obtain ⟨_, hl, hc⟩ := World.cells?_some h
  have h1 := hc 0 hn
  rw [add_zero', add_zero', List.getElem?_eq_getElem (by omega)] at h1
  obtain ⟨b, o, s⟩ := a
  cases s with
  | none => rfl
  | some q =>
    exfalso
    simp only [World.cell?] at h1
    split at h1 <;> simp at h1
theorem cells_at {b o k n : Nat} {cs : List Value} (h : w.cells? base ((⟨b, o, none⟩ : Addr).add k) n = some cs) (i : Nat) (hi : i < n) (v : Value) (hv : cs[i]? = some v) : b < w.heap.size ∧ w.cell? ⟨b, o + k + i, none⟩ = some v := by
  obtain ⟨_, hl, hc⟩ := World.cells?_some h
  have h1 := hc i hi
  rw [hv, add_none, add_none] at h1
  exact ⟨World.block_lt_of_cell? w _ h1, h1⟩

set_option maxRecDepth 100000 in
theorem trod_posts {cs : List Value} (h : DataW.trod enc Try.prog w base (fun _ => true) held fuel 22 cs = some x) : ∃ (pa : Option Addr) (ps : List Post) (c : Nat), cs = [.slice pa ps.length c] ∧ PostsIn w pa ps ∧ ps.length ≤ maxLen := by
  rcases open_slice Try.underlying22 h with ⟨rfl, _⟩ | ⟨a, len, cap, m, n, D, Pl, rfl, _, hle, hcap, hm, _, hel⟩
  · exact ⟨none, [], 0, rfl, fun i p h => by simp at h, by simp⟩
  · simp only [if_true] at hm
    have hlm : len ≤ m := by omega
    clear hm
    by_cases h0 : len = 0
    · subst h0
      exact ⟨some a, [], cap, rfl, fun i p h => by simp at h, by simp⟩
    have hs : a.spot = none := by
      obtain ⟨cs', hc, _⟩ := hel 0 (by omega)
      rw [cellsOf56, show 0 * 4 = 0 from rfl] at hc
      exact cells_spot hc (by omega)
    obtain ⟨b, o, s⟩ := a
    simp only at hs
    subst hs
    obtain ⟨l, hl, hR⟩ := listOf (α := Post) len (fun i p => b < w.heap.size ∧ w.cell? ⟨b, o + i * 4, none⟩ = some (.int .i64 p.xlo) ∧ w.cell? ⟨b, o + i * 4 + 1, none⟩ = some (.int .i64 p.xhi) ∧
      w.cell? ⟨b, o + i * 4 + 2, none⟩ = some (.int .i64 p.ylo) ∧ w.cell? ⟨b, o + i * 4 + 3, none⟩ = some (.int .i64 p.yhi)) (fun i hi => by
        obtain ⟨cs', hc, ht⟩ := hel i (by omega)
        obtain ⟨x0, x1, x2, x3, rfl⟩ := trod_post ht
        rw [cellsOf56] at hc
        obtain ⟨l0, q0⟩ := cells_at hc 0 (by omega) _ rfl
        obtain ⟨_, q1⟩ := cells_at hc 1 (by omega) _ rfl
        obtain ⟨_, q2⟩ := cells_at hc 2 (by omega) _ rfl
        obtain ⟨_, q3⟩ := cells_at hc 3 (by omega) _ rfl
        exact ⟨⟨x0, x1, x2, x3⟩, l0, q0, q1, q2, q3⟩)
    refine ⟨some ⟨b, o, none⟩, l, cap, by rw [hl], fun i p hp => ?_, by rw [hl]; exact Nat.le_trans hle hcap⟩
    exact ⟨b, o, rfl, hR i p hp⟩
set_option maxRecDepth 100000 in
theorem trod_lens {cs : List Value} (h : DataW.trod enc Try.prog w base (fun _ => true) held fuel 23 cs = some x) : ∃ (pa : Option Addr) (ps : List Len) (c : Nat), cs = [.slice pa ps.length c] ∧ LensIn w pa ps ∧ ps.length ≤ maxLen := by
  rcases open_slice Try.underlying23 h with ⟨rfl, _⟩ | ⟨a, len, cap, m, n, D, Pl, rfl, _, hle, hcap, hm, _, hel⟩
  · exact ⟨none, [], 0, rfl, fun i p h => by simp at h, by simp⟩
  · simp only [if_true] at hm
    have hlm : len ≤ m := by omega
    clear hm
    by_cases h0 : len = 0
    · subst h0
      exact ⟨some a, [], cap, rfl, fun i p h => by simp at h, by simp⟩
    have hs : a.spot = none := by
      obtain ⟨cs', hc, _⟩ := hel 0 (by omega)
      rw [cellsOf65, show 0 * 4 = 0 from rfl] at hc
      exact cells_spot hc (by omega)
    obtain ⟨b, o, s⟩ := a
    simp only at hs
    subst hs
    obtain ⟨l, hl, hR⟩ := listOf (α := Len) len (fun i p => b < w.heap.size ∧ w.cell? ⟨b, o + i * 4, none⟩ = some (.int .i64 p.a) ∧ w.cell? ⟨b, o + i * 4 + 1, none⟩ = some (.int .i64 p.b) ∧
      w.cell? ⟨b, o + i * 4 + 2, none⟩ = some (.int .i64 p.lo) ∧ w.cell? ⟨b, o + i * 4 + 3, none⟩ = some (.int .i64 p.hi)) (fun i hi => by
        obtain ⟨cs', hc, ht⟩ := hel i (by omega)
        obtain ⟨x0, x1, x2, x3, rfl⟩ := trod_len ht
        rw [cellsOf65] at hc
        obtain ⟨l0, q0⟩ := cells_at hc 0 (by omega) _ rfl
        obtain ⟨_, q1⟩ := cells_at hc 1 (by omega) _ rfl
        obtain ⟨_, q2⟩ := cells_at hc 2 (by omega) _ rfl
        obtain ⟨_, q3⟩ := cells_at hc 3 (by omega) _ rfl
        exact ⟨⟨x0, x1, x2, x3⟩, l0, q0, q1, q2, q3⟩)
    refine ⟨some ⟨b, o, none⟩, l, cap, by rw [hl], fun i p hp => ?_, by rw [hl]; exact Nat.le_trans hle hcap⟩
    exact ⟨b, o, rfl, hR i p hp⟩

set_option maxRecDepth 100000 in
theorem open_pegs {r : Reach} {b0 : Nat} {v : Value} {d : DataW H} {ps : List MemPlace} (hv : Value.okWide Try.prog w r b0 25 v) (h : DataW.Trod enc Try.prog w base (fun _ => true) held 25 v d ps) :
    ∃ (p : PegsD) (pa la : Option Addr) (pc lc : Nat), v = .agg #[.int .i64 p.side, .slice pa p.ps.length pc, .slice la p.ls.length lc] ∧ PegsIn w p pa la ∧ p.ps.length ≤ 9223372036854775807 ∧ p.ls.length ≤ 9223372036854775807 := by
  obtain ⟨v0, v1, v2, y0, y1, y2, n, rfl, _, _, h0, h1, h2⟩ := open_agg3 Try.underlying25 (by kernel_rfl) cellsOf25 hv (show DataW.Trod enc Try.prog w base (fun _ => true) held 25 v d ps from h)
  obtain ⟨s, es, _⟩ := DataW.trod_int Try.underlying3 h0
  obtain ⟨pa, pl, pc, ep, hp, hpm⟩ := trod_posts h1
  obtain ⟨la, ll, lc, el, hl, hlm⟩ := trod_lens h2
  simp at es ep el
  subst es; subst ep; subst el
  unfold maxLen at hpm hlm
  exact ⟨⟨s, pl, ll⟩, pa, la, pc, lc, rfl, ⟨hp, hl⟩, hpm, hlm⟩
end
end Go.Proofs.Ytkjciobphbcknaa
