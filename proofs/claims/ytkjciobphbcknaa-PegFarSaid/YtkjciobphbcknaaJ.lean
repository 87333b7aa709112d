/- Package peg: where each peg can be, at its post and elsewhere. -/
import Derived.Test.YtkjciobphbcknaaH
namespace Go.Proofs.Ytkjciobphbcknaa
open Go.RowKit

set_option maxHeartbeats 1000000 in
theorem spots1_any (s : Pl) (hb ib k : Nat) (pa : Option Addr) (pc : Nat) (H : List Pl) (w : World) (hk : k < 4) (h1 : w.cell? ⟨hb, k, none⟩ = some (.slice pa H.length pc)) (h2 : w.cell? ⟨ib, 0, none⟩ = some (.int .i64 k))
    (hH : PlsIn w pa H) (hlen : H.length ≤ 1000) :
    Calls Try.prog 99 #[.agg #[.int .i64 s.x, .int .i64 s.y], .pointer (some ⟨hb, 0, none⟩), .pointer (some ⟨ib, 0, none⟩)] w fun e w' => e = .returned (.bool (decide (s ∈ H))) ∧ Kept w w' := by
  have HH := Lib.hid hH
  clear hH
  have l1 := World.block_lt_of_cell? w _ h1
  have l2 := World.block_lt_of_cell? w _ h2
  have i1 : (0 : Int) ≤ (k : Int) := by omega
  have i2 : (k : Int) < 4 := by omega
  have k0 : Kept w (w.alloc (Obj.cells #[.int .i64 s.x, .int .i64 s.y] 93)) := (Kept.refl _).alloc _
  go_enter Try.func99, Try.ntmps99
  go_wp2_with fail
  go_region_held3 (fun w' => w'.cell? ⟨hb, k, none⟩ = some (.slice pa H.length pc) ∧ w'.cell? ⟨ib, 0, none⟩ = some (.int .i64 k) ∧ w'.cell? ⟨w.heap.size, 0, none⟩ = some (.int .i64 s.x) ∧ w'.cell? ⟨w.heap.size, 1, none⟩ = some (.int .i64 s.y) ∧ w.heap.size < w'.heap.size ∧ Kept w w')
    (first
      | assumption
      | (go_keep; done)
      | (simp [*, World.cell?_alloc_some, Kept.alloc, Kept.drew]; done)
      | (refine ⟨?_, ?_, ?_, ?_, ?_, ?_⟩ <;> first
           | (go_keep; done)
           | (simp [*, Kept.alloc, Kept.drew]; done)
           | (simp [*]; omega)
           | (rw [hb1.cells _ _ (by omega)]; simp only [*])
           | (rw [hb1.cells _ _ (by simp; omega)]; simp [*])
           | exact hb1.lt (by simp [*])
           | exact Kept.step0 (k0.drew) hb1))
    (first
      | (go_at_call 100; refine (contains_any H pa pc s _ (HH.out.kept (k0.drew)) hlen).mono ?_; rintro e w1 ⟨rfl, hb1⟩))
  rename_i hh
  obtain ⟨_, _, _, _, _, hk2⟩ := hh
  go_wp2
  go_ret
  exact ⟨rfl, hk2⟩
end Go.Proofs.Ytkjciobphbcknaa
namespace Go.Proofs.Ytkjciobphbcknaa
open Go.RowKit

/-- A slice of places, in a block from lo on. -/
def SlPl (w : World) (lo : Nat) (v : Value) (L : List Pl) : Prop := ∃ pa c, v = .slice pa L.length c ∧ PlsIn w pa L ∧ ∀ a, pa = some a → lo ≤ a.block ∧ a.block < w.heap.size
theorem SlPl.kept {w w' : World} {lo : Nat} {v : Value} {L : List Pl} (h : SlPl w lo v L) (hb : Kept w w') : SlPl w' lo v L := by
  obtain ⟨pa, c, rfl, h1, h2⟩ := h
  exact ⟨pa, c, rfl, h1.kept hb, fun a e => ⟨(h2 a e).1, hb.lt (h2 a e).2⟩⟩
theorem SlPl.set {w : World} {lo : Nat} {v : Value} {L : List Pl} (h : SlPl w lo v L) (b o : Nat) (u : Value) (hb : b < lo) : SlPl (w.setCell ⟨b, o, none⟩ u) lo v L := by
  obtain ⟨pa, c, rfl, h1, h2⟩ := h
  refine ⟨pa, c, rfl, fun i s hi => ?_, fun a e => ⟨(h2 a e).1, by simpa using (h2 a e).2⟩⟩
  obtain ⟨b', o', e, hl, c1, c2⟩ := h1 i s hi
  have := h2 _ e
  simp only at this
  exact ⟨b', o', e, by simpa using hl, by rw [World.cell?_setCell_other _ _ _ _ (by simp <;> omega)]; exact c1, by rw [World.cell?_setCell_other _ _ _ _ (by simp <;> omega)]; exact c2⟩
theorem OwnsPls.sl {w : World} {base : Nat} {v : Value} {L : List Pl} (h : OwnsPls w base v L) : SlPl w base v L := by
  obtain ⟨pa, cap, rfl, h2⟩ := h.reads
  refine ⟨pa, cap, rfl, h2, fun a ha => ?_⟩
  subst ha
  exact World.ownsRow.lt h a.block rfl

def fieldL (side : Int) : List Pl := rectL 0 side 0 side
def homeL (p : PegsD) (i : Nat) : List Pl := match p.ps[i]? with | some q => rectL q.xlo q.xhi q.ylo q.yhi | none => []
def awayL (p : PegsD) (i : Nat) : List Pl := (fieldL p.side).filter fun s => !decide (s ∈ homeL p i)
theorem rectL_length (xlo xhi ylo yhi : Int) (h1 : 0 ≤ xlo) (h3 : xhi ≤ 15) (h4 : 0 ≤ ylo) (h6 : yhi ≤ 15) : (rectL xlo xhi ylo yhi).length ≤ 256 := by
  rw [rectL, colsL_length]
  have := Nat.mul_le_mul (show (xhi + 1 - xlo).toNat ≤ 16 by omega) (show (yhi + 1 - ylo).toNat ≤ 16 by omega)
  omega

/-- Block b holds an array of four slices: those before k are told by f, the others are nil. -/
def ArrIs (w : World) (lo b : Nat) (f : Nat → List Pl) (k : Nat) : Prop :=
  ∀ i, i < 4 → ∃ v, w.cell? ⟨b, i, none⟩ = some v ∧ w.frozen? ⟨b, i, none⟩ = false ∧ (i < k → SlPl w lo v (f i)) ∧ (k ≤ i → v = .slice none 0 0)
theorem ArrIs.kept {w w' : World} {lo b k : Nat} {f : Nat → List Pl} (h : ArrIs w lo b f k) (hb : Kept w w') : ArrIs w' lo b f k := by
  intro i hi
  obtain ⟨v, c, z, s, e⟩ := h i hi
  have hl := World.block_lt_of_cell? w _ c
  exact ⟨v, by rw [hb.cells _ _ hl]; exact c, by rw [hb.frozens _ _ hl]; exact z, fun hk => (s hk).kept hb, e⟩
theorem ArrIs.other {w : World} {lo b k : Nat} {f : Nat → List Pl} (h : ArrIs w lo b f k) (b' o : Nat) (u : Value) (hb : b' < lo) (hne : b' ≠ b) : ArrIs (w.setCell ⟨b', o, none⟩ u) lo b f k := by
  intro i hi
  obtain ⟨v, c, z, s, e⟩ := h i hi
  exact ⟨v, by rw [World.cell?_setCell_other _ _ _ _ (by simp <;> omega)]; exact c, by rw [World.frozen?_setCell]; exact z, fun hk => (s hk).set _ _ _ hb, e⟩
theorem ArrIs.next {w : World} {lo b k : Nat} {f : Nat → List Pl} (h : ArrIs w lo b f k) (u : Value) (hb : b < lo) (hk : k < 4) (hu : SlPl w lo u (f k)) : ArrIs (w.setCell ⟨b, k, none⟩ u) lo b f (k + 1) := by
  intro i hi
  obtain ⟨v, c, z, s, e⟩ := h i hi
  by_cases hik : i = k
  · subst hik
    exact ⟨u, World.cell?_setCell_same' _ _ _ (by rw [c]; rfl), by rw [World.frozen?_setCell]; exact z, fun _ => hu.set _ _ _ hb, fun h => by omega⟩
  · exact ⟨v, by rw [World.cell?_setCell_other _ _ _ _ (by simp <;> omega)]; exact c, by rw [World.frozen?_setCell]; exact z, fun hk => (s (by omega)).set _ _ _ hb, fun hk => e (by omega)⟩

/-- What lies in memory while the pegs are gone through. -/
structure SpotsInv (w wr : World) (p : PegsD) (v1 v2 : Value) (kh ka : Nat) : Prop where
  kept : Kept w wr
  sz : w.heap.size + 4 ≤ wr.heap.size
  b0 : wr.cell? ⟨w.heap.size, 0, none⟩ = some (.int .i64 p.side)
  b1 : wr.cell? ⟨w.heap.size, 1, none⟩ = some v1
  b2 : wr.cell? ⟨w.heap.size, 2, none⟩ = some v2
  s0 : wr.cell? ⟨w.heap.size + 3, 0, none⟩ = some (.int .i64 0)
  s1 : wr.cell? ⟨w.heap.size + 3, 1, none⟩ = some (.int .i64 p.side)
  hm : ArrIs wr (w.heap.size + 4) (w.heap.size + 1) (homeL p) kh
  aw : ArrIs wr (w.heap.size + 4) (w.heap.size + 2) (awayL p) ka
theorem SpotsInv.keep {w wr w' : World} {p : PegsD} {v1 v2 : Value} {kh ka : Nat} (h : SpotsInv w wr p v1 v2 kh ka) (hb : Kept wr w') : SpotsInv w w' p v1 v2 kh ka := by
  have := h.sz
  exact ⟨h.kept.step0 hb, Nat.le_trans h.sz hb.size, by rw [hb.cells _ _ (by omega)]; exact h.b0, by rw [hb.cells _ _ (by omega)]; exact h.b1, by rw [hb.cells _ _ (by omega)]; exact h.b2,
    by rw [hb.cells _ _ (by omega)]; exact h.s0, by rw [hb.cells _ _ (by omega)]; exact h.s1, h.hm.kept hb, h.aw.kept hb⟩
theorem SpotsInv.setHome {w wr : World} {p : PegsD} {v1 v2 u : Value} {k ka : Nat} (h : SpotsInv w wr p v1 v2 k ka) (hk : k < 4) (hu : SlPl wr (w.heap.size + 4) u (homeL p k)) : SpotsInv w (wr.setCell ⟨w.heap.size + 1, k, none⟩ u) p v1 v2 (k + 1) ka :=
  ⟨h.kept.setCell (by simp) _, by simpa using h.sz, by rw [World.cell?_setCell_other _ _ _ _ (by simp)]; exact h.b0, by rw [World.cell?_setCell_other _ _ _ _ (by simp)]; exact h.b1, by rw [World.cell?_setCell_other _ _ _ _ (by simp)]; exact h.b2,
    by rw [World.cell?_setCell_other _ _ _ _ (by simp)]; exact h.s0, by rw [World.cell?_setCell_other _ _ _ _ (by simp)]; exact h.s1, h.hm.next _ (by omega) hk hu, h.aw.other _ _ _ (by omega) (by omega)⟩
theorem SpotsInv.setAway {w wr : World} {p : PegsD} {v1 v2 u : Value} {kh k : Nat} (h : SpotsInv w wr p v1 v2 kh k) (hk : k < 4) (hu : SlPl wr (w.heap.size + 4) u (awayL p k)) : SpotsInv w (wr.setCell ⟨w.heap.size + 2, k, none⟩ u) p v1 v2 kh (k + 1) :=
  ⟨h.kept.setCell (by simp) _, by simpa using h.sz, by rw [World.cell?_setCell_other _ _ _ _ (by simp)]; exact h.b0, by rw [World.cell?_setCell_other _ _ _ _ (by simp)]; exact h.b1, by rw [World.cell?_setCell_other _ _ _ _ (by simp)]; exact h.b2,
    by rw [World.cell?_setCell_other _ _ _ _ (by simp)]; exact h.s0, by rw [World.cell?_setCell_other _ _ _ _ (by simp)]; exact h.s1, h.hm.other _ _ _ (by omega) (by omega), h.aw.next _ (by omega) hk hu⟩
theorem ArrIs.slices {w : World} {lo b k : Nat} {f : Nat → List Pl} (h : ArrIs w lo b f k) (i : Nat) (hi : i < 4) : ∃ pa n c, w.cell? ⟨b, i, none⟩ = some (.slice pa n c) ∧ w.frozen? ⟨b, i, none⟩ = false ∧ (i < k → SlPl w lo (.slice pa n c) (f i)) := by
  obtain ⟨v, hc, hz, h1, h2⟩ := h i hi
  by_cases hik : i < k
  · obtain ⟨pa, c, rfl, h3⟩ := h1 hik
    exact ⟨pa, _, c, hc, hz, fun _ => ⟨pa, c, rfl, h3⟩⟩
  · rw [h2 (by omega)] at hc
    exact ⟨none, 0, 0, hc, hz, fun h => by omega⟩
theorem setCell_self {w : World} {a : Addr} {v : Value} (h : w.cell? a = some v) : w.setCell a v = w := by
  obtain ⟨b, o, s⟩ := a
  have e : w.heap.modify b (fun | .cells c elem frozen => .cells (if s.isSome then c else c.setIfInBounds o v) elem frozen | ob => ob) = w.heap := by
    apply Array.ext_getElem?
    intro i
    rw [Array.getElem?_modify]
    split
    · rename_i hbi
      subst hbi
      simp only [World.cell?] at h
      cases hb : w.heap[b]? with
      | none => rfl
      | some ob =>
        rw [hb] at h
        cases ob <;> simp at h ⊢
        obtain ⟨_, h2⟩ := h
        intro _
        apply Array.ext_getElem?
        intro j
        rw [Array.getElem?_setIfInBounds]
        split
        · rename_i hj
          subst hj
          obtain ⟨h3, h4⟩ := Array.getElem?_eq_some_iff.1 h2
          simp [h3, h4]
        · rfl
    · rfl
  have e2 := congrArg (fun hp => ({ w with heap := hp } : World)) e
  exact e2

end Go.Proofs.Ytkjciobphbcknaa
