/- Package soil: the ways along the ground, and what is told of them. -/
import Derived.Test.YtfmbnobkenngaaaGJ
namespace Go.Proofs.Ytfmbnobkenngaaa
open Go.RowKit En

def In20 (s : SpanD) : Prop := 0 ≤ s.lo ∧ s.lo ≤ 20 ∧ 0 ≤ s.hi ∧ s.hi ≤ 20
structure In20M (m : MixD) : Prop where
  sand : In20 m.sand
  silt : In20 m.silt
  clay : In20 m.clay
theorem In20.sm {s : SpanD} (h : In20 s) : smS s := by unfold In20 at h; unfold smS; omega
theorem In20M.sm {m : MixD} (h : In20M m) : SmM m := ⟨h.sand.sm, h.silt.sm, h.clay.sm⟩
theorem noMix_in20 : In20M noMix := ⟨by unfold In20; decide, by unfold In20; decide, by unfold In20; decide⟩
theorem anyMix_in20 : In20M anyMix := ⟨by unfold In20; decide, by unfold In20; decide, by unfold In20; decide⟩
theorem overlapS_in20 {a b c : SpanD} (hb : In20 b) (h : ¬ (overlapS (overlapS a b) c).hi < (overlapS (overlapS a b) c).lo) : In20 (overlapS (overlapS a b) c) := by
  simp only [In20, overlapS] at *
  omega
theorem bothM_in20 (n : MixD) {o : MixD} (ho : In20M o) : In20M (bothM n o) := by
  unfold bothM narrowM
  split
  · exact noMix_in20
  · rename_i h
    rw [not_or, not_or] at h
    exact ⟨overlapS_in20 ho.sand h.1, overlapS_in20 ho.silt h.2.1, overlapS_in20 ho.clay h.2.2⟩
theorem changedM_sm {m : MixD} {n : Int} (h : In20M m) (hn : 0 ≤ n ∧ n ≤ 20) : SmM (changedM m n) := by
  obtain ⟨h1, h2, h3⟩ := h
  simp only [In20] at h1 h2 h3
  refine ⟨?_, ?_, ?_⟩ <;> simp only [smS, changedM, widerS] <;> omega
/-- The place of a way's step. -/
def idxN (g : GroundD) (back : Bool) (k : Nat) : Nat := if back then placesN g - 1 - k else k
theorem idxN_lt {g : GroundD} {back : Bool} {k : Nat} (h : k < placesN g) : idxN g back k < placesN g := by unfold idxN; split <;> omega
/-- What a way has come to: what is left at each place, and what the next place can have. -/
def wayF (g : GroundD) (back : Bool) (L0 : List MixD) : Nat → List MixD × MixD
  | 0 => (L0, anyMix)
  | k + 1 => ((wayF g back L0 k).1.set (idxN g back k) (bothM (wayF g back L0 k).2 ((wayF g back L0 k).1.getD (idxN g back k) noMix)), changedM (bothM (wayF g back L0 k).2 ((wayF g back L0 k).1.getD (idxN g back k) noMix)) g.change)
def midM (g : GroundD) (back : Bool) (L0 : List MixD) (k : Nat) : MixD := bothM (wayF g back L0 k).2 ((wayF g back L0 k).1.getD (idxN g back k) noMix)
theorem wayF_succ (g : GroundD) (back : Bool) (L0 : List MixD) (k : Nat) : wayF g back L0 (k + 1) = ((wayF g back L0 k).1.set (idxN g back k) (midM g back L0 k), changedM (midM g back L0 k) g.change) := rfl
def wayL (g : GroundD) (back : Bool) (L0 : List MixD) : List MixD := (wayF g back L0 (placesN g)).1
def wayOk (g : GroundD) (back : Bool) (L0 : List MixD) : Bool := (List.range (placesN g)).all fun k => decide (midM g back L0 k ≠ noMix)
theorem wayOk_of {g : GroundD} {back : Bool} {L0 : List MixD} (h : ∀ j, j < placesN g → midM g back L0 j ≠ noMix) : wayOk g back L0 = true := by
  simp only [wayOk, List.all_eq_true, List.mem_range, decide_eq_true_eq]
  exact h
theorem wayOk_no {g : GroundD} {back : Bool} {L0 : List MixD} {j : Nat} (hj : j < placesN g) (h : midM g back L0 j = noMix) : wayOk g back L0 = false := by
  rw [Bool.eq_false_iff]
  intro hh
  simp only [wayOk, List.all_eq_true, List.mem_range, decide_eq_true_eq] at hh
  exact hh j hj h
theorem wayF_length (g : GroundD) (back : Bool) (L0 : List MixD) (k : Nat) : (wayF g back L0 k).1.length = L0.length := by
  induction k with
  | zero => rfl
  | succ k ih => rw [wayF_succ, List.length_set, ih]
theorem wayL_length (g : GroundD) (back : Bool) (L0 : List MixD) : (wayL g back L0).length = L0.length := wayF_length ..
theorem getD_in20 {L : List MixD} (h : ∀ m ∈ L, In20M m) (i : Nat) : In20M (L.getD i noMix) := by
  rw [List.getD_eq_getElem?_getD]
  cases e : L[i]? with
  | none => exact noMix_in20
  | some m => exact h m (List.mem_of_getElem? e)
theorem wayF_in20 {g : GroundD} {back : Bool} {L0 : List MixD} (h : ∀ m ∈ L0, In20M m) (k : Nat) : ∀ m ∈ (wayF g back L0 k).1, In20M m := by
  induction k with
  | zero => exact h
  | succ k ih =>
    intro m hm
    rw [wayF_succ] at hm
    rcases List.mem_or_eq_of_mem_set hm with hm | rfl
    · exact ih m hm
    · exact bothM_in20 _ (getD_in20 ih _)
theorem midM_in20 {g : GroundD} {back : Bool} {L0 : List MixD} (h : ∀ m ∈ L0, In20M m) (k : Nat) : In20M (midM g back L0 k) := bothM_in20 _ (getD_in20 (wayF_in20 h k) _)
theorem wayF_sm {g : GroundD} {back : Bool} {L0 : List MixD} (h : ∀ m ∈ L0, In20M m) (hc : 0 ≤ g.change ∧ g.change ≤ 20) (k : Nat) : SmM (wayF g back L0 k).2 := by
  cases k with
  | zero => exact anyMix_in20.sm
  | succ k => exact changedM_sm (midM_in20 h k) hc
theorem dugL_in20 {g : GroundD} (hg : ValidG g) : ∀ m ∈ dugL g, In20M m := by
  suffices h : ∀ (l : List PitD) (L : List MixD), (∀ p ∈ l, pitB p = true) → (∀ m ∈ L, In20M m) → ∀ m ∈ l.foldl (fun L p => L.set p.at_.toNat (pitM p)) L, In20M m by
    refine h _ _ (fun p hp => (hg.pits p (List.mem_of_mem_take hp)).2) fun m hm => ?_
    rw [List.eq_of_mem_replicate hm]; exact anyMix_in20
  intro l
  induction l with
  | nil => intro L _ h; exact h
  | cons p r ih =>
    intro L hp h
    rw [List.foldl_cons]
    refine ih _ (fun q hq => hp q (List.mem_cons_of_mem _ hq)) fun m hm => ?_
    rcases List.mem_or_eq_of_mem_set hm with hm | rfl
    · exact h m hm
    · have := hp p List.mem_cons_self
      simp only [pitB, withinB, Bool.and_eq_true, decide_eq_true_eq] at this
      exact ⟨by simp only [In20, pitM]; omega, by simp only [In20, pitM]; omega, by simp only [In20, pitM]; omega⟩
def soilsOk (g : GroundD) : Bool := wayOk g false (dugL g) && wayOk g true (wayL g false (dugL g))
def soilsL (g : GroundD) : List MixD := wayL g true (wayL g false (dugL g))
theorem soilsL_length (g : GroundD) : (soilsL g).length = placesN g := by rw [soilsL, wayL_length, wayL_length, dugL, dugF_length]
theorem alongL_idx {g : GroundD} {back : Bool} {k : Nat} (h : k < placesN g) : (alongL g.long back)[k]? = some (.int .i64 ((idxN g back k : Nat) : Int)) := by
  rw [alongL_at h]
  unfold idxN placesN at *
  cases back
  · rfl
  · simp only [if_true]
    congr 2
    omega
theorem sub_mix : ∀ (L : List MixD) (k : Nat) (q : MixD), L[k]? = some q → Sub (mixesC L) (k * 6) 6 (mixC q)
  | [], k, q, h => by cases h
  | a :: r, 0, q, h => by
    cases h
    simp only [mixesC, List.flatMap_cons, Nat.zero_mul]
    exact .take (.take (.take (.take (.take (.take .done)))))
  | a :: r, k + 1, q, h => by
    have ih := sub_mix r k q (by simpa using h)
    simp only [mixesC, List.flatMap_cons] at *
    rw [show (k + 1) * 6 = k * 6 + 1 + 1 + 1 + 1 + 1 + 1 by omega]
    exact .skip (.skip (.skip (.skip (.skip (.skip ih)))))
theorem sub_getD {L : List MixD} {k : Nat} (h : k < L.length) : Sub (mixesC L) (k * 6) 6 (mixC (L.getD k noMix)) := sub_mix L k _ (by rw [List.getD_eq_getElem?_getD, List.getElem?_eq_getElem h]; rfl)
theorem sub_set {L : List MixD} {k : Nat} {q : MixD} (h : k < L.length) : Sub (mixesC (L.set k q)) (k * 6) 6 (mixC q) := sub_mix _ k _ (by rw [List.getElem?_set_self h])
theorem eqz (m : MixD) : (decide (m.sand.lo = 0) && decide (m.sand.hi = 0) && decide (m.silt.lo = 0) && decide (m.silt.hi = 0) && decide (m.clay.lo = 0) && decide (m.clay.hi = 0)) = decide (m = noMix) := by
  obtain ⟨⟨a, b⟩, ⟨c, d⟩, ⟨e, f⟩⟩ := m
  rw [Bool.eq_iff_iff]
  simp [noMix, and_assoc]
theorem at137 : arrT Try.prog 137 = some (2, 4) := by kernel_rfl
end Go.Proofs.Ytfmbnobkenngaaa
