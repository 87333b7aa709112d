/- Soil: the document's own mixes: those that chains from both ends come to. -/
import Derived.Test.YtfmbnobkenngaaaHK
namespace Go.Proofs.Ytfmbnobkenngaaa
open Go.RowKit En

instance : DecidableEq S3 := fun ⟨a, b, c⟩ ⟨a', b', c'⟩ => if h : a = a' ∧ b = b' ∧ c = c' then .isTrue (by obtain ⟨rfl, rfl, rfl⟩ := h; rfl) else .isFalse (fun e => h (by cases e; exact ⟨rfl, rfl, rfl⟩))
def inZ (n lo hi : Int) : Bool := decide (lo ≤ n) && decide (n ≤ hi)
theorem inZ_iff {n lo hi : Int} : inZ n lo hi = true ↔ lo ≤ n ∧ n ≤ hi := by simp [inZ]
def nearB (c : Int) (s t : S3) : Bool := inZ (s.a - t.a) (-c) c && inZ (s.b - t.b) (-c) c && inZ (s.c - t.c) (-c) c
theorem nearB_iff {c : Int} {s t : S3} : nearB c s t = true ↔ nearS c s t := by
  simp only [nearB, Bool.and_eq_true, inZ_iff, nearS]
  omega
def fitZ (p : PitD) (s : S3) : Bool := inZ s.a p.sand.lo p.sand.hi && inZ s.b p.silt.lo p.silt.hi && inZ s.c p.clay.lo p.clay.hi
theorem fitZ_iff {p : PitD} {s : S3} : fitZ p s = true ↔ InM (pitM p) s := by
  simp only [fitZ, Bool.and_eq_true, inZ_iff, InM, pitM]
  omega
def fitsB (g : GroundD) (n : Int) (s : S3) : Bool := g.pits.all fun p => !decide (p.at_ = n) || fitZ p s
theorem fitsB_iff {g : GroundD} {n : Int} {s : S3} : fitsB g n s = true ↔ ∀ p ∈ g.pits, p.at_ = n → InM (pitM p) s := by
  simp only [fitsB, List.all_eq_true, Bool.or_eq_true, Bool.not_eq_true', decide_eq_false_iff_not, fitZ_iff]
  constructor
  · intro h p hp e; exact (h p hp).resolve_left (fun h => h e)
  · intro h p hp
    by_cases e : p.at_ = n
    · exact .inr (h p hp e)
    · exact .inl e
def mixS (i j : Nat) : S3 := ⟨i, j, 20 - (i : Int) - (j : Int)⟩
def mixRow (i j : Nat) : List S3 := (List.range j).map (mixS i)
def mixRows (i : Nat) : List S3 := (List.range i).flatMap fun i => mixRow i (21 - i)
def allM : List S3 := mixRows 21
theorem mixRow_succ (i j : Nat) : mixRow i (j + 1) = mixRow i j ++ [mixS i j] := by simp [mixRow, List.range_succ]
theorem mixRows_succ (i : Nat) : mixRows (i + 1) = mixRows i ++ mixRow i (21 - i) := by simp [mixRows, List.range_succ]
theorem mem_all {s : S3} : s ∈ allM ↔ okS s := by
  simp only [allM, mixRows, List.mem_flatMap, List.mem_range, mixRow, List.mem_map, okS, sum20]
  constructor
  · rintro ⟨i, hi, j, hj, rfl⟩
    simp only [mixS]; omega
  · rintro ⟨h, h1, h2, h3⟩
    refine ⟨s.a.toNat, by omega, s.b.toNat, by omega, ?_⟩
    obtain ⟨a, b, c⟩ := s
    simp only at h h1 h2 h3
    simp only [mixS, S3.mk.injEq]
    omega
/-- What stands at the next place, where `l` could stand before. -/
def okM (g : GroundD) (k : Int) (first : Bool) (l : List S3) (s : S3) : Bool := (first || l.any fun t => nearB g.change t s) && fitsB g k s
def nowF (g : GroundD) (fr d : Int) : Nat → List S3
  | 0 => []
  | m + 1 => allM.filter (okM g (fr + d * (m : Int)) (decide (m = 0)) (nowF g fr d m))
def Chain3 (g : GroundD) (fr d : Int) (m : Nat) (C : Nat → S3) : Prop := ∀ j, j ≤ m → okS (C j) ∧ (∀ p ∈ g.pits, p.at_ = fr + d * (j : Int) → InM (pitM p) (C j)) ∧ (j < m → nearS g.change (C j) (C (j + 1)))
theorem mem_now {g : GroundD} {fr d : Int} : ∀ (m : Nat) (s : S3), s ∈ nowF g fr d (m + 1) ↔ ∃ C, Chain3 g fr d m C ∧ C m = s
  | 0, s => by
    simp only [nowF, List.mem_filter, mem_all, okM, decide_true, Bool.true_or, Bool.true_and, fitsB_iff]
    constructor
    · rintro ⟨h1, h2⟩
      refine ⟨fun _ => s, fun j hj => ?_, rfl⟩
      obtain rfl : j = 0 := by omega
      exact ⟨h1, h2, fun h => absurd h (by omega)⟩
    · rintro ⟨C, hC, rfl⟩
      exact ⟨(hC 0 (by omega)).1, (hC 0 (by omega)).2.1⟩
  | m + 1, s => by
    have ih := mem_now (g := g) (fr := fr) (d := d) m
    rw [nowF, List.mem_filter, mem_all]
    simp only [okM, Bool.and_eq_true, Bool.or_eq_true, decide_eq_true_eq, fitsB_iff, List.any_eq_true, nearB_iff]
    constructor
    · rintro ⟨h1, h2 | ⟨t, ht, hn⟩, h3⟩
      · omega
      · obtain ⟨C, hC, rfl⟩ := (ih t).1 ht
        refine ⟨fun j => if j ≤ m then C j else s, fun j hj => ?_, if_neg (by omega)⟩
        by_cases c : j ≤ m
        · obtain ⟨q1, q2, q3⟩ := hC j c
          simp only [c, if_true]
          refine ⟨q1, q2, fun _ => ?_⟩
          by_cases c2 : j + 1 ≤ m
          · rw [if_pos c2]; exact q3 (by omega)
          · rw [if_neg c2]
            obtain rfl : j = m := by omega
            exact hn
        · obtain rfl : j = m + 1 := by omega
          simp only [c, if_false]
          exact ⟨h1, h3, fun h => absurd h (by omega)⟩
    · rintro ⟨C, hC, rfl⟩
      refine ⟨(hC (m + 1) (by omega)).1, .inr ⟨C m, (ih _).2 ⟨C, fun j hj => ?_, rfl⟩, (hC m (by omega)).2.2 (by omega)⟩, (hC (m + 1) (by omega)).2.1⟩
      obtain ⟨q1, q2, q3⟩ := hC j (by omega)
      exact ⟨q1, q2, fun h => q3 (by omega)⟩
/-- A mix is at a place in some truth if chains from both ends come to it. -/
theorem mem_both {g : GroundD} (h : VG g) {n : Nat} (hn : n < placesN g) (s : S3) : (s ∈ nowF g 0 1 (n + 1) ∧ s ∈ nowF g g.long (-1) (g.long.toNat - n + 1)) ↔ ∃ T, TruthP g T ∧ T n = s := by
  have hlong := h.v.long
  have hpl : (placesN g : Int) = g.long + 1 := by unfold placesN; omega
  rw [mem_now, mem_now]
  constructor
  · rintro ⟨⟨C, hC, e1⟩, ⟨D, hD, e2⟩⟩
    refine ⟨fun j => if j ≤ n then C j else D (g.long.toNat - j), fun j hj => ?_, by simp [e1]⟩
    by_cases c : j ≤ n
    · obtain ⟨q1, q2, q3⟩ := hC j c
      simp only [c, if_true]
      refine ⟨q1, fun p hp e => q2 p hp (by omega), fun h1 => ?_⟩
      by_cases c2 : j + 1 ≤ n
      · rw [if_pos c2]; exact q3 (by omega)
      · rw [if_neg c2]
        obtain rfl : j = n := by omega
        have q := (hD (g.long.toNat - (j + 1)) (by omega)).2.2 (by omega)
        rw [show g.long.toNat - (j + 1) + 1 = g.long.toNat - j by omega, e2] at q
        rw [e1]; exact q.symm
    · simp only [c, if_false]
      obtain ⟨q1, q2, q3⟩ := hD (g.long.toNat - j) (by omega)
      refine ⟨q1, fun p hp e => q2 p hp (by omega), fun h1 => ?_⟩
      rw [if_neg (by omega)]
      have q := (hD (g.long.toNat - (j + 1)) (by omega)).2.2 (by omega)
      rw [show g.long.toNat - (j + 1) + 1 = g.long.toNat - j by omega] at q
      exact q.symm
  · rintro ⟨T, hT, rfl⟩
    refine ⟨⟨T, fun j hj => ?_, rfl⟩, ⟨fun j => T (g.long.toNat - j), fun j hj => ?_, by simp only; congr 1; omega⟩⟩
    · obtain ⟨q1, q2, q3⟩ := hT j (by omega)
      exact ⟨q1, fun p hp e => q2 p hp (by omega), fun h => q3 (by omega)⟩
    · obtain ⟨q1, q2, _⟩ := hT (g.long.toNat - j) (by omega)
      refine ⟨q1, fun p hp e => q2 p hp (by omega), fun h => ?_⟩
      have q := (hT (g.long.toNat - (j + 1)) (by omega)).2.2 (by omega)
      rw [show g.long.toNat - (j + 1) + 1 = g.long.toNat - j by omega] at q
      exact q.symm
/-- What both lists have, as often as the second has it. -/
def bothF (L M : List S3) : List S3 := L.flatMap fun s => (M.filter fun t => decide (s = t)).map fun _ => s
theorem mem_bothF {L M : List S3} {s : S3} : s ∈ bothF L M ↔ s ∈ L ∧ s ∈ M := by
  simp only [bothF, List.mem_flatMap, List.mem_map, List.mem_filter, decide_eq_true_eq]
  constructor
  · rintro ⟨t, ht, u, ⟨hu, e⟩, rfl⟩
    subst e; exact ⟨ht, hu⟩
  · rintro ⟨h1, h2⟩
    exact ⟨s, h1, s, ⟨h2, rfl⟩, rfl⟩
def mixesAt (g : GroundD) (n : Nat) : List S3 := bothF (nowF g 0 1 (n + 1)) (nowF g g.long (-1) (g.long.toNat - n + 1))
theorem mem_mixesAt {g : GroundD} (h : VG g) {n : Nat} (hn : n < placesN g) {s : S3} : s ∈ mixesAt g n ↔ ∃ T, TruthP g T ∧ T n = s := by
  rw [mixesAt, mem_bothF, mem_both h hn]
theorem soilsOk_mixes {g : GroundD} (h : VG g) : soilsOk g = true ↔ 0 < (mixesAt g 0).length := by
  have hn := placesN_pos h.v
  rw [soilsOk_P h]
  constructor
  · rintro ⟨T, hT⟩
    exact List.length_pos_of_mem ((mem_mixesAt h hn).2 ⟨T, hT, rfl⟩)
  · intro hl
    obtain ⟨T, hT, _⟩ := (mem_mixesAt h hn).1 (List.getElem_mem hl)
    exact ⟨T, hT⟩
theorem mem_soils {g : GroundD} (h : VG g) (hok : soilsOk g = true) {n : Nat} (hn : n < placesN g) {s : S3} : s ∈ mixesAt g n ↔ sum20 s ∧ InM ((soilsL g).getD n noMix) s := by
  rw [mem_mixesAt h hn]
  constructor
  · rintro ⟨T, hT, rfl⟩
    have h20 := (hT n hn).1.1
    exact ⟨h20, (soils_P h hok hn h20).2 ⟨T, hT, rfl⟩⟩
  · rintro ⟨h20, h2⟩
    exact (soils_P h hok hn h20).1 h2
end Go.Proofs.Ytfmbnobkenngaaa
