/- Package peg: truths, as lists; what lies in memory while pegs are placed. -/
import Derived.Test.YtkjciobphbcknaaL
namespace Go.Proofs.Ytkjciobphbcknaa
open Go.RowKit

def At.set (t : At) (k : Nat) (s : Pl) : At := if k = 0 then { t with p0 := s } else if k = 1 then { t with p1 := s } else if k = 2 then { t with p2 := s } else { t with p3 := s }
theorem At.get_set {t : At} {k : Nat} {s : Pl} (hk : k < 4) (i : Nat) (hi : i < 4) : (t.set k s).get i = if i = k then s else t.get i := by
  match k, hk with
  | 0, _ | 1, _ | 2, _ | 3, _ =>
    match i, hi with
    | 0, _ | 1, _ | 2, _ | 3, _ => simp [At.set, At.get]
theorem At.set_ok {t : At} {k : Nat} {s : Pl} (h : t.ok) (hs : s.ok) : (t.set k s).ok := by
  obtain ⟨h0, h1, h2, h3⟩ := h
  unfold At.set
  repeat' split
  all_goals exact ⟨by first | exact hs | assumption, by first | exact hs | assumption, by first | exact hs | assumption, by first | exact hs | assumption⟩
theorem At.ext {t t' : At} (h : ∀ i : Nat, i < 4 → t.get i = t'.get i) : t = t' := by
  have h0 := h 0 (by omega); have h1 := h 1 (by omega); have h2 := h 2 (by omega); have h3 := h 3 (by omega)
  simp [At.get] at h0 h1 h2 h3
  obtain ⟨a, b, c, d⟩ := t; obtain ⟨a', b', c', d'⟩ := t'
  simp_all
def Agree (k n : Nat) (t t' : At) : Prop := ∀ i : Nat, i < 4 → (i < k ∨ n ≤ i) → t.get i = t'.get i
theorem Agree.refl (k n : Nat) (t : At) : Agree k n t t := fun _ _ _ => rfl
theorem Agree.set {k n : Nat} {t t' : At} (h : Agree k n t t') (hk : k < 4) (s : Pl) : Agree (k + 1) n (t.set k s) (t'.set k s) := fun i hi hc => by
  rw [At.get_set hk i hi, At.get_set hk i hi]
  split
  · rfl
  · exact h i hi (by omega)
theorem Agree.back {k n : Nat} {t t' u : At} {s : Pl} (h : Agree k n t t') (hk : k < 4) (hu : Agree (k + 1) n (t'.set k s) u) (hkn : k < n) : Agree k n t u := fun i hi hc => by
  rw [← hu i hi (by omega), At.get_set hk i hi, if_neg (by omega)]
  exact h i hi hc
theorem Agree.setOne {k n : Nat} {t t' : At} {s : Pl} (h : Agree k n t t') (hk : k < 4) (hkn : k < n) : Agree k n t (t'.set k s) := h.back hk (Agree.refl _ _ _) hkn

def hereL (p : PegsD) (moved : Int) (k : Nat) : List Pl := if (k : Int) = moved then awayL p k else homeL p k
def putL (p : PegsD) (moved : Int) : Nat → Nat → At → List At
  | 0, _, t => [t]
  | m + 1, k, t => (hereL p moved k).flatMap fun s => if lensRightB p.ls (t.set k s) k then putL p moved m (k + 1) (t.set k s) else []
/-- Lengths between pegs that are. -/
def lensFit (p : PegsD) : Prop := ∀ l ∈ p.ls, lenOk l ∧ l.a < p.ps.length ∧ l.b < p.ps.length
theorem lensRight_agree {p : PegsD} (hf : lensFit p) {k n : Nat} {t t' : At} (h : Agree (k + 1) n t t') : lensRightB p.ls t k = lensRightB p.ls t' k := by
  unfold lensRightB
  rw [Bool.eq_iff_iff, List.all_eq_true, List.all_eq_true]
  have key : ∀ l ∈ p.ls, lenAt t k l = lenAt t' k l := by
    intro l hl
    obtain ⟨⟨a1, a2, b1, b2, _⟩, _⟩ := hf l hl
    unfold lenAt
    by_cases hm : max l.a l.b = (k : Int)
    · obtain ⟨a, ha⟩ := Int.eq_ofNat_of_zero_le a1
      obtain ⟨b, hb⟩ := Int.eq_ofNat_of_zero_le b1
      have e1 : t.get l.a = t'.get l.a := by rw [ha]; exact h a (by omega) (by omega)
      have e2 : t.get l.b = t'.get l.b := by rw [hb]; exact h b (by omega) (by omega)
      unfold rightB
      rw [e1, e2]
    · simp [hm]
  exact ⟨fun h l hl => by rw [← key l hl]; exact h l hl, fun h l hl => by rw [key l hl]; exact h l hl⟩
theorem putL_agree {p : PegsD} (hf : lensFit p) (moved : Int) (n : Nat) (hn : n ≤ 4) : ∀ (m k : Nat) (t t' : At), k + m = n → Agree k n t t' → putL p moved m k t = putL p moved m k t' := by
  intro m
  induction m with
  | zero =>
    intro k t t' hk h
    have : t = t' := At.ext fun i hi => h i hi (by omega)
    rw [this]
  | succ m ih =>
    intro k t t' hk h
    simp only [putL]
    congr 1
    funext s
    have h2 := h.set (by omega) s
    rw [lensRight_agree hf h2, ih (k + 1) _ _ (by omega) h2]

theorem rectL_ok {xlo xhi ylo yhi : Int} (h1 : 0 ≤ xlo) (h3 : xhi ≤ 15) (h4 : 0 ≤ ylo) (h6 : yhi ≤ 15) {s : Pl} (hs : s ∈ rectL xlo xhi ylo yhi) : s.ok := by
  simp only [rectL, colsL, colL, List.mem_flatMap, List.mem_range, List.mem_map] at hs
  obtain ⟨i, hi, j, hj, rfl⟩ := hs
  exact ⟨by simp; omega, by simp; omega, by simp; omega, by simp; omega⟩
/-- Pegs that are valid, as far as truths ask. -/
structure Fit (p : PegsD) : Prop where
  s0 : 0 ≤ p.side
  s1 : p.side ≤ 15
  n4 : p.ps.length ≤ 4
  l6 : p.ls.length ≤ 6
  posts : ∀ q ∈ p.ps, postOk q p.side
  lens : lensFit p
theorem homeL_ok {p : PegsD} (hf : Fit p) {k : Nat} {s : Pl} (hs : s ∈ homeL p k) : s.ok := by
  unfold homeL at hs
  split at hs
  · rename_i q hq
    obtain ⟨a, b, c, d, e, f⟩ := hf.posts q (List.mem_of_getElem? hq)
    have := hf.s1
    exact rectL_ok (by omega) (by omega) (by omega) (by omega) hs
  · simp at hs
theorem fieldL_ok {p : PegsD} (hf : Fit p) {s : Pl} (hs : s ∈ fieldL p.side) : s.ok := by
  have := hf.s1
  exact rectL_ok (by omega) (by omega) (by omega) (by omega) hs
theorem hereL_ok {p : PegsD} (hf : Fit p) {moved : Int} {k : Nat} {s : Pl} (hs : s ∈ hereL p moved k) : s.ok := by
  unfold hereL at hs
  split at hs
  · exact fieldL_ok hf (List.mem_filter.1 hs).1
  · exact homeL_ok hf hs
theorem hereL_length {p : PegsD} (hf : Fit p) (moved : Int) (k : Nat) : (hereL p moved k).length ≤ 256 := by
  have := hf.s1
  unfold hereL
  split
  · exact Nat.le_trans (List.length_filter_le _ _) (rectL_length _ _ _ _ (by omega) (by omega) (by omega) (by omega))
  · unfold homeL
    split
    · rename_i q hq
      obtain ⟨a, b, c, d, e, f⟩ := hf.posts q (List.mem_of_getElem? hq)
      exact rectL_length _ _ _ _ (by omega) (by omega) (by omega) (by omega)
    · simp

/-- Block b holds four places. -/
def AtIs (W : World) (b : Nat) (t : At) : Prop := ∀ i : Nat, i < 4 → W.cell? ⟨b, i * 2, none⟩ = some (.int .i64 (t.get i).x) ∧ W.cell? ⟨b, i * 2 + 1, none⟩ = some (.int .i64 (t.get i).y) ∧ W.frozen? ⟨b, i * 2, none⟩ = false ∧ W.frozen? ⟨b, i * 2 + 1, none⟩ = false
theorem AtIs.keptT {T : Nat → Prop} {W W' : World} {b : Nat} {t : At} (h : AtIs W b t) (hk : KeptT T W W') (hb : ¬ T b) : AtIs W' b t := fun i hi => by
  obtain ⟨h1, h2, h3, h4⟩ := h i hi
  have hl := World.block_lt_of_cell? W _ h1
  exact ⟨(hk.cells _ _ hl hb).trans h1, (hk.cells _ _ hl hb).trans h2, (hk.frozens _ _ hl hb).trans h3, (hk.frozens _ _ hl hb).trans h4⟩
theorem AtIs.kept {W W' : World} {b : Nat} {t : At} (h : AtIs W b t) (hk : Kept W W') : AtIs W' b t := h.keptT (T := fun _ => False) (Kept.toT hk _) (fun h => h)
theorem AtIs.set {W : World} {b : Nat} {t : At} (h : AtIs W b t) (k : Nat) (hk : k < 4) (s : Pl) : AtIs ((W.setCell ⟨b, k * 2, none⟩ (.int .i64 s.x)).setCell ⟨b, k * 2 + 1, none⟩ (.int .i64 s.y)) b (t.set k s) := fun i hi => by
  obtain ⟨h1, h2, h3, h4⟩ := h i hi
  rw [At.get_set hk i hi]
  refine ⟨?_, ?_, by rw [World.frozen?_setCell, World.frozen?_setCell]; exact h3, by rw [World.frozen?_setCell, World.frozen?_setCell]; exact h4⟩
  · rw [World.cell?_setCell_other _ _ _ _ (by simp <;> omega)]
    split
    · rename_i e; subst e; exact World.cell?_setCell_same' _ _ _ (by rw [h1]; rfl)
    · rw [World.cell?_setCell_other _ _ _ _ (by simp <;> omega)]; exact h1
  · split
    · rename_i e; subst e; exact World.cell?_setCell_same' _ _ _ (by rw [World.cell?_setCell_other _ _ _ _ (by simp), h2]; rfl)
    · rw [World.cell?_setCell_other _ _ _ _ (by simp <;> omega), World.cell?_setCell_other _ _ _ _ (by simp <;> omega)]; exact h2
end Go.Proofs.Ytkjciobphbcknaa
