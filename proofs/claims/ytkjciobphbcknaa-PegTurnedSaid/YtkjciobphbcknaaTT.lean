/- PegTrue: what is told of pegs that truly stand. -/
import Derived.Test.YtkjciobphbcknaaTN
import Derived.Test.YtkjciobphbcknaaPD
namespace Go.Proofs.Ytkjciobphbcknaa
open Go.RowKit En

structure MadeD (p : PegsD) (qs : List Pl) (m : Int) : Prop where
  s4 : 4 ≤ p.side
  s8 : p.side ≤ 8
  n3 : p.ps.length ≤ 3
  l6 : p.ls.length ≤ 6
  good : MGood p.side p.ps qs m
  lens : ∀ l ∈ p.ls, LenGood qs l
def placedAt (qs : List Pl) : At := ⟨qs.getD 0 ⟨0, 0⟩, qs.getD 1 ⟨0, 0⟩, qs.getD 2 ⟨0, 0⟩, qs.getD 3 ⟨0, 0⟩⟩
theorem placedAt_get (qs : List Pl) (i : Nat) (hi : i < 4) : (placedAt qs).get (i : Int) = qs.getD i ⟨0, 0⟩ := by
  match i, hi with
  | 0, _ | 1, _ | 2, _ | 3, _ => rfl
theorem placedAt_some {qs : List Pl} {i : Nat} {s : Pl} (hi : i < 4) (h : qs[i]? = some s) : (placedAt qs).get (i : Int) = s := by
  rw [placedAt_get _ _ hi, List.getD_eq_getElem?_getD, h]; rfl
section
variable {p : PegsD} {qs : List Pl} {m : Int} (h : MadeD p qs m)
include h
theorem MadeD.valid : validB p = true := by
  obtain ⟨s4, s8, n3, l6, hg, hl⟩ := h
  simp only [validB, sizesB, lensB, Bool.and_eq_true, decide_eq_true_eq, List.all_eq_true]
  refine ⟨⟨⟨⟨by omega, by omega⟩, by omega⟩, by omega⟩, fun q hq => ?_, fun l hm => ?_⟩
  · obtain ⟨i, hi, e⟩ := List.getElem_of_mem hq
    exact (hg.each i q (qs[i]'(by rw [← hg.len]; exact hi)) (by rw [List.getElem?_eq_getElem hi, e]) (List.getElem?_eq_getElem _)).1
  · obtain ⟨a, b, s, t, e1, e2, hne, hs, ht, b1, b2, b3, _, _⟩ := hl l hm
    have ha := (List.getElem?_eq_some_iff.1 hs).1
    have hb := (List.getElem?_eq_some_iff.1 ht).1
    have hlen := hg.len
    simp only [lenB, isPegB, withinB, e1, e2, Bool.and_eq_true, decide_eq_true_eq, Bool.not_eq_true', decide_eq_false_iff_not]
    omega
theorem MadeD.truth : IsTruth p (placedAt qs) m := by
  obtain ⟨s4, s8, n3, l6, hg, hl⟩ := h
  have hlen := hg.len
  refine ⟨hg.m0, hg.m1, fun i q hq => ?_, fun i h1 h2 => ?_, fun l hm => ?_⟩
  · have hi := (List.getElem?_eq_some_iff.1 hq).1
    obtain ⟨s, hs⟩ : ∃ s, qs[i]? = some s := ⟨_, List.getElem?_eq_getElem (by omega)⟩
    rw [placedAt_some (by omega) hs]
    exact (hg.each i q s hq hs).2
  · rw [placedAt_get _ _ h2, List.getD_eq_getElem?_getD, List.getElem?_eq_none (by omega)]; rfl
  · obtain ⟨a, b, s, t, e1, e2, hne, hs, ht, b1, b2, b3, b4, b5⟩ := hl l hm
    have ha := (List.getElem?_eq_some_iff.1 hs).1
    have hb := (List.getElem?_eq_some_iff.1 ht).1
    rw [rightB, e1, e2, placedAt_some (by omega) hs, placedAt_some (by omega) ht]
    simp [b4, b5]
theorem MadeD.mem : (placedAt qs, m) ∈ truthsL p := (mem_truthsL (fit_of_valid h.valid)).2 h.truth
theorem MadeD.ne : truthsL p ≠ [] := List.ne_nil_of_mem h.mem
theorem MadeD.lt {i : Nat} {s : Pl} (hs : qs[i]? = some s) : i < p.ps.length := by rw [h.good.len]; exact (List.getElem?_eq_some_iff.1 hs).1
theorem MadeD.get {i : Nat} {s : Pl} (hs : qs[i]? = some s) : (placedAt qs).get (i : Int) = s := placedAt_some (by have := h.lt hs; have := h.n3; omega) hs
theorem MadeD.stand {i : Nat} {s : Pl} (hs : qs[i]? = some s) : s ∈ standL i (truthsL p) := (mem_stand (fit_of_valid h.valid) i).2 ⟨_, _, h.truth, h.get hs⟩
theorem MadeD.moved : ∃ (S : Nat) (b : Bool), movedR p = .ok (2 ^ p.ps.length - 1, (S : Int), b) ∧ S < 8 ∧ (m = -1 → b = true) ∧ (m ≠ -1 → S.testBit m.toNat = true) := by
  have hn := h.n3
  obtain ⟨S, b, h1, h2, h3, h4⟩ := susRun_spec p.ps.length (by omega) (truthsL p) (fun x hx => by
    obtain ⟨t, k⟩ := x
    have := (mem_truthsL (fit_of_valid h.valid)).1 hx
    exact ⟨this.1, this.2.1⟩)
  refine ⟨S, b, ?_, ?_, fun e => h3.2 ⟨_, h.mem, e⟩, fun e => (h4 _).2 ⟨_, h.mem, ?_⟩⟩
  · rw [movedR, if_neg (by simp [h.valid]), if_neg h.ne, h1]
  · exact Nat.lt_of_lt_of_le h2 (Nat.pow_le_pow_right (by omega) (show p.ps.length ≤ 3 from hn))
  · have := h.good.m0
    simp only; omega
theorem MadeD.inF {i : Nat} {s : Pl} (hi : i < p.ps.length) (hs : s ∈ standL i (truthsL p)) : inField p.side s := by
  obtain ⟨t, k, h1, rfl⟩ := (mem_stand (fit_of_valid h.valid) i).1 hs
  exact truth_field h1 hi
omit h in
theorem nodup_le : ∀ (L M : List Pl), L.Nodup → (∀ s ∈ L, s ∈ M) → L.length ≤ M.length
  | [], M, _, _ => Nat.zero_le _
  | a :: r, M, hn, hs => by
    rw [List.nodup_cons] at hn
    have ha := hs a (by simp)
    have := nodup_le r (M.erase a) hn.2 (fun s hr => (List.mem_erase_of_ne (by rintro rfl; exact hn.1 hr)).2 (hs s (by simp [hr])))
    rw [List.length_erase_of_mem ha] at this
    have := List.length_pos_of_mem ha
    simp only [List.length_cons]; omega
theorem MadeD.where_ {i : Nat} {s : Pl} (hs : qs[i]? = some s) : ∃ a b c d n : Int, whereR p i = .ok ((a, b), (c, d)) ∧ placesR p i = .ok n ∧ a ≤ s.x ∧ s.x ≤ b ∧ c ≤ s.y ∧ s.y ≤ d ∧ 0 ≤ a ∧ b ≤ 8 ∧ 0 ≤ c ∧ d ≤ 8 ∧ 1 ≤ n ∧ n ≤ (b - a + 1) * (d - c + 1) := by
  have hi := h.lt hs
  have h8 := h.s8
  have hst := h.stand hs
  have hne := List.ne_nil_of_mem hst
  have hck : checkR p [(i : Int)] = none := checkR_ok h.valid (by simp; omega)
  obtain ⟨_, x1, ⟨u1, y1, z1⟩, ⟨u2, y2, z2⟩⟩ := endsOn_spec Pl.x _ hne
  obtain ⟨_, x2, ⟨u3, y3, z3⟩, ⟨u4, y4, z4⟩⟩ := endsOn_spec Pl.y _ hne
  have f1 := h.inF hi y1
  have f2 := h.inF hi y2
  have f3 := h.inF hi y3
  have f4 := h.inF hi y4
  simp only [inField] at f1 f2 f3 f4
  have hcount := nodup_le _ (rectL (endsOn Pl.x (standL i (truthsL p))).lo (endsOn Pl.x (standL i (truthsL p))).hi (endsOn Pl.y (standL i (truthsL p))).lo (endsOn Pl.y (standL i (truthsL p))).hi) (standL_nodup i (truthsL p)) (fun s hs => mem_rectL.2 ⟨(x1 s hs).1, (x1 s hs).2, (x2 s hs).1, (x2 s hs).2⟩)
  rw [rectL, colsL_length] at hcount
  have hpos := List.length_pos_of_mem hst
  have e1 := x1 s hst
  have e2 := x2 s hst
  refine ⟨_, _, _, _, ((standL i (truthsL p)).length : Int), ?_, ?_, e1.1, e1.2, e2.1, e2.2, by omega, by omega, by omega, by omega, ?_, ?_⟩
  · rw [whereR, hck]; simp only [h.ne, if_false, Int.toNat_natCast]; rfl
  · rw [placesR, hck]; simp only [h.ne, if_false, Int.toNat_natCast]
  · omega
  · have h1 := Int.ofNat_le.2 hcount
    rw [Int.natCast_mul, Int.toNat_of_nonneg (by omega), Int.toNat_of_nonneg (by omega)] at h1
    rw [show (endsOn Pl.x (standL i (truthsL p))).hi - (endsOn Pl.x (standL i (truthsL p))).lo + 1 = (endsOn Pl.x (standL i (truthsL p))).hi + 1 - (endsOn Pl.x (standL i (truthsL p))).lo by omega, show (endsOn Pl.y (standL i (truthsL p))).hi - (endsOn Pl.y (standL i (truthsL p))).lo + 1 = (endsOn Pl.y (standL i (truthsL p))).hi + 1 - (endsOn Pl.y (standL i (truthsL p))).lo by omega]
    exact h1
theorem MadeD.back {i : Nat} {s : Pl} {q : Post} (hm : (i : Int) = m) (hs : qs[i]? = some s) (hq : p.ps[i]? = some q) : ∃ a b : Int, backR p i = .ok (a, b) ∧ a ≤ backI s q ∧ backI s q ≤ b := by
  have hi := h.lt hs
  have hck : checkR p [(i : Int)] = none := checkR_ok h.valid (by simp; omega)
  have hst : s ∈ strayL (i : Int) (truthsL p) := mem_strayL.2 ⟨_, h.mem, hm.symm, h.get hs⟩
  have hne := List.ne_nil_of_mem hst
  have hpo : postAt p (i : Int) = q := by rw [postAt, Int.toNat_natCast, List.getD_eq_getElem?_getD, hq]; rfl
  obtain ⟨_, x1, _, _⟩ := endsOn_spec (fun s => backI s q) _ hne
  refine ⟨_, _, ?_, (x1 s hst).1, (x1 s hst).2⟩
  rw [backR, hck]; simp only [h.ne, hne, if_false, hpo]; rfl
theorem MadeD.proof {i : Nat} (hi : i < p.ps.length) : proofR p i = .error 4 ∨ ∃ x : Nat, proofR p i = .ok (x : Int) ∧ (i : Int) = m := by
  rcases proofR_first h.valid hi with ⟨h1, _⟩ | ⟨x, h1, h2, _, h3, _⟩
  · exact .inl h1
  · refine .inr ⟨x, h1, ?_⟩
    have hp := (provesR_iff h.valid x i).1 h3
    obtain ⟨a, b, c, d, e⟩ := h.truth
    have ht : IsTruth (partP p x) (placedAt qs) m := ⟨a, b, c, d, fun l hl => e l (by obtain ⟨k, _, hk⟩ := mem_partL.1 hl; exact List.mem_of_getElem? hk)⟩
    exact (hp.2 _ _ ht).symm
theorem MadeD.apart {i j : Nat} {s t : Pl} (hs : qs[i]? = some s) (ht : qs[j]? = some t) : ∃ a b : Int, apartR p i j = .ok (a, b) ∧ a ≤ sqI s.x s.y t.x t.y ∧ sqI s.x s.y t.x t.y ≤ b := by
  have hi := h.lt hs
  have hj := h.lt ht
  have hck : checkR p [(i : Int), (j : Int)] = none := checkR_ok h.valid (by simp; omega)
  obtain ⟨_, x1, _, _⟩ := endsL_spec (fun x => apartI (x.1.get i) (x.1.get j)) _ h.ne
  have e := x1 _ h.mem
  simp only [h.get hs, h.get ht] at e
  refine ⟨_, _, ?_, e.1, e.2⟩
  rw [apartR, hck]; simp only [endsR, h.ne, if_false]
theorem MadeD.area {r s t : Pl} (hr : qs[0]? = some r) (hs : qs[1]? = some s) (ht : qs[2]? = some t) : ∃ a b : Int, areaR p 0 1 2 = .ok (a, b) ∧ a ≤ twI r s t ∧ twI r s t ≤ b := by
  have hj := h.lt ht
  have hck : checkR p [(0 : Int), 1, 2] = none := checkR_ok h.valid (by simp; omega)
  obtain ⟨_, x1, _, _⟩ := endsL_spec (areaA 0 1 2) _ h.ne
  have e := x1 _ h.mem
  have g0 := h.get hr
  have g1 := h.get hs
  have g2 := h.get ht
  have e2 : areaA 0 1 2 (placedAt qs, m) = twI r s t := by
    unfold areaA
    simp only
    rw [show (0 : Int) = ((0 : Nat) : Int) from rfl, show (1 : Int) = ((1 : Nat) : Int) from rfl, show (2 : Int) = ((2 : Nat) : Int) from rfl, g0, g1, g2]; rfl
  rw [e2] at e
  refine ⟨_, _, ?_, e.1, e.2⟩
  rw [areaR, hck]; simp only [endsR, h.ne, if_false]; rfl
end
end Go.Proofs.Ytkjciobphbcknaa
