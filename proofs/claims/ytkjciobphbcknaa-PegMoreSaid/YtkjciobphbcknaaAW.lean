/- Package peg: with narrower pegs nothing is told less exactly. -/
import Derived.Test.YtkjciobphbcknaaAV
namespace Go.Proofs.Ytkjciobphbcknaa
open Go.RowKit

/-- Wherever pegs stand by q they can stand by p. -/
def Sub (q p : PegsD) : Prop := q.ps.length = p.ps.length ∧ ∀ t m, IsTruth q t m → ∃ m', IsTruth p t m'
theorem truths_some {p : PegsD} (hf : Fit p) : truthsL p ≠ [] ↔ ∃ t m, IsTruth p t m := by
  constructor
  · intro h
    cases hE : truthsL p with
    | nil => exact absurd hE h
    | cons x r => exact ⟨x.1, x.2, (mem_truthsL hf).1 (by rw [hE]; simp)⟩
  · rintro ⟨t, m, h⟩
    exact List.ne_nil_of_mem ((mem_truthsL hf).2 h)
section
variable {p q : PegsD} (hp : validB p = true) (hq : validB q = true) (hs : Sub q p) (hne : truthsL q ≠ [])
include hp hq hs hne in
theorem sub_some : truthsL p ≠ [] := by
  obtain ⟨t, m, h⟩ := (truths_some (fit_of_valid hq)).1 hne
  obtain ⟨m', h'⟩ := hs.2 t m h
  exact (truths_some (fit_of_valid hp)).2 ⟨t, m', h'⟩
include hp hq hs in
theorem sub_check (xs : List Int) : checkR q xs = checkR p xs := by simp [checkR, hp, hq, hs.1]
theorem checkR_cases {p : PegsD} (hp : validB p = true) (xs : List Int) : checkR p xs = some 2 ∨ checkR p xs = none ∧ ∀ x ∈ xs, 0 ≤ x ∧ x < p.ps.length := by
  by_cases h : xs.all (isPegB p.ps.length) = true
  · right
    refine ⟨by simp [checkR, hp, h], fun x hx => ?_⟩
    have := List.all_eq_true.1 h x hx
    simpa [isPegB] using this
  · left
    have : xs.all (isPegB p.ps.length) = false := by simpa using h
    simp [checkR, hp, this]
/-- One span lies in another one. -/
def spanIn (a b : Int × Int) : Prop := b.1 ≤ a.1 ∧ a.2 ≤ b.2
omit hne in
include hp hq hs in
theorem sub_stand {i : Nat} {s : Pl} (h : s ∈ standL i (truthsL q)) : s ∈ standL i (truthsL p) := by
  obtain ⟨t, m, h1, h2⟩ := (mem_stand (fit_of_valid hq) i).1 h
  obtain ⟨m', h'⟩ := hs.2 t m h1
  exact (mem_stand (fit_of_valid hp) i).2 ⟨t, m', h', h2⟩
theorem stand_ne {p : PegsD} (i : Nat) (h : truthsL p ≠ []) : standL i (truthsL p) ≠ [] := by
  cases hE : truthsL p with
  | nil => exact absurd hE h
  | cons x r => exact List.ne_nil_of_mem (mem_standL.2 ⟨x, by simp, rfl⟩)
theorem endsOn_in (f : Pl → Int) {L M : List Pl} (hL : L ≠ []) (h : ∀ s ∈ L, s ∈ M) : spanIn (spanOf (endsOn f L)) (spanOf (endsOn f M)) := by
  have hM : M ≠ [] := by
    cases L with
    | nil => exact absurd rfl hL
    | cons a r => exact List.ne_nil_of_mem (h a (by simp))
  obtain ⟨_, _, ⟨s1, b1, c1⟩, ⟨s2, b2, c2⟩⟩ := endsOn_spec f L hL
  obtain ⟨_, d1, _, _⟩ := endsOn_spec f M hM
  have x1 := d1 s1 (h s1 b1)
  have x2 := d1 s2 (h s2 b2)
  simp only [spanIn, spanOf]
  omega
include hp hq hs hne in
theorem sub_where (i : Int) : (whereR q i = .error 2 ∧ whereR p i = .error 2) ∨ ∃ x y u v, whereR q i = .ok (x, y) ∧ whereR p i = .ok (u, v) ∧ spanIn x u ∧ spanIn y v := by
  have hpe := sub_some hp hq hs hne
  have hc := sub_check hp hq hs [i]
  rcases checkR_cases hp [i] with h | ⟨h, _⟩
  · left; simp only [whereR, hc, h]; exact ⟨trivial, trivial⟩
  · right
    simp only [whereR, hc, h, hne, hpe, if_false]
    exact ⟨_, _, _, _, rfl, rfl, endsOn_in _ (stand_ne _ hne) (fun s hs' => sub_stand hp hq hs hs'), endsOn_in _ (stand_ne _ hne) (fun s hs' => sub_stand hp hq hs hs')⟩
include hp hq hs hne in
theorem sub_places (i : Int) : (placesR q i = .error 2 ∧ placesR p i = .error 2) ∨ ∃ a b : Nat, placesR q i = .ok (a : Int) ∧ placesR p i = .ok (b : Int) ∧ a ≤ b := by
  have hpe := sub_some hp hq hs hne
  have hc := sub_check hp hq hs [i]
  rcases checkR_cases hp [i] with h | ⟨h, _⟩
  · left; simp only [placesR, hc, h]; exact ⟨trivial, trivial⟩
  · right
    simp only [placesR, hc, h, hne, hpe, if_false]
    exact ⟨_, _, rfl, rfl, nodup_len _ _ (standL_nodup _ _) (fun s hs' => sub_stand hp hq hs hs')⟩
include hp hq hs hne in
theorem sub_ends (f : At → Int) : ∃ a b, endsR (fun x => f x.1) q = .ok a ∧ endsR (fun x => f x.1) p = .ok b ∧ spanIn a b := by
  have hpe := sub_some hp hq hs hne
  simp only [endsR, hne, hpe, if_false]
  refine ⟨_, _, rfl, rfl, ?_⟩
  obtain ⟨_, _, ⟨s1, b1, c1⟩, ⟨s2, b2, c2⟩⟩ := endsL_spec (fun x => f x.1) _ hne
  obtain ⟨_, d1, _, _⟩ := endsL_spec (fun x => f x.1) _ hpe
  have key : ∀ x ∈ truthsL q, ∃ y ∈ truthsL p, y.1 = x.1 := fun x hx => by
    obtain ⟨m', h'⟩ := hs.2 x.1 x.2 ((mem_truthsL (fit_of_valid hq)).1 hx)
    exact ⟨(x.1, m'), (mem_truthsL (fit_of_valid hp)).2 h', rfl⟩
  obtain ⟨y1, hy1, e1⟩ := key s1 b1
  obtain ⟨y2, hy2, e2⟩ := key s2 b2
  have x1 := (d1 y1 hy1).1
  have x2 := (d1 y2 hy2).2
  simp only [e1] at x1
  simp only [e2] at x2
  simp only [spanIn]
  omega
include hp hq hs hne in
theorem sub_apart (i j : Int) : (apartR q i j = .error 2 ∧ apartR p i j = .error 2) ∨ ∃ a b, apartR q i j = .ok a ∧ apartR p i j = .ok b ∧ spanIn a b := by
  have hc := sub_check hp hq hs [i, j]
  rcases checkR_cases hp [i, j] with h | ⟨h, _⟩
  · left; simp only [apartR, hc, h]; exact ⟨trivial, trivial⟩
  · right
    simp only [apartR, hc, h]
    exact sub_ends hp hq hs hne (fun t => apartI (t.get i) (t.get j))
include hp hq hs hne in
theorem sub_area (i j k : Int) : (areaR q i j k = .error 2 ∧ areaR p i j k = .error 2) ∨ ∃ a b, areaR q i j k = .ok a ∧ areaR p i j k = .ok b ∧ spanIn a b := by
  have hc := sub_check hp hq hs [i, j, k]
  rcases checkR_cases hp [i, j, k] with h | ⟨h, _⟩
  · left; simp only [areaR, hc, h]; exact ⟨trivial, trivial⟩
  · by_cases he : i = j ∨ j = k ∨ k = i
    · left; simp only [areaR, hc, h, he, if_true]; exact ⟨trivial, trivial⟩
    · right
      simp only [areaR, hc, h, he, if_false]
      exact sub_ends hp hq hs hne (fun t => max (areaI (t.get i) (t.get j) (t.get k)) (-areaI (t.get i) (t.get j) (t.get k)))
end

/-- A length more. -/
def plusP (p : PegsD) (l : Len) : PegsD := ⟨p.side, p.ps, p.ls ++ [l]⟩
theorem plus_truth {p : PegsD} {l : Len} {t : At} {m : Int} (h : IsTruth (plusP p l) t m) : IsTruth p t m := ⟨h.1, h.2.1, h.2.2.1, h.2.2.2.1, fun l' hl => h.2.2.2.2 l' (by simp [plusP, hl])⟩
theorem plus_sub (p : PegsD) (l : Len) : Sub (plusP p l) p := ⟨rfl, fun _ m h => ⟨m, plus_truth h⟩⟩
/-- A narrower length. -/
def lessLen (l : Len) : Len := { l with lo := min l.hi (l.lo + 1) }
def narrowL (p : PegsD) (k : Nat) : PegsD := ⟨p.side, p.ps, p.ls.modify k lessLen⟩
theorem sq_mono {a b : Int} (h0 : 0 ≤ a) (h : a ≤ b) : a * a ≤ b * b := Int.mul_le_mul h h h0 (by omega)
theorem narrowL_truth {p : PegsD} (hv : validB p = true) {k : Nat} {t : At} {m : Int} (h : IsTruth (narrowL p k) t m) : IsTruth p t m := by
  refine ⟨h.1, h.2.1, h.2.2.1, h.2.2.2.1, fun l hl => ?_⟩
  obtain ⟨i, hi⟩ := List.mem_iff_getElem?.1 hl
  have hfit := (fit_of_valid hv).lens l hl
  obtain ⟨⟨_, _, _, _, h1, h2, _⟩, _⟩ := hfit
  by_cases hik : k = i
  · subst hik
    have hm : lessLen l ∈ (narrowL p k).ls := List.mem_of_getElem? (i := k) (by simp [narrowL, hi])
    have hr := h.2.2.2.2 _ hm
    simp only [rightB, lessLen, Bool.and_eq_true] at hr ⊢
    exact ⟨decide_eq_true (Int.le_trans (sq_mono h1 (show l.lo ≤ min l.hi (l.lo + 1) by omega)) (of_decide_eq_true hr.1)), hr.2⟩
  · have hm : l ∈ (narrowL p k).ls := List.mem_of_getElem? (i := i) (by simp [narrowL, hik, hi])
    exact h.2.2.2.2 l hm
theorem narrowL_sub {p : PegsD} (hv : validB p = true) (k : Nat) : Sub (narrowL p k) p := ⟨rfl, fun _ m h => ⟨m, narrowL_truth hv h⟩⟩
/-- A narrower post. -/
def lessPost (q : Post) : Post := { q with xhi := max q.xlo (q.xhi - 1) }
def narrowP (p : PegsD) (k : Nat) : PegsD := ⟨p.side, p.ps.modify k lessPost, p.ls⟩
theorem narrowP_sub {p : PegsD} (hv : validB p = true) (k : Nat) : Sub (narrowP p k) p := by
  have hf := fit_of_valid hv
  refine ⟨by simp [narrowP], fun t m h => ?_⟩
  obtain ⟨h1, h2, h3, h4, h5⟩ := h
  have hlen : (narrowP p k).ps.length = p.ps.length := by simp [narrowP]
  rw [hlen] at h2 h4
  have side : (narrowP p k).side = p.side := rfl
  -- who is not at his post there is either not here, or is
  by_cases hm : 0 ≤ m ∧ ∃ q, p.ps[m.toNat]? = some q ∧ atPost q (t.get m)
  · obtain ⟨hm0, q0, hq0, hat⟩ := hm
    refine ⟨-1, by omega, by omega, fun i q hq => ?_, h4, h5⟩
    have hin : inField p.side (t.get i) ∧ atPost q (t.get i) := by
      by_cases hi : (i : Int) = m
      · have : m.toNat = i := by omega
        rw [this, hq] at hq0
        cases hq0
        subst hi
        obtain ⟨a1, a2, a3, a4, a5, a6⟩ := hf.posts _ (List.mem_of_getElem? hq)
        obtain ⟨b1, b2, b3, b4⟩ := hat
        exact ⟨⟨by omega, by omega, by omega, by omega⟩, ⟨b1, b2, b3, b4⟩⟩
      · by_cases hik : k = i
        · subst hik
          obtain ⟨c1, c2⟩ := h3 k (lessPost q) (by simp [narrowP, hq])
          refine ⟨c1, ?_⟩
          obtain ⟨b1, b2, b3, b4⟩ := c2.2 hi
          obtain ⟨a1, a2, _⟩ := hf.posts q (List.mem_of_getElem? hq)
          simp only [lessPost] at b1 b2 b3 b4
          exact ⟨b1, by omega, b3, b4⟩
        · obtain ⟨c1, c2⟩ := h3 i q (by simp [narrowP, hik, hq])
          exact ⟨c1, c2.2 hi⟩
    exact ⟨hin.1, fun _ => by omega, fun _ => hin.2⟩
  · refine ⟨m, h1, h2, fun i q hq => ?_, h4, h5⟩
    by_cases hi : (i : Int) = m
    · have hnat : ¬ atPost q (t.get i) := fun ha => hm ⟨by omega, q, by rw [← hi]; simpa using hq, by rw [← hi]; exact ha⟩
      have hin : inField p.side (t.get i) := by
        by_cases hik : k = i
        · subst hik; exact (h3 k (lessPost q) (by simp [narrowP, hq])).1
        · exact (h3 i q (by simp [narrowP, hik, hq])).1
      exact ⟨hin, fun ha => absurd ha hnat, fun hne => absurd hi hne⟩
    · by_cases hik : k = i
      · subst hik
        obtain ⟨c1, c2⟩ := h3 k (lessPost q) (by simp [narrowP, hq])
        obtain ⟨b1, b2, b3, b4⟩ := c2.2 hi
        obtain ⟨a1, a2, _⟩ := hf.posts q (List.mem_of_getElem? hq)
        simp only [lessPost] at b1 b2 b3 b4
        exact ⟨c1, fun _ => hi, fun _ => ⟨b1, by omega, b3, b4⟩⟩
      · obtain ⟨c1, c2⟩ := h3 i q (by simp [narrowP, hik, hq])
        exact ⟨c1, c2⟩

/-- Nobody more can have been moved. -/
theorem sub_moved {p q : PegsD} (hp : validB p = true) (hq : validB q = true) (hlen : q.ps.length = p.ps.length) (hsub : ∀ t m, IsTruth q t m → IsTruth p t m) (hne : truthsL q ≠ []) :
    ∃ (A B : Int) (S S' : Nat) (b b' : Bool), movedR p = .ok (A, (S : Int), b) ∧ movedR q = .ok (B, (S' : Int), b') ∧ S < 16 ∧ S' < 16 ∧ (b' = true → b = true) ∧ S' &&& S = S' := by
  have hs : Sub q p := ⟨hlen, fun t m h => ⟨m, hsub t m h⟩⟩
  have hpe := sub_some hp hq hs hne
  obtain ⟨S, b, h1, h2, h3, h4⟩ := movedR_spec hp hpe
  obtain ⟨S', b', h1', h2', h3', h4'⟩ := movedR_spec hq hne
  have p4 : 2 ^ p.ps.length ≤ 16 := Nat.pow_le_pow_right (by omega) (show p.ps.length ≤ 4 from (fit_of_valid hp).n4)
  have q4 : 2 ^ q.ps.length ≤ 16 := Nat.pow_le_pow_right (by omega) (show q.ps.length ≤ 4 from (fit_of_valid hq).n4)
  refine ⟨_, _, S, S', b, b', h1, h1', by omega, by omega, fun h => ?_, sub_iff.2 fun j hj => ?_⟩
  · obtain ⟨t, ht⟩ := h3'.1 h
    exact h3.2 ⟨t, hsub t _ ht⟩
  · obtain ⟨t, ht⟩ := (h4' j).1 hj
    exact (h4 j).2 ⟨t, hsub t _ ht⟩
/-- Whether there is a truth or not: what Moved tells of valid pegs. -/
theorem movedR_cases {q : PegsD} (hq : validB q = true) : (truthsL q = [] ∧ movedR q = .error 10) ∨ truthsL q ≠ [] := by
  by_cases h : truthsL q = []
  · left; exact ⟨h, by rw [movedR, if_neg (by simp [hq]), if_pos h]⟩
  · exact .inr h
end Go.Proofs.Ytkjciobphbcknaa
