/- Package peg: what proves, without lists. -/
import Derived.Test.YtkjciobphbcknaaAS
import Derived.Test.YtkjciobphbcknaaAM
namespace Go.Proofs.Ytkjciobphbcknaa
open Go.RowKit

theorem setN_bit (ls : List Len) (t : At) : ∀ (k j : Nat), (setN ls t k).testBit j = true ↔ j < k ∧ ∃ l, ls[j]? = some l ∧ rightB l t = true
  | 0, j => by simp [setN]
  | k + 1, j => by
    have ih := setN_bit ls t k j
    have hlt := setN_lt ls t k
    have e : (setN ls t k + 2 ^ k) = 2 ^ k ||| setN ls t k := by rw [Nat.add_comm]; have := Nat.two_pow_add_eq_or_of_lt hlt 1; simpa using this
    simp only [setN]
    cases hl : ls[k]? with
    | none =>
      simp only [Bool.false_eq_true, if_false]
      rw [ih]
      constructor
      · rintro ⟨a, b⟩; exact ⟨by omega, b⟩
      · rintro ⟨a, b, hb, c⟩
        have : j ≠ k := by rintro rfl; rw [hl] at hb; cases hb
        exact ⟨by omega, b, hb, c⟩
    | some l =>
      simp only
      by_cases hr : rightB l t = true
      · rw [if_pos hr, e, Nat.testBit_or, Nat.testBit_two_pow, Bool.or_eq_true, decide_eq_true_eq, ih]
        constructor
        · rintro (rfl | ⟨a, b⟩)
          · exact ⟨by omega, l, hl, hr⟩
          · exact ⟨by omega, b⟩
        · rintro ⟨a, b⟩
          by_cases hjk : k = j
          · exact .inl hjk
          · exact .inr ⟨by omega, b⟩
      · rw [if_neg hr, ih]
        constructor
        · rintro ⟨a, b⟩; exact ⟨by omega, b⟩
        · rintro ⟨a, b, hb, c⟩
          have : j ≠ k := by rintro rfl; rw [hl] at hb; cases hb; exact hr c
          exact ⟨by omega, b, hb, c⟩
theorem bitAt_eq (set j : Nat) : bitAt set j = set.testBit j := by
  rw [bitAt, Nat.testBit_eq_decide_div_mod_eq]
theorem mem_partTo {set : Nat} {ls : List Len} {l : Len} : ∀ {j : Nat}, l ∈ partTo set ls j ↔ ∃ k, k < j ∧ set.testBit k = true ∧ ls[k]? = some l
  | 0 => by simp [partTo]
  | j + 1 => by
    rw [partTo, List.mem_append, mem_partTo]
    constructor
    · rintro (⟨k, a, b, c⟩ | h)
      · exact ⟨k, by omega, b, c⟩
      · split at h
        · rename_i hb
          rw [bitAt_eq] at hb
          exact ⟨j, by omega, hb, by simpa using h⟩
        · simp at h
    · rintro ⟨k, a, b, c⟩
      by_cases e : k = j
      · subst e
        exact .inr (by rw [bitAt_eq, if_pos b, c]; simp)
      · exact .inl ⟨k, by omega, b, c⟩
theorem mem_partL {set : Nat} {ls : List Len} {l : Len} : l ∈ partL set ls ↔ ∃ k, set.testBit k = true ∧ ls[k]? = some l := by
  rw [partL, mem_partTo]
  constructor
  · rintro ⟨k, _, b, c⟩; exact ⟨k, b, c⟩
  · rintro ⟨k, b, c⟩; exact ⟨k, (List.getElem?_eq_some_iff.1 c).1, b, c⟩
/-- Pegs with some of their lengths. -/
def partP (p : PegsD) (set : Nat) : PegsD := ⟨p.side, p.ps, partL set p.ls⟩
theorem sub_iff {a b : Nat} : a &&& b = a ↔ ∀ j, a.testBit j = true → b.testBit j = true := by
  constructor
  · intro h j hj
    rw [← h, Nat.testBit_and, Bool.and_eq_true] at hj
    exact hj.2
  · intro h
    apply Nat.eq_of_testBit_eq
    intro j
    rw [Nat.testBit_and]
    cases hj : a.testBit j
    · rfl
    · rw [h j hj]; rfl
theorem part_right {p : PegsD} {set : Nat} {t : At} (hs : set < 2 ^ p.ls.length) : (∀ l ∈ partL set p.ls, rightB l t = true) ↔ setN p.ls t p.ls.length &&& set = set := by
  rw [Nat.and_comm, sub_iff]
  constructor
  · intro h j hj
    have hlt : j < p.ls.length := Nat.lt_of_not_le fun hle => by
      have := Nat.testBit_lt_two_pow (i := j) (Nat.lt_of_lt_of_le hs (Nat.pow_le_pow_right (by omega) hle))
      rw [this] at hj; cases hj
    rw [setN_bit]
    exact ⟨hlt, p.ls[j], List.getElem?_eq_getElem hlt, h _ (mem_partL.2 ⟨j, hj, List.getElem?_eq_getElem hlt⟩)⟩
  · intro h l hl
    obtain ⟨k, b, c⟩ := mem_partL.1 hl
    obtain ⟨_, l', h1, h2⟩ := (setN_bit _ _ _ _).1 (h k b)
    rw [c] at h1; cases h1; exact h2
theorem truth_part {p : PegsD} {set : Nat} {t : At} {m : Int} (hs : set < 2 ^ p.ls.length) : IsTruth (partP p set) t m ↔ IsTruth (bare p) t m ∧ setN p.ls t p.ls.length &&& set = set := by
  rw [← part_right hs]
  constructor
  · rintro ⟨a, b, c, d, e⟩; exact ⟨⟨a, b, c, d, fun l hl => by simp [bare] at hl⟩, e⟩
  · rintro ⟨⟨a, b, c, d, _⟩, e⟩; exact ⟨a, b, c, d, e⟩
theorem Fit.bare {p : PegsD} (h : Fit p) : Fit (bare p) := ⟨h.s0, h.s1, h.n4, by simp [Proofs.Ytkjciobphbcknaa.bare], h.posts, fun l hl => by simp [Proofs.Ytkjciobphbcknaa.bare] at hl⟩
theorem Fit.part {p : PegsD} (h : Fit p) (set : Nat) : Fit (partP p set) :=
  ⟨h.s0, h.s1, h.n4, Nat.le_trans (partTo_length _ _ _) h.l6, h.posts, fun l hl => by
    obtain ⟨k, _, c⟩ := mem_partL.1 hl
    exact h.lens l (List.mem_of_getElem? c)⟩
/-- Some places, one for each number. -/
def atOf (f : Nat → Pl) : At := ⟨f 0, f 1, f 2, f 3⟩
theorem atOf_get (f : Nat → Pl) (i : Nat) (hi : i < 4) : (atOf f).get i = f i := by
  match i, hi with
  | 0, _ | 1, _ | 2, _ | 3, _ => rfl
/-- Without lengths there is a truth in which any one peg, or none, is where it can be. -/
theorem bare_truth {p : PegsD} (hf : Fit p) (hl : p.ls = []) (m : Int) (s : Pl) (h1 : -1 ≤ m) (h2 : m < p.ps.length) (hs : ∀ q, 0 ≤ m → p.ps[m.toNat]? = some q → inField p.side s ∧ ¬ atPost q s) :
    ∃ t, IsTruth p t m ∧ (0 ≤ m → t.get m = s) := by
  have hn := hf.n4
  refine ⟨atOf fun i => if (i : Int) = m then s else match p.ps[i]? with | some q => ⟨q.xlo, q.ylo⟩ | none => ⟨0, 0⟩, ⟨h1, h2, fun i q hq => ?_, fun i a b => ?_, fun l h => by rw [hl] at h; cases h⟩, fun h0 => ?_⟩
  · have hi : i < p.ps.length := (List.getElem?_eq_some_iff.1 hq).1
    rw [atOf_get _ i (by omega)]
    obtain ⟨a1, a2, a3, a4, a5, a6⟩ := hf.posts q (List.mem_of_getElem? hq)
    by_cases e : (i : Int) = m
    · obtain ⟨b1, b2⟩ := hs q (by omega) (by rw [← e]; exact hq)
      rw [if_pos e]
      exact ⟨b1, fun h => absurd h b2, fun h => absurd e h⟩
    · rw [if_neg e, hq]
      exact ⟨⟨a1, by simp only; omega, a4, by simp only; omega⟩, fun _ => e, fun _ => ⟨Int.le_refl _, a2, Int.le_refl _, a5⟩⟩
  · rw [atOf_get _ i b, if_neg (by omega), List.getElem?_eq_none a]
  · obtain ⟨k, rfl⟩ := Int.eq_ofNat_of_zero_le h0
    rw [atOf_get _ k (by omega), if_pos rfl]
theorem bare_some {p : PegsD} (hf : Fit p) (hl : p.ls = []) : truthsL p ≠ [] := by
  obtain ⟨t, h, _⟩ := bare_truth hf hl (-1) ⟨0, 0⟩ (by omega) (by omega) (fun q h => by omega)
  exact List.ne_nil_of_mem ((mem_truthsL hf).2 h)

/-- The lengths of a set prove that a peg was moved. -/
def Proves (p : PegsD) (set : Nat) (i : Int) : Prop := (∃ t m, IsTruth (partP p set) t m) ∧ ∀ t m, IsTruth (partP p set) t m → m = i
theorem evRun_spec (i : Int) (ls : List Len) (l : List (At × Int)) :
    (∃ x ∈ l, x.2 ≠ i ∧ setN ls x.1 ls.length = 2 ^ ls.length - 1) ∧ (evRun ⟨i, ls, fun _ => false, fun _ => false⟩ l).not (2 ^ ls.length - 1) = true ∨
    (¬ ∃ x ∈ l, x.2 ≠ i ∧ setN ls x.1 ls.length = 2 ^ ls.length - 1) ∧ (∀ k, (evRun ⟨i, ls, fun _ => false, fun _ => false⟩ l).moved k = true ↔ ∃ x ∈ l, x.2 = i ∧ setN ls x.1 ls.length = k) ∧
      ∀ k, (evRun ⟨i, ls, fun _ => false, fun _ => false⟩ l).not k = true ↔ ∃ x ∈ l, x.2 ≠ i ∧ setN ls x.1 ls.length = k := by
  have key : ∀ (l : List (At × Int)) (f g : Nat → Bool), g (2 ^ ls.length - 1) = false → 
      (∃ x ∈ l, x.2 ≠ i ∧ setN ls x.1 ls.length = 2 ^ ls.length - 1) ∧ (evRun ⟨i, ls, f, g⟩ l).not (2 ^ ls.length - 1) = true ∨
    (¬ ∃ x ∈ l, x.2 ≠ i ∧ setN ls x.1 ls.length = 2 ^ ls.length - 1) ∧ (∀ k, (evRun ⟨i, ls, f, g⟩ l).moved k = true ↔ f k = true ∨ ∃ x ∈ l, x.2 = i ∧ setN ls x.1 ls.length = k) ∧
      ∀ k, (evRun ⟨i, ls, f, g⟩ l).not k = true ↔ g k = true ∨ ∃ x ∈ l, x.2 ≠ i ∧ setN ls x.1 ls.length = k := by
    intro l
    induction l with
    | nil => intro f g hg; exact .inr ⟨by simp, by simp [evRun, runL], by simp [evRun, runL]⟩
    | cons x r ih =>
      intro f g hg
      by_cases hx : x.2 = i
      · have hs : evStep ⟨i, ls, f, g⟩ x = ⟨i, ls, fun k => if k = setN ls x.1 ls.length then true else f k, g⟩ := by simp only [evStep, hx, if_true]
        have he : evRun ⟨i, ls, f, g⟩ (x :: r) = evRun ⟨i, ls, fun k => if k = setN ls x.1 ls.length then true else f k, g⟩ r := by
          simp only [evRun, runL, hs, hg, Bool.not_false, if_true]
        rw [he]
        rcases ih (fun k => if k = setN ls x.1 ls.length then true else f k) g hg with ⟨⟨y, a, b, c⟩, d⟩ | ⟨a, b, c⟩
        · exact .inl ⟨⟨y, by simp [a], b, c⟩, d⟩
        · refine .inr ⟨?_, fun k => ?_, fun k => ?_⟩
          · rintro ⟨y, hy, h1, h2⟩
            rcases List.mem_cons.1 hy with e | e
            · subst e; exact h1 hx
            · exact a ⟨y, e, h1, h2⟩
          · rw [b k]
            simp only [List.mem_cons, exists_eq_or_imp]
            by_cases hk : k = setN ls x.1 ls.length
            · simp [hk, hx]
            · rw [if_neg hk]
              constructor
              · rintro (h | h)
                · exact .inl h
                · exact .inr (.inr h)
              · rintro (h | h | h)
                · exact .inl h
                · exact absurd h.2.symm hk
                · exact .inr h
          · rw [c k]
            simp only [List.mem_cons, exists_eq_or_imp]
            constructor
            · rintro (h | h)
              · exact .inl h
              · exact .inr (.inr h)
            · rintro (h | h | h)
              · exact .inl h
              · exact absurd hx h.1
              · exact .inr h
      · have hs : evStep ⟨i, ls, f, g⟩ x = ⟨i, ls, f, fun k => if k = setN ls x.1 ls.length then true else g k⟩ := by simp only [evStep, hx, if_false]
        by_cases hfull : setN ls x.1 ls.length = 2 ^ ls.length - 1
        · refine .inl ⟨⟨x, by simp, hx, hfull⟩, ?_⟩
          simp only [evRun, runL, hs, hfull, if_true, Bool.not_true, Bool.false_eq_true, if_false]
        · have he : evRun ⟨i, ls, f, g⟩ (x :: r) = evRun ⟨i, ls, f, fun k => if k = setN ls x.1 ls.length then true else g k⟩ r := by
            simp only [evRun, runL, hs]
            rw [if_neg (show ¬ 2 ^ ls.length - 1 = setN ls x.1 ls.length from fun e => hfull e.symm), hg]
            simp
          rw [he]
          rcases ih f (fun k => if k = setN ls x.1 ls.length then true else g k) (by rw [if_neg (fun e => hfull e.symm)]; exact hg) with ⟨⟨y, a, b, c⟩, d⟩ | ⟨a, b, c⟩
          · exact .inl ⟨⟨y, by simp [a], b, c⟩, d⟩
          · refine .inr ⟨?_, fun k => ?_, fun k => ?_⟩
            · rintro ⟨y, hy, h1, h2⟩
              rcases List.mem_cons.1 hy with e | e
              · subst e; exact hfull h2
              · exact a ⟨y, e, h1, h2⟩
            · rw [b k]
              simp only [List.mem_cons, exists_eq_or_imp]
              constructor
              · rintro (h | h)
                · exact .inl h
                · exact .inr (.inr h)
              · rintro (h | h | h)
                · exact .inl h
                · exact absurd h.1 hx
                · exact .inr h
            · rw [c k]
              simp only [List.mem_cons, exists_eq_or_imp]
              by_cases hk : k = setN ls x.1 ls.length
              · simp [hk, hx]
              · rw [if_neg hk]
                constructor
                · rintro (h | h)
                  · exact .inl h
                  · exact .inr (.inr h)
                · rintro (h | h | h)
                  · exact .inl h
                  · exact absurd h.2.symm hk
                  · exact .inr h
  rcases key l (fun _ => false) (fun _ => false) rfl with h | ⟨a, b, c⟩
  · exact .inl h
  · exact .inr ⟨a, fun k => by simpa using b k, fun k => by simpa using c k⟩

theorem sub_full {n set : Nat} (h : set < 2 ^ n) : (2 ^ n - 1) &&& set = set := by
  rw [Nat.and_comm, sub_iff]
  intro j hj
  rw [Nat.testBit_two_pow_sub_one, decide_eq_true_eq]
  exact Nat.lt_of_not_le fun hle => by
    have := Nat.testBit_lt_two_pow (i := j) (Nat.lt_of_lt_of_le h (Nat.pow_le_pow_right (by omega) hle))
    rw [this] at hj; cases hj
theorem proveB_iff {p : PegsD} (hf : Fit p) (i : Int) (set : Nat) (hs : set < 2 ^ p.ls.length) : proveB (evRun (ev0 p i) (truthsL (bare p))) set = true ↔ Proves p set i := by
  have h64 : ∀ t, setN p.ls t p.ls.length < 64 := fun t => Nat.lt_of_lt_of_le (setN_lt _ _ _) (Nat.pow_le_pow_right (by omega) hf.l6 |> fun h => h)
  have full64 : 2 ^ p.ls.length - 1 < 64 := by
    have : 2 ^ p.ls.length ≤ 2 ^ 6 := Nat.pow_le_pow_right (by omega) hf.l6
    have := Nat.two_pow_pos p.ls.length
    omega
  rw [proveB, Bool.and_eq_true]
  simp only [noneB, someB, List.all_eq_true, List.any_eq_true, List.mem_range, Bool.not_eq_true', Bool.and_eq_false_iff, Bool.and_eq_true, subB, decide_eq_true_eq, decide_eq_false_iff_not]
  rw [show ev0 p i = ⟨i, p.ls, fun _ => false, fun _ => false⟩ from rfl]
  rcases evRun_spec i p.ls (truthsL (bare p)) with ⟨⟨⟨t, m⟩, hx, hne, he⟩, hnot⟩ | ⟨hno, hm, hn⟩
  · constructor
    · rintro ⟨h1, _⟩
      rcases h1 _ full64 with h | h
      · exact absurd (sub_full hs) h
      · rw [hnot] at h; cases h
    · rintro ⟨_, h2⟩
      have ht : IsTruth (partP p set) t m := (truth_part hs).2 ⟨(mem_truthsL hf.bare).1 hx, by rw [he]; exact sub_full hs⟩
      exact absurd (h2 t m ht) hne
  · constructor
    · rintro ⟨h1, a, ha, hsub, hmv⟩
      refine ⟨?_, fun t m ht => ?_⟩
      · obtain ⟨⟨t, m⟩, hx, rfl, rfl⟩ := (hm a).1 hmv
        exact ⟨t, m, (truth_part hs).2 ⟨(mem_truthsL hf.bare).1 hx, hsub⟩⟩
      · obtain ⟨hb, hsub⟩ := (truth_part hs).1 ht
        by_cases e : m = i
        · exact e
        · have hk := (hn (setN p.ls t p.ls.length)).2 ⟨(t, m), (mem_truthsL hf.bare).2 hb, e, rfl⟩
          rcases h1 _ (h64 t) with h | h
          · exact absurd hsub h
          · rw [hk] at h; cases h
    · rintro ⟨⟨t, m, ht⟩, h2⟩
      refine ⟨fun a ha => ?_, ?_⟩
      · by_cases hsub : a &&& set = set
        · right
          cases hk : (evRun ⟨i, p.ls, fun _ => false, fun _ => false⟩ (truthsL (bare p))).not a with
          | false => rfl
          | true =>
            obtain ⟨⟨t', m'⟩, hx, hne, rfl⟩ := (hn a).1 hk
            exact absurd (h2 t' m' ((truth_part hs).2 ⟨(mem_truthsL hf.bare).1 hx, hsub⟩)) hne
        · exact .inl hsub
      · obtain ⟨hb, hsub⟩ := (truth_part hs).1 ht
        have e := h2 t m ht
        subst e
        exact ⟨_, h64 t, hsub, (hm _).2 ⟨(t, m), (mem_truthsL hf.bare).2 hb, rfl, rfl⟩⟩
end Go.Proofs.Ytkjciobphbcknaa
