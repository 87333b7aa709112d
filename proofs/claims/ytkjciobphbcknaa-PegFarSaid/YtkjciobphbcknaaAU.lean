/- Package peg: what is told if no length was taken. -/
import Derived.Test.YtkjciobphbcknaaAS
import Derived.Test.YtkjciobphbcknaaAM
namespace Go.Proofs.Ytkjciobphbcknaa
open Go.RowKit

theorem setN_bit (ls : List Len) (t : At) : ∀ (k j : Nat), (setN ls t k).testBit j = true ↔ j < k ∧ ∃ l, ls[j]? = some l ∧ rightB l t = true
  | 0, j => by simp [setN]
  | k + 1, j => by
    have ih := setN_bit ls t k j
    have hlt := setN_lt ls t k
    have e : (setN ls t k + 2 ^ k) = 2 ^ k ||| setN ls t k := by rw [Nat.add_comm]; have := Nat.two_pow_add_eq_or_of_lt hlt 1; simpa using this
    simp only [setN]
    cases hl : ls[k]? with
    | none =>
      simp only [Bool.false_eq_true, if_false]
      rw [ih]
      constructor
      · rintro ⟨a, b⟩; exact ⟨by omega, b⟩
      · rintro ⟨a, b, hb, c⟩
        have : j ≠ k := by rintro rfl; rw [hl] at hb; cases hb
        exact ⟨by omega, b, hb, c⟩
    | some l =>
      simp only
      by_cases hr : rightB l t = true
      · rw [if_pos hr, e, Nat.testBit_or, Nat.testBit_two_pow, Bool.or_eq_true, decide_eq_true_eq, ih]
        constructor
        · rintro (rfl | ⟨a, b⟩)
          · exact ⟨by omega, l, hl, hr⟩
          · exact ⟨by omega, b⟩
        · rintro ⟨a, b⟩
          by_cases hjk : k = j
          · exact .inl hjk
          · exact .inr ⟨by omega, b⟩
      · rw [if_neg hr, ih]
        constructor
        · rintro ⟨a, b⟩; exact ⟨by omega, b⟩
        · rintro ⟨a, b, hb, c⟩
          have : j ≠ k := by rintro rfl; rw [hl] at hb; cases hb; exact hr c
          exact ⟨by omega, b, hb, c⟩
theorem bitAt_eq (set j : Nat) : bitAt set j = set.testBit j := by
  rw [bitAt, Nat.testBit_eq_decide_div_mod_eq]
theorem mem_partTo {set : Nat} {ls : List Len} {l : Len} : ∀ {j : Nat}, l ∈ partTo set ls j ↔ ∃ k, k < j ∧ set.testBit k = true ∧ ls[k]? = some l
  | 0 => by simp [partTo]
  | j + 1 => by
    rw [partTo, List.mem_append, mem_partTo]
    constructor
    · rintro (⟨k, a, b, c⟩ | h)
      · exact ⟨k, by omega, b, c⟩
      · split at h
        · rename_i hb
          rw [bitAt_eq] at hb
          exact ⟨j, by omega, hb, by simpa using h⟩
        · simp at h
    · rintro ⟨k, a, b, c⟩
      by_cases e : k = j
      · subst e
        exact .inr (by rw [bitAt_eq, if_pos b, c]; simp)
      · exact .inl ⟨k, by omega, b, c⟩
theorem mem_partL {set : Nat} {ls : List Len} {l : Len} : l ∈ partL set ls ↔ ∃ k, set.testBit k = true ∧ ls[k]? = some l := by
  rw [partL, mem_partTo]
  constructor
  · rintro ⟨k, _, b, c⟩; exact ⟨k, b, c⟩
  · rintro ⟨k, b, c⟩; exact ⟨k, (List.getElem?_eq_some_iff.1 c).1, b, c⟩
/-- Pegs with some of their lengths. -/
def partP (p : PegsD) (set : Nat) : PegsD := ⟨p.side, p.ps, partL set p.ls⟩
theorem sub_iff {a b : Nat} : a &&& b = a ↔ ∀ j, a.testBit j = true → b.testBit j = true := by
  constructor
  · intro h j hj
    rw [← h, Nat.testBit_and, Bool.and_eq_true] at hj
    exact hj.2
  · intro h
    apply Nat.eq_of_testBit_eq
    intro j
    rw [Nat.testBit_and]
    cases hj : a.testBit j
    · rfl
    · rw [h j hj]; rfl
theorem part_right {p : PegsD} {set : Nat} {t : At} (hs : set < 2 ^ p.ls.length) : (∀ l ∈ partL set p.ls, rightB l t = true) ↔ setN p.ls t p.ls.length &&& set = set := by
  rw [Nat.and_comm, sub_iff]
  constructor
  · intro h j hj
    have hlt : j < p.ls.length := Nat.lt_of_not_le fun hle => by
      have := Nat.testBit_lt_two_pow (i := j) (Nat.lt_of_lt_of_le hs (Nat.pow_le_pow_right (by omega) hle))
      rw [this] at hj; cases hj
    rw [setN_bit]
    exact ⟨hlt, p.ls[j], List.getElem?_eq_getElem hlt, h _ (mem_partL.2 ⟨j, hj, List.getElem?_eq_getElem hlt⟩)⟩
  · intro h l hl
    obtain ⟨k, b, c⟩ := mem_partL.1 hl
    obtain ⟨_, l', h1, h2⟩ := (setN_bit _ _ _ _).1 (h k b)
    rw [c] at h1; cases h1; exact h2
theorem truth_part {p : PegsD} {set : Nat} {t : At} {m : Int} (hs : set < 2 ^ p.ls.length) : IsTruth (partP p set) t m ↔ IsTruth (bare p) t m ∧ setN p.ls t p.ls.length &&& set = set := by
  rw [← part_right hs]
  constructor
  · rintro ⟨a, b, c, d, e⟩; exact ⟨⟨a, b, c, d, fun l hl => by simp [bare] at hl⟩, e⟩
  · rintro ⟨⟨a, b, c, d, _⟩, e⟩; exact ⟨a, b, c, d, e⟩
theorem Fit.bare {p : PegsD} (h : Fit p) : Fit (bare p) := ⟨h.s0, h.s1, h.n4, by simp [Proofs.Ytkjciobphbcknaa.bare], h.posts, fun l hl => by simp [Proofs.Ytkjciobphbcknaa.bare] at hl⟩
theorem Fit.part {p : PegsD} (h : Fit p) (set : Nat) : Fit (partP p set) :=
  ⟨h.s0, h.s1, h.n4, Nat.le_trans (partTo_length _ _ _) h.l6, h.posts, fun l hl => by
    obtain ⟨k, _, c⟩ := mem_partL.1 hl
    exact h.lens l (List.mem_of_getElem? c)⟩
/-- Some places, one for each number. -/
def atOf (f : Nat → Pl) : At := ⟨f 0, f 1, f 2, f 3⟩
theorem atOf_get (f : Nat → Pl) (i : Nat) (hi : i < 4) : (atOf f).get i = f i := by
  match i, hi with
  | 0, _ | 1, _ | 2, _ | 3, _ => rfl
/-- Without lengths there is a truth in which any one peg, or none, is where it can be. -/
theorem bare_truth {p : PegsD} (hf : Fit p) (hl : p.ls = []) (m : Int) (s : Pl) (h1 : -1 ≤ m) (h2 : m < p.ps.length) (hs : ∀ q, 0 ≤ m → p.ps[m.toNat]? = some q → inField p.side s ∧ ¬ atPost q s) :
    ∃ t, IsTruth p t m ∧ (0 ≤ m → t.get m = s) := by
  have hn := hf.n4
  refine ⟨atOf fun i => if (i : Int) = m then s else match p.ps[i]? with | some q => ⟨q.xlo, q.ylo⟩ | none => ⟨0, 0⟩, ⟨h1, h2, fun i q hq => ?_, fun i a b => ?_, fun l h => by rw [hl] at h; cases h⟩, fun h0 => ?_⟩
  · have hi : i < p.ps.length := (List.getElem?_eq_some_iff.1 hq).1
    rw [atOf_get _ i (by omega)]
    obtain ⟨a1, a2, a3, a4, a5, a6⟩ := hf.posts q (List.mem_of_getElem? hq)
    by_cases e : (i : Int) = m
    · obtain ⟨b1, b2⟩ := hs q (by omega) (by rw [← e]; exact hq)
      rw [if_pos e]
      exact ⟨b1, fun h => absurd h b2, fun h => absurd e h⟩
    · rw [if_neg e, hq]
      exact ⟨⟨a1, by simp only; omega, a4, by simp only; omega⟩, fun _ => e, fun _ => ⟨Int.le_refl _, a2, Int.le_refl _, a5⟩⟩
  · rw [atOf_get _ i b, if_neg (by omega), List.getElem?_eq_none a]
  · obtain ⟨k, rfl⟩ := Int.eq_ofNat_of_zero_le h0
    rw [atOf_get _ k (by omega), if_pos rfl]
theorem bare_some {p : PegsD} (hf : Fit p) (hl : p.ls = []) : truthsL p ≠ [] := by
  obtain ⟨t, h, _⟩ := bare_truth hf hl (-1) ⟨0, 0⟩ (by omega) (by omega) (fun q h => by omega)
  exact List.ne_nil_of_mem ((mem_truthsL hf).2 h)

/-- The lengths of a set prove that a peg was moved. -/
def Proves (p : PegsD) (set : Nat) (i : Int) : Prop := (∃ t m, IsTruth (partP p set) t m) ∧ ∀ t m, IsTruth (partP p set) t m → m = i
theorem evRun_spec (i : Int) (ls : List Len) (l : List (At × Int)) :
    (∃ x ∈ l, x.2 ≠ i ∧ setN ls x.1 ls.length = 2 ^ ls.length - 1) ∧ (evRun ⟨i, ls, fun _ => false, fun _ => false⟩ l).not (2 ^ ls.length - 1) = true ∨
    (¬ ∃ x ∈ l, x.2 ≠ i ∧ setN ls x.1 ls.length = 2 ^ ls.length - 1) ∧ (∀ k, (evRun ⟨i, ls, fun _ => false, fun _ => false⟩ l).moved k = true ↔ ∃ x ∈ l, x.2 = i ∧ setN ls x.1 ls.length = k) ∧
      ∀ k, (evRun ⟨i, ls, fun _ => false, fun _ => false⟩ l).not k = true ↔ ∃ x ∈ l, x.2 ≠ i ∧ setN ls x.1 ls.length = k := by
  have key : ∀ (l : List (At × Int)) (f g : Nat → Bool), g (2 ^ ls.length - 1) = false → 
      (∃ x ∈ l, x.2 ≠ i ∧ setN ls x.1 ls.length = 2 ^ ls.length - 1) ∧ (evRun ⟨i, ls, f, g⟩ l).not (2 ^ ls.length - 1) = true ∨
    (¬ ∃ x ∈ l, x.2 ≠ i ∧ setN ls x.1 ls.length = 2 ^ ls.length - 1) ∧ (∀ k, (evRun ⟨i, ls, f, g⟩ l).moved k = true ↔ f k = true ∨ ∃ x ∈ l, x.2 = i ∧ setN ls x.1 ls.length = k) ∧
      ∀ k, (evRun ⟨i, ls, f, g⟩ l).not k = true ↔ g k = true ∨ ∃ x ∈ l, x.2 ≠ i ∧ setN ls x.1 ls.length = k := by
    intro l
    induction l with
    | nil => intro f g hg; exact .inr ⟨by simp, by simp [evRun, runL], by simp [evRun, runL]⟩
    | cons x r ih =>
      intro f g hg
      by_cases hx : x.2 = i
      · have hs : evStep ⟨i, ls, f, g⟩ x = ⟨i, ls, fun k => if k = setN ls x.1 ls.length then true else f k, g⟩ := by simp only [evStep, hx, if_true]
        have he : evRun ⟨i, ls, f, g⟩ (x :: r) = evRun ⟨i, ls, fun k => if k = setN ls x.1 ls.length then true else f k, g⟩ r := by
          simp only [evRun, runL, hs, hg, Bool.not_false, if_true]
        rw [he]
        rcases ih (fun k => if k = setN ls x.1 ls.length then true else f k) g hg with ⟨⟨y, a, b, c⟩, d⟩ | ⟨a, b, c⟩
        · exact .inl ⟨⟨y, by simp [a], b, c⟩, d⟩
        · refine .inr ⟨?_, fun k => ?_, fun k => ?_⟩
          · rintro ⟨y, hy, h1, h2⟩
            rcases List.mem_cons.1 hy with e | e
            · subst e; exact h1 hx
            · exact a ⟨y, e, h1, h2⟩
          · rw [b k]
            simp only [List.mem_cons, exists_eq_or_imp]
            by_cases hk : k = setN ls x.1 ls.length
            · simp [hk, hx]
            · rw [if_neg hk]
              constructor
              · rintro (h | h)
                · exact .inl h
                · exact .inr (.inr h)
              · rintro (h | h | h)
                · exact .inl h
                · exact absurd h.2.symm hk
                · exact .inr h
          · rw [c k]
            simp only [List.mem_cons, exists_eq_or_imp]
            constructor
            · rintro (h | h)
              · exact .inl h
              · exact .inr (.inr h)
            · rintro (h | h | h)
              · exact .inl h
              · exact absurd hx h.1
              · exact .inr h
      · have hs : evStep ⟨i, ls, f, g⟩ x = ⟨i, ls, f, fun k => if k = setN ls x.1 ls.length then true else g k⟩ := by simp only [evStep, hx, if_false]
        by_cases hfull : setN ls x.1 ls.length = 2 ^ ls.length - 1
        · refine .inl ⟨⟨x, by simp, hx, hfull⟩, ?_⟩
          simp only [evRun, runL, hs, hfull, if_true, Bool.not_true, Bool.false_eq_true, if_false]
        · have he : evRun ⟨i, ls, f, g⟩ (x :: r) = evRun ⟨i, ls, f, fun k => if k = setN ls x.1 ls.length then true else g k⟩ r := by
            simp only [evRun, runL, hs]
            rw [if_neg (show ¬ 2 ^ ls.length - 1 = setN ls x.1 ls.length from fun e => hfull e.symm), hg]
            simp
          rw [he]
          rcases ih f (fun k => if k = setN ls x.1 ls.length then true else g k) (by rw [if_neg (fun e => hfull e.symm)]; exact hg) with ⟨⟨y, a, b, c⟩, d⟩ | ⟨a, b, c⟩
          · exact .inl ⟨⟨y, by simp [a], b, c⟩, d⟩
          · refine .inr ⟨?_, fun k => ?_, fun k => ?_⟩
            · rintro ⟨y, hy, h1, h2⟩
              rcases List.mem_cons.1 hy with e | e
              · subst e; exact hfull h2
              · exact a ⟨y, e, h1, h2⟩
            · rw [b k]
              simp only [List.mem_cons, exists_eq_or_imp]
              constructor
              · rintro (h | h)
                · exact .inl h
                · exact .inr (.inr h)
              · rintro (h | h | h)
                · exact .inl h
                · exact absurd h.1 hx
                · exact .inr h
            · rw [c k]
              simp only [List.mem_cons, exists_eq_or_imp]
              by_cases hk : k = setN ls x.1 ls.length
              · simp [hk, hx]
              · rw [if_neg hk]
                constructor
                · rintro (h | h)
                  · exact .inl h
                  · exact .inr (.inr h)
                · rintro (h | h | h)
                  · exact .inl h
                  · exact absurd h.2.symm hk
                  · exact .inr h
  rcases key l (fun _ => false) (fun _ => false) rfl with h | ⟨a, b, c⟩
  · exact .inl h
  · exact .inr ⟨a, fun k => by simpa using b k, fun k => by simpa using c k⟩

theorem sub_full {n set : Nat} (h : set < 2 ^ n) : (2 ^ n - 1) &&& set = set := by
  rw [Nat.and_comm, sub_iff]
  intro j hj
  rw [Nat.testBit_two_pow_sub_one, decide_eq_true_eq]
  exact Nat.lt_of_not_le fun hle => by
    have := Nat.testBit_lt_two_pow (i := j) (Nat.lt_of_lt_of_le h (Nat.pow_le_pow_right (by omega) hle))
    rw [this] at hj; cases hj
theorem proveB_iff {p : PegsD} (hf : Fit p) (i : Int) (set : Nat) (hs : set < 2 ^ p.ls.length) : proveB (evRun (ev0 p i) (truthsL (bare p))) set = true ↔ Proves p set i := by
  have h64 : ∀ t, setN p.ls t p.ls.length < 64 := fun t => Nat.lt_of_lt_of_le (setN_lt _ _ _) (Nat.pow_le_pow_right (by omega) hf.l6 |> fun h => h)
  have full64 : 2 ^ p.ls.length - 1 < 64 := by
    have : 2 ^ p.ls.length ≤ 2 ^ 6 := Nat.pow_le_pow_right (by omega) hf.l6
    have := Nat.two_pow_pos p.ls.length
    omega
  rw [proveB, Bool.and_eq_true]
  simp only [noneB, someB, List.all_eq_true, List.any_eq_true, List.mem_range, Bool.not_eq_true', Bool.and_eq_false_iff, Bool.and_eq_true, subB, decide_eq_true_eq, decide_eq_false_iff_not]
  rw [show ev0 p i = ⟨i, p.ls, fun _ => false, fun _ => false⟩ from rfl]
  rcases evRun_spec i p.ls (truthsL (bare p)) with ⟨⟨⟨t, m⟩, hx, hne, he⟩, hnot⟩ | ⟨hno, hm, hn⟩
  · constructor
    · rintro ⟨h1, _⟩
      rcases h1 _ full64 with h | h
      · exact absurd (sub_full hs) h
      · rw [hnot] at h; cases h
    · rintro ⟨_, h2⟩
      have ht : IsTruth (partP p set) t m := (truth_part hs).2 ⟨(mem_truthsL hf.bare).1 hx, by rw [he]; exact sub_full hs⟩
      exact absurd (h2 t m ht) hne
  · constructor
    · rintro ⟨h1, a, ha, hsub, hmv⟩
      refine ⟨?_, fun t m ht => ?_⟩
      · obtain ⟨⟨t, m⟩, hx, rfl, rfl⟩ := (hm a).1 hmv
        exact ⟨t, m, (truth_part hs).2 ⟨(mem_truthsL hf.bare).1 hx, hsub⟩⟩
      · obtain ⟨hb, hsub⟩ := (truth_part hs).1 ht
        by_cases e : m = i
        · exact e
        · have hk := (hn (setN p.ls t p.ls.length)).2 ⟨(t, m), (mem_truthsL hf.bare).2 hb, e, rfl⟩
          rcases h1 _ (h64 t) with h | h
          · exact absurd hsub h
          · rw [hk] at h; cases h
    · rintro ⟨⟨t, m, ht⟩, h2⟩
      refine ⟨fun a ha => ?_, ?_⟩
      · by_cases hsub : a &&& set = set
        · right
          cases hk : (evRun ⟨i, p.ls, fun _ => false, fun _ => false⟩ (truthsL (bare p))).not a with
          | false => rfl
          | true =>
            obtain ⟨⟨t', m'⟩, hx, hne, rfl⟩ := (hn a).1 hk
            exact absurd (h2 t' m' ((truth_part hs).2 ⟨(mem_truthsL hf.bare).1 hx, hsub⟩)) hne
        · exact .inl hsub
      · obtain ⟨hb, hsub⟩ := (truth_part hs).1 ht
        have e := h2 t m ht
        subst e
        exact ⟨_, h64 t, hsub, (hm _).2 ⟨(t, m), (mem_truthsL hf.bare).2 hb, rfl, rfl⟩⟩
end Go.Proofs.Ytkjciobphbcknaa
namespace Go.Proofs.Ytkjciobphbcknaa
open Go.RowKit

theorem nodup_len {α : Type} [DecidableEq α] : ∀ (l m : List α), l.Nodup → (∀ x ∈ l, x ∈ m) → l.length ≤ m.length
  | [], m, _, _ => by simp
  | a :: l, m, hn, h => by
    have ha : a ∈ m := h a (by simp)
    have hn2 := List.nodup_cons.1 hn
    have := nodup_len l (m.erase a) hn2.2 (fun x hx => (List.mem_erase_of_ne (fun e => by subst e; exact hn2.1 hx)).2 (h x (by simp [hx])))
    rw [List.length_erase_of_mem ha] at this
    have hp := List.length_pos_of_mem ha
    simp only [List.length_cons]
    omega
/-- Without lengths a peg can be wherever the field is. -/
theorem bare_at {p : PegsD} (hf : Fit p) (hl : p.ls = []) (i : Nat) (hi : i < p.ps.length) (s : Pl) (hs : inField p.side s) : ∃ t m, IsTruth p t m ∧ t.get i = s := by
  have hn := hf.n4
  refine ⟨atOf fun j => if j = i then s else match p.ps[j]? with | some q => ⟨q.xlo, q.ylo⟩ | none => ⟨0, 0⟩, if atPost (p.ps[i]) s then -1 else i, ⟨?_, ?_, fun j q hq => ?_, fun j a b => ?_, fun l h => by rw [hl] at h; cases h⟩, ?_⟩
  · split <;> omega
  · split <;> omega
  · have hj : j < p.ps.length := (List.getElem?_eq_some_iff.1 hq).1
    rw [atOf_get _ j (by omega)]
    obtain ⟨a1, a2, a3, a4, a5, a6⟩ := hf.posts q (List.mem_of_getElem? hq)
    by_cases e : j = i
    · subst e
      have eq : p.ps[j] = q := (List.getElem?_eq_some_iff.1 hq).2
      rw [if_pos rfl, eq]
      refine ⟨hs, ?_⟩
      split
      · rename_i h; exact ⟨fun _ => by omega, fun _ => h⟩
      · rename_i h; exact ⟨fun h2 => absurd h2 h, fun h2 => absurd rfl h2⟩
    · rw [if_neg e, hq]
      refine ⟨⟨a1, by simp only; omega, a4, by simp only; omega⟩, fun _ => ?_, fun _ => ⟨Int.le_refl _, a2, Int.le_refl _, a5⟩⟩
      split <;> omega
  · rw [atOf_get _ j b, if_neg (by omega), List.getElem?_eq_none a]
  · rw [atOf_get _ i (by omega), if_pos rfl]
theorem truth_field {p : PegsD} {t : At} {m : Int} (h : IsTruth p t m) {i : Nat} (hi : i < p.ps.length) : inField p.side (t.get i) := (h.2.2.1 i p.ps[i] (List.getElem?_eq_getElem hi)).1
theorem mem_stand {p : PegsD} (hf : Fit p) (i : Nat) {s : Pl} : s ∈ standL i (truthsL p) ↔ ∃ t m, IsTruth p t m ∧ t.get i = s := by
  rw [mem_standL]
  constructor
  · rintro ⟨⟨t, m⟩, hx, h⟩; exact ⟨t, m, (mem_truthsL hf).1 hx, h⟩
  · rintro ⟨t, m, h, e⟩; exact ⟨(t, m), (mem_truthsL hf).2 h, e⟩
theorem free_stand {p : PegsD} (hf : Fit p) (hl : p.ls = []) (i : Nat) (hi : i < p.ps.length) {s : Pl} : s ∈ standL i (truthsL p) ↔ inField p.side s := by
  rw [mem_stand hf]
  constructor
  · rintro ⟨t, m, h, rfl⟩; exact truth_field h hi
  · intro h; exact bare_at hf hl i hi s h
theorem checkR_ok {p : PegsD} (hv : validB p = true) {xs : List Int} (h : ∀ x ∈ xs, 0 ≤ x ∧ x < p.ps.length) : checkR p xs = none := by
  have : xs.all (isPegB p.ps.length) = true := by
    rw [List.all_eq_true]; intro x hx; obtain ⟨a, b⟩ := h x hx; simp [isPegB, a, b]
  simp [checkR, hv, this]
theorem validB_bare {p : PegsD} (hv : validB p = true) : validB (bare p) = true := by
  simp only [validB, sizesB, bare, Bool.and_eq_true, lensB] at hv ⊢
  obtain ⟨⟨⟨⟨a, b⟩, c⟩, d⟩, e, f⟩ := hv
  exact ⟨⟨⟨⟨a, b⟩, c⟩, by simp⟩, e, by simp⟩
theorem free_where {p : PegsD} (hv : validB p = true) (hl : p.ls = []) (i : Nat) (hi : i < p.ps.length) : whereR p i = .ok ((0, p.side), (0, p.side)) := by
  have hf := fit_of_valid hv
  have h0 := hf.s0
  rw [whereR, checkR_ok hv (by simp; omega)]
  simp only [bare_some hf hl, if_false]
  have hm := fun s => free_stand hf hl i hi (s := s)
  have hne : standL (i : Int).toNat (truthsL p) ≠ [] := List.ne_nil_of_mem ((hm ⟨0, 0⟩).2 ⟨by simp, h0, by simp, h0⟩)
  simp only [Int.toNat_natCast] at hne ⊢
  obtain ⟨_, a1, ⟨s1, b1, c1⟩, ⟨s2, b2, c2⟩⟩ := endsOn_spec Pl.x _ hne
  obtain ⟨_, d1, ⟨s3, e1, f1⟩, ⟨s4, e2, f2⟩⟩ := endsOn_spec Pl.y _ hne
  have x0 := a1 ⟨0, 0⟩ ((hm _).2 ⟨by simp, h0, by simp, h0⟩)
  have x1 := a1 ⟨p.side, p.side⟩ ((hm _).2 ⟨h0, by simp, h0, by simp⟩)
  have y0 := d1 ⟨0, 0⟩ ((hm _).2 ⟨by simp, h0, by simp, h0⟩)
  have y1 := d1 ⟨p.side, p.side⟩ ((hm _).2 ⟨h0, by simp, h0, by simp⟩)
  obtain ⟨u1, u2, u3, u4⟩ := (hm _).1 b1
  obtain ⟨v1, v2, v3, v4⟩ := (hm _).1 b2
  obtain ⟨w1, w2, w3, w4⟩ := (hm _).1 e1
  obtain ⟨z1, z2, z3, z4⟩ := (hm _).1 e2
  simp only at x0 x1 y0 y1
  have r1 : (endsOn Pl.x (standL i (truthsL p))).lo = 0 := by omega
  have r2 : (endsOn Pl.x (standL i (truthsL p))).hi = p.side := by omega
  have r3 : (endsOn Pl.y (standL i (truthsL p))).lo = 0 := by omega
  have r4 : (endsOn Pl.y (standL i (truthsL p))).hi = p.side := by omega
  rw [spanOf, spanOf, r1, r2, r3, r4]
theorem rect_length (n : Int) : (fieldL n).length = (n + 1).toNat * (n + 1).toNat := by
  rw [fieldL, rectL, colsL_length]
  simp
theorem free_places {p : PegsD} (hv : validB p = true) (hl : p.ls = []) (i : Nat) (hi : i < p.ps.length) : placesR p i = .ok ((p.side + 1) * (p.side + 1)) := by
  have hf := fit_of_valid hv
  have h0 := hf.s0
  rw [placesR, checkR_ok hv (by simp; omega)]
  simp only [bare_some hf hl, if_false, Int.toNat_natCast]
  obtain ⟨n, hn⟩ := Int.eq_ofNat_of_zero_le h0
  have h1 : (standL i (truthsL p)).length ≤ (n + 1) * (n + 1) := by
    have := nodup_len (standL i (truthsL p)) (fieldL p.side) (standL_nodup _ _) (fun s hs => mem_fieldL.2 ((free_stand hf hl i hi).1 hs))
    rw [rect_length, hn] at this
    exact this
  have h2 : (n + 1) * (n + 1) ≤ (standL i (truthsL p)).length := by
    have := nodup_len (List.range ((n + 1) * (n + 1))) ((standL i (truthsL p)).map fun s => (s.x * ((n : Int) + 1) + s.y).toNat) List.nodup_range (fun k hk => by
      rw [List.mem_range] at hk
      rw [List.mem_map]
      have d1 : k / (n + 1) < n + 1 := (Nat.div_lt_iff_lt_mul (by omega)).2 hk
      have d2 : k % (n + 1) < n + 1 := Nat.mod_lt _ (by omega)
      have e := Nat.div_add_mod k (n + 1)
      rw [Nat.mul_comm] at e
      generalize k / (n + 1) = a at *
      generalize k % (n + 1) = b at *
      refine ⟨⟨(a : Nat), (b : Nat)⟩, (free_stand hf hl i hi).2 ⟨by simp only; omega, by simp only; omega, by simp only; omega, by simp only; omega⟩, ?_⟩
      simp only
      have e2 : (a : Int) * ((n : Int) + 1) + (b : Int) = ((a * (n + 1) + b : Nat) : Int) := by push_cast; rfl
      rw [e2, e]; simp)
    simpa using this
  have h3 : (standL i (truthsL p)).length = (n + 1) * (n + 1) := by omega
  rw [h3, hn]
  congr 1
theorem movedR_spec {p : PegsD} (hv : validB p = true) (hne : truthsL p ≠ []) : ∃ (S : Nat) (b : Bool), movedR p = .ok (2 ^ p.ps.length - 1, (S : Int), b) ∧ S < 2 ^ p.ps.length ∧ (b = true ↔ ∃ t, IsTruth p t (-1)) ∧ ∀ j : Nat, S.testBit j = true ↔ ∃ t, IsTruth p t j := by
  have hf := fit_of_valid hv
  obtain ⟨S, b, h1, h2, h3, h4⟩ := susRun_spec p.ps.length hf.n4 (truthsL p) (fun x hx => by
    have := (mem_truthsL hf (t := x.1) (m := x.2)).1 hx
    exact ⟨this.1, this.2.1⟩)
  refine ⟨S, b, by rw [movedR, if_neg (by simp [hv]), if_neg hne, h1], h2, h3.trans ⟨?_, ?_⟩, fun j => (h4 j).trans ⟨?_, ?_⟩⟩
  · rintro ⟨⟨t, m⟩, hx, e⟩; simp only at e; subst e; exact ⟨t, (mem_truthsL hf).1 hx⟩
  · rintro ⟨t, h⟩; exact ⟨(t, -1), (mem_truthsL hf).2 h, rfl⟩
  · rintro ⟨⟨t, m⟩, hx, e⟩; simp only at e; subst e; exact ⟨t, (mem_truthsL hf).1 hx⟩
  · rintro ⟨t, h⟩; exact ⟨(t, j), (mem_truthsL hf).2 h, rfl⟩
/-- Is a post the whole field? -/
def wholeB (side : Int) (q : Post) : Bool := decide (q.xlo = 0) && decide (q.xhi = side) && (decide (q.ylo = 0) && decide (q.yhi = side))
theorem free_moved {p : PegsD} (hv : validB p = true) (hl : p.ls = []) : ∃ S : Nat, movedR p = .ok (2 ^ p.ps.length - 1, (S : Int), true) ∧ S < 2 ^ p.ps.length ∧ ∀ (j : Nat) (q : Post), p.ps[j]? = some q → S.testBit j = !wholeB p.side q := by
  have hf := fit_of_valid hv
  obtain ⟨S, b, h1, h2, h3, h4⟩ := movedR_spec hv (bare_some hf hl)
  have hb : b = true := h3.2 (by
    obtain ⟨t, h, _⟩ := bare_truth hf hl (-1) ⟨0, 0⟩ (by omega) (by omega) (fun q h => by omega)
    exact ⟨t, h⟩)
  subst hb
  refine ⟨S, h1, h2, fun j q hq => ?_⟩
  have hj : j < p.ps.length := (List.getElem?_eq_some_iff.1 hq).1
  obtain ⟨a1, a2, a3, a4, a5, a6⟩ := hf.posts q (List.mem_of_getElem? hq)
  have h0 := hf.s0
  rw [Bool.eq_iff_iff, h4 j]
  constructor
  · rintro ⟨t, h⟩
    obtain ⟨⟨u1, u2, u3, u4⟩, hn⟩ := h.2.2.1 j q hq
    have hna : ¬ atPost q (t.get j) := fun ha => (hn.1 ha) rfl
    cases hw : wholeB p.side q with
    | false => rfl
    | true =>
      simp only [wholeB, Bool.and_eq_true, decide_eq_true_eq] at hw
      exact absurd ⟨by omega, by omega, by omega, by omega⟩ hna
  · intro hw
    have hw : ¬ (q.xlo = 0 ∧ q.xhi = p.side ∧ q.ylo = 0 ∧ q.yhi = p.side) := by
      rintro ⟨e1, e2, e3, e4⟩
      simp [wholeB, e1, e2, e3, e4] at hw
    obtain ⟨s, hs, hns⟩ : ∃ s, inField p.side s ∧ ¬ atPost q s := by
      by_cases e1 : q.xlo = 0
      · by_cases e2 : q.xhi = p.side
        · by_cases e3 : q.ylo = 0
          · exact ⟨⟨0, p.side⟩, ⟨by simp, h0, h0, by simp⟩, fun h => by have := h.2.2.2; simp only at this; omega⟩
          · exact ⟨⟨0, 0⟩, ⟨by simp, h0, by simp, h0⟩, fun h => by have := h.2.2.1; simp only at this; omega⟩
        · exact ⟨⟨p.side, 0⟩, ⟨h0, by simp, by simp, h0⟩, fun h => by have := h.2.1; simp only at this; omega⟩
      · exact ⟨⟨0, 0⟩, ⟨by simp, h0, by simp, h0⟩, fun h => by have := h.1; simp only at this; omega⟩
    obtain ⟨t, h, _⟩ := bare_truth hf hl j s (by omega) (by omega) (fun q' _ hq' => by
      simp only [Int.toNat_natCast] at hq'
      rw [hq] at hq'; cases hq'; exact ⟨hs, hns⟩)
    exact ⟨t, h⟩
theorem proofR_spec {p : PegsD} (hv : validB p = true) {i : Nat} (hi : i < p.ps.length) : proofR p i = match (setsL p.ls.length).find? (proveB (evRun (ev0 p i) (truthsL (bare p)))) with | some x => .ok (x : Nat) | none => .error 4 := by
  have hf := fit_of_valid hv
  rw [proofR, checkR_ok hv (by simp; omega)]
  simp only [bare_some hf.bare rfl, if_false]
  generalize List.find? _ _ = o
  cases o <;> rfl
theorem free_proof {p : PegsD} (hv : validB p = true) (hl : p.ls = []) (i : Nat) (hi : i < p.ps.length) : proofR p i = .error 4 := by
  have hf := fit_of_valid hv
  rw [proofR_spec hv hi]
  have : (setsL p.ls.length).find? (proveB (evRun (ev0 p i) (truthsL (bare p)))) = none := by
    rw [List.find?_eq_none]
    intro x hx hp
    have hx1 : x < 2 ^ p.ls.length := by
      rw [hl] at hx ⊢
      have : setsL ([] : List Len).length = [0] := by kernel_rfl
      rw [this] at hx
      simp at hx
      subst hx; simp
    obtain ⟨t, h, _⟩ := bare_truth hf hl (-1) ⟨0, 0⟩ (by omega) (by omega) (fun q h => by omega)
    have h2 := ((proveB_iff hf i x hx1).1 hp).2 t (-1) ⟨h.1, h.2.1, h.2.2.1, h.2.2.2.1, fun l hl2 => by
      obtain ⟨k, _, c⟩ := mem_partL.1 hl2
      rw [hl] at c; simp at c⟩
    omega
  rw [this]
end Go.Proofs.Ytkjciobphbcknaa
