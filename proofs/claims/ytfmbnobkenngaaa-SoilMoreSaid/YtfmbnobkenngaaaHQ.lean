/- Soil: mathematics of a pit more. -/
import Derived.Test.YtfmbnobkenngaaaHP
import Derived.Test.YtfmbnobkenngaaaHL
namespace Go.Proofs.Ytfmbnobkenngaaa
open Go.RowKit En

def insP (p : PitD) : List PitD → List PitD
  | [] => [p]
  | o :: r => if p.at_ < o.at_ then p :: o :: r else if o.at_ = p.at_ then mergeP o p :: r else o :: insP p r
theorem fold_rest {p : PitD} : ∀ (l : List PitD) (out : List PitD), (∀ o ∈ l, p.at_ < o.at_) → l.foldl (stepW p) (true, out) = (true, out ++ l)
  | [], out, _ => by simp
  | o :: r, out, h => by
    rw [List.foldl_cons, stepB rfl (h o (by simp)), fold_rest r _ (fun q hq => h q (by simp [hq]))]
    simp
theorem fold_ins {p : PitD} : ∀ (l : List PitD) (out : List PitD), l.Pairwise (fun a b => a.at_ < b.at_) → (if (l.foldl (stepW p) (false, out)).1 then (l.foldl (stepW p) (false, out)).2 else (l.foldl (stepW p) (false, out)).2 ++ [p]) = out ++ insP p l
  | [], out, _ => by simp [insP]
  | o :: r, out, ho => by
    obtain ⟨o1, o2⟩ := List.pairwise_cons.1 ho
    rw [List.foldl_cons]
    rcases Int.lt_trichotomy p.at_ o.at_ with h | h | h
    · rw [stepA rfl h, fold_rest r _ (fun q hq => by have := o1 q hq; omega)]
      simp [insP, h]
    · rw [stepC h.symm, fold_rest r _ (fun q hq => by have := o1 q hq; omega)]
      have : ¬ p.at_ < o.at_ := by omega
      simp [insP, h.symm]
    · rw [stepD h, fold_ins r _ o2]
      have h1 : ¬ p.at_ < o.at_ := by omega
      have h2 : ¬ o.at_ = p.at_ := by omega
      simp [insP, h1, h2]
theorem with_ins {g : GroundD} (h : VG g) (p : PitD) : (withG g p).pits = insP p g.pits := by
  have := fold_ins (p := p) g.pits [] h.ord
  rw [List.nil_append] at this
  exact this
theorem mem_ins {p q : PitD} : ∀ (l : List PitD), l.Pairwise (fun a b => a.at_ < b.at_) → (q ∈ insP p l ↔ (q ∈ l ∧ q.at_ ≠ p.at_) ∨ (∃ o ∈ l, o.at_ = p.at_ ∧ q = mergeP o p) ∨ ((∀ o ∈ l, o.at_ ≠ p.at_) ∧ q = p))
  | [], _ => by simp [insP]
  | o :: r, ho => by
    obtain ⟨o1, o2⟩ := List.pairwise_cons.1 ho
    rcases Int.lt_trichotomy p.at_ o.at_ with h | h | h
    · have hall : ∀ x ∈ o :: r, x.at_ ≠ p.at_ := fun x hx => by
        rcases List.mem_cons.1 hx with rfl | hx
        · omega
        · have := o1 x hx; omega
      have e : insP p (o :: r) = p :: o :: r := by simp [insP, h]
      rw [e]
      constructor
      · intro hq
        rcases List.mem_cons.1 hq with rfl | hq
        · exact .inr (.inr ⟨hall, rfl⟩)
        · exact .inl ⟨hq, hall q hq⟩
      · rintro (⟨h1, _⟩ | ⟨x, hx, h1, _⟩ | ⟨_, rfl⟩)
        · exact List.mem_cons_of_mem _ h1
        · exact absurd h1 (hall x hx)
        · simp
    · have hn : ¬ p.at_ < o.at_ := by omega
      have e : insP p (o :: r) = mergeP o p :: r := by simp [insP, h.symm]
      have hall : ∀ x ∈ r, x.at_ ≠ p.at_ := fun x hx => by have := o1 x hx; omega
      rw [e]
      constructor
      · intro hq
        rcases List.mem_cons.1 hq with rfl | hq
        · exact .inr (.inl ⟨o, by simp, h.symm, rfl⟩)
        · exact .inl ⟨by simp [hq], hall q hq⟩
      · rintro (⟨h1, h2⟩ | ⟨x, hx, h1, rfl⟩ | ⟨h1, _⟩)
        · rcases List.mem_cons.1 h1 with rfl | h1
          · exact absurd h.symm h2
          · exact List.mem_cons_of_mem _ h1
        · rcases List.mem_cons.1 hx with rfl | hx
          · simp
          · exact absurd h1 (hall x hx)
        · exact absurd h.symm (h1 o (by simp))
    · have h1 : ¬ p.at_ < o.at_ := by omega
      have h2 : ¬ o.at_ = p.at_ := by omega
      have e : insP p (o :: r) = o :: insP p r := by simp [insP, h1, h2]
      rw [e, List.mem_cons, mem_ins r o2]
      constructor
      · rintro (rfl | ⟨a, b⟩ | ⟨x, hx, a, b⟩ | ⟨a, b⟩)
        · exact .inl ⟨by simp, h2⟩
        · exact .inl ⟨by simp [a], b⟩
        · exact .inr (.inl ⟨x, by simp [hx], a, b⟩)
        · refine .inr (.inr ⟨fun x hx => ?_, b⟩)
          rcases List.mem_cons.1 hx with rfl | hx
          · exact h2
          · exact a x hx
      · rintro (⟨a, b⟩ | ⟨x, hx, a, b⟩ | ⟨a, b⟩)
        · rcases List.mem_cons.1 a with rfl | a
          · exact .inl rfl
          · exact .inr (.inl ⟨a, b⟩)
        · rcases List.mem_cons.1 hx with rfl | hx
          · exact absurd a h2
          · exact .inr (.inr (.inl ⟨x, hx, a, b⟩))
        · exact .inr (.inr (.inr ⟨fun x hx => a x (by simp [hx]), b⟩))
theorem ins_ge {p : PitD} {b : Int} : ∀ (l : List PitD), b < p.at_ → (∀ o ∈ l, b < o.at_) → ∀ q ∈ insP p l, b < q.at_
  | [], hb, _, q, hq => by simp [insP] at hq; rw [hq]; exact hb
  | o :: r, hb, h, q, hq => by
    have ho := h o (by simp)
    unfold insP at hq
    split at hq
    · rcases List.mem_cons.1 hq with rfl | hq
      · exact hb
      · exact h q hq
    · split at hq
      · rcases List.mem_cons.1 hq with rfl | hq
        · exact ho
        · exact h q (by simp [hq])
      · rcases List.mem_cons.1 hq with rfl | hq
        · exact ho
        · exact ins_ge r hb (fun x hx => h x (by simp [hx])) q hq
theorem ins_ord {p : PitD} : ∀ (l : List PitD), l.Pairwise (fun a b => a.at_ < b.at_) → (insP p l).Pairwise (fun a b => a.at_ < b.at_)
  | [], _ => by simp [insP]
  | o :: r, ho => by
    obtain ⟨o1, o2⟩ := List.pairwise_cons.1 ho
    unfold insP
    split
    · rename_i h
      exact List.pairwise_cons.2 ⟨fun x hx => by
        rcases List.mem_cons.1 hx with rfl | hx
        · exact h
        · have := o1 x hx; omega, ho⟩
    · split
      · exact List.pairwise_cons.2 ⟨fun x hx => o1 x hx, o2⟩
      · rename_i h1 h2
        exact List.pairwise_cons.2 ⟨ins_ge r (by omega) o1, ins_ord r o2⟩
section
variable {g : GroundD} {p : PitD}
theorem with_all (h : VG g) (C : PitD → Prop) (hm : ∀ o ∈ g.pits, o.at_ = p.at_ → (C (mergeP o p) ↔ C o ∧ C p)) : (∀ q ∈ (withG g p).pits, C q) ↔ (∀ q ∈ g.pits, C q) ∧ C p := by
  rw [with_ins h]
  have hmem := fun q => mem_ins (p := p) (q := q) g.pits h.ord
  constructor
  · intro hc
    by_cases ex : ∃ o ∈ g.pits, o.at_ = p.at_
    · obtain ⟨o, ho, e⟩ := ex
      have := (hm o ho e).1 (hc _ ((hmem _).2 (.inr (.inl ⟨o, ho, e, rfl⟩))))
      refine ⟨fun q hq => ?_, this.2⟩
      by_cases e2 : q.at_ = p.at_
      · rw [h.inj hq ho (by omega)]; exact this.1
      · exact hc q ((hmem q).2 (.inl ⟨hq, e2⟩))
    · have hn : ∀ o ∈ g.pits, o.at_ ≠ p.at_ := fun o ho e => ex ⟨o, ho, e⟩
      exact ⟨fun q hq => hc q ((hmem q).2 (.inl ⟨hq, hn q hq⟩)), hc p ((hmem p).2 (.inr (.inr ⟨hn, rfl⟩)))⟩
  · rintro ⟨h1, h2⟩ q hq
    rcases (hmem q).1 hq with ⟨a, _⟩ | ⟨o, ho, e, rfl⟩ | ⟨_, rfl⟩
    · exact h1 q a
    · exact (hm o ho e).2 ⟨h1 o ho, h2⟩
    · exact h2
theorem truthH_with (h : VG g) {H : Nat → Int} : TruthH (withG g p) H ↔ TruthH g H ∧ ∀ j, j < placesN g → p.at_ = (j : Int) → p.hard.lo ≤ H j ∧ H j ≤ p.hard.hi := by
  have key := fun j => with_all (p := p) h (fun q => q.at_ = ((j : Nat) : Int) → q.hard.lo ≤ H j ∧ H j ≤ q.hard.hi) (fun o ho e => by
    show (o.at_ = (j : Int) → max o.hard.lo p.hard.lo ≤ H j ∧ H j ≤ min o.hard.hi p.hard.hi) ↔ _
    by_cases c : o.at_ = (j : Int)
    · have c2 : p.at_ = (j : Int) := by omega
      simp only [c, c2, forall_const]; omega
    · have c2 : ¬ p.at_ = (j : Int) := by omega
      simp [c, c2])
  constructor
  · intro ht
    refine ⟨fun j hj => ?_, fun j hj => ((key j).1 (ht j hj).2.1).2⟩
    obtain ⟨a, b, c⟩ := ht j hj
    exact ⟨a, ((key j).1 b).1, c⟩
  · rintro ⟨ht, hp⟩ j hj
    obtain ⟨a, b, c⟩ := ht j hj
    exact ⟨a, (key j).2 ⟨b, hp j hj⟩, c⟩
theorem truthP_with (h : VG g) {T : Nat → S3} : TruthP (withG g p) T ↔ TruthP g T ∧ ∀ j, j < placesN g → p.at_ = (j : Int) → InM (pitM p) (T j) := by
  have key := fun j => with_all (p := p) h (fun q => q.at_ = ((j : Nat) : Int) → InM (pitM q) (T j)) (fun o ho e => by
    show (o.at_ = (j : Int) → InM (pitM (mergeP o p)) (T j)) ↔ _
    by_cases c : o.at_ = (j : Int)
    · have c2 : p.at_ = (j : Int) := by omega
      simp only [c, c2, forall_const, InM, pitM, mergeP, overlapS]; omega
    · have c2 : ¬ p.at_ = (j : Int) := by omega
      simp [c, c2])
  constructor
  · intro ht
    refine ⟨fun j hj => ?_, fun j hj => ((key j).1 (ht j hj).2.1).2⟩
    obtain ⟨a, b, c⟩ := ht j hj
    exact ⟨a, ((key j).1 b).1, c⟩
  · rintro ⟨ht, hp⟩ j hj
    obtain ⟨a, b, c⟩ := ht j hj
    exact ⟨a, (key j).2 ⟨b, hp j hj⟩, c⟩
theorem within_over {a b : SpanD} {m x : Int} (h : withinB a m = true) (hx : (overlapS a b).lo ≤ x ∧ x ≤ (overlapS a b).hi) : withinB (overlapS a b) m = true := by
  simp only [withinB, overlapS, Bool.and_eq_true, decide_eq_true_eq] at *

  refine ⟨⟨decide_eq_true ?_, decide_eq_true ?_⟩, decide_eq_true ?_⟩ <;> omega
/-- What can be has a truth. -/
theorem can_truth (h : VG g) (hc : canB g p = true) : (∃ H, TruthH g H ∧ ∀ j, j < placesN g → p.at_ = (j : Int) → p.hard.lo ≤ H j ∧ H j ≤ p.hard.hi) ∧ ∃ T, TruthP g T ∧ ∀ j, j < placesN g → p.at_ = (j : Int) → InM (pitM p) (T j) := by
  simp only [canB, Bool.and_eq_true] at hc
  obtain ⟨⟨H, hH⟩, ⟨T, hT⟩⟩ := (lookOk_iff (VG.of hc.1)).1 hc.2
  exact ⟨⟨H, (truthH_with h).1 hH⟩, ⟨T, (truthP_with h).1 hT⟩⟩
theorem truth_can (h : VG g) (hlen : g.pits.length < 8) (hpb : pitB p = true) (h0 : 0 ≤ p.at_) (h1 : p.at_ ≤ g.long) {H : Nat → Int} {T : Nat → S3} (hH : TruthH g H) (hT : TruthP g T) (c1 : p.hard.lo ≤ H p.at_.toNat ∧ H p.at_.toNat ≤ p.hard.hi) (c2 : InM (pitM p) (T p.at_.toNat)) : canB g p = true := by
  have hj : p.at_.toNat < placesN g := by unfold placesN; omega
  have tH : TruthH (withG g p) H := (truthH_with h).2 ⟨hH, fun j _ e => by rw [show j = p.at_.toNat by omega]; exact c1⟩
  have tP : TruthP (withG g p) T := (truthP_with h).2 ⟨hT, fun j _ e => by rw [show j = p.at_.toNat by omega]; exact c2⟩
  have vx : VG (withG g p) := by
    refine ⟨⟨h.v.long, h.v.rise, h.v.change, by have := withG_len (g := g) (p := p); omega, fun q hq => ?_⟩, by rw [with_ins h]; exact ins_ord _ h.ord⟩
    have hq' := hq
    rw [with_ins h, mem_ins g.pits h.ord] at hq
    rcases hq with ⟨a, _⟩ | ⟨o, ho, e, rfl⟩ | ⟨_, rfl⟩
    · exact h.v.pits q a
    · obtain ⟨q1, q2⟩ := h.v.pits o ho
      refine ⟨q1, ?_⟩
      have r1 := (tH p.at_.toNat hj).2.1 _ hq' (by show o.at_ = _; omega)
      have r2 := (tP p.at_.toNat hj).2.1 _ hq' (by show o.at_ = _; omega)
      simp only [pitB, Bool.and_eq_true] at q2
      obtain ⟨⟨⟨w1, w2⟩, w3⟩, w4⟩ := q2
      obtain ⟨a1, a2, a3, a4, a5, a6⟩ := r2
      simp only [pitB, Bool.and_eq_true]
      exact ⟨⟨⟨within_over w1 r1, within_over w2 ⟨a1, a2⟩⟩, within_over w3 ⟨a3, a4⟩⟩, within_over w4 ⟨a5, a6⟩⟩
    · exact ⟨⟨h0, h1⟩, hpb⟩
  simp only [canB, Bool.and_eq_true]
  exact ⟨vx.valid, (lookOk_iff vx).2 ⟨⟨H, tH⟩, ⟨T, tP⟩⟩⟩
theorem any_in {s : S3} (h : okS s) : 0 ≤ s.a ∧ s.a ≤ 20 ∧ 0 ≤ s.b ∧ s.b ≤ 20 ∧ 0 ≤ s.c ∧ s.c ≤ 20 := by
  unfold okS sum20 at h; omega
/-- What is told of a place, by its kind. -/
def spanK (g : GroundD) (a : Int) : Nat → SpanD
  | 0 => hardC g a
  | 1 => ((soilsL g).getD a.toNat noMix).sand
  | 2 => ((soilsL g).getD a.toNat noMix).silt
  | _ => ((soilsL g).getD a.toNat noMix).clay
theorem told_out (h : VG g) (ho : lookOk g = true) {a : Int} (h0 : 0 ≤ a) (h1 : a ≤ g.long) {k : Nat} (hk : k < 4) {n : Int} (hn : n < (spanK g a k).lo ∨ (spanK g a k).hi < n) : canB g (toldP k a n) = false := by
  rw [Bool.eq_false_iff]
  intro hc
  obtain ⟨⟨H, hH, c1⟩, ⟨T, hT, c2⟩⟩ := can_truth h hc
  have hj : a.toNat < placesN g := by unfold placesN; omega
  have q1 := truthH_in h hH hj
  have q2 := (soils_P h (lookOk_soils ho) hj (hT _ hj).1.1).2 ⟨T, hT, rfl⟩
  have e1 := c1 a.toNat hj
  have e2 := c2 a.toNat hj
  match k, hk with
  | 0, _ =>
    have := e1 (by show a = _; omega)
    simp only [toldP, spanK, hardC] at this hn
    show False
    have q3 : (cS g a.toNat) = commonS (voicesL g) ((a.toNat : Nat) : Int) := rfl
    rw [q3] at q1
    omega
  | 1, _ =>
    have := e2 (by show a = _; omega)
    simp only [toldP, spanK, pitM, InM, anyP] at this hn q2
    omega
  | 2, _ =>
    have := e2 (by show a = _; omega)
    simp only [toldP, spanK, pitM, InM, anyP] at this hn q2
    omega
  | 3, _ =>
    have := e2 (by show a = _; omega)
    simp only [toldP, spanK, pitM, InM, anyP] at this hn q2
    omega
theorem told_at (k : Nat) (a n : Int) : (toldP k a n).at_ = a := by
  match k with
  | 0 => rfl
  | 1 => rfl
  | 2 => rfl
  | _ + 3 => rfl
theorem told_part (h : VG g) (hlen : g.pits.length < 8) (ho : lookOk g = true) {a : Int} (h0 : 0 ≤ a) (h1 : a ≤ g.long) {s : S3} (hs : sum20 s) (hin : InM ((soilsL g).getD a.toNat noMix) s) {p : PitD} (hpa : p.at_ = a) (hph : p.hard = ⟨0, 1000⟩) (hp : ∀ s, okS s → (InM (pitM p) s ↔ InM (pitM p) s)) (hpin : InM (pitM p) s) (hpb : okS s → pitB p = true) : canB g p = true := by
  have hj : a.toNat < placesN g := by unfold placesN; omega
  obtain ⟨⟨H, hH⟩, _⟩ := (lookOk_iff h).1 ho
  obtain ⟨T, hT, e⟩ := (soils_P h (lookOk_soils ho) hj hs).1 hin
  have hok := (hT _ hj).1
  rw [e] at hok
  refine truth_can h hlen (hpb hok) (by omega) (by omega) hH hT ?_ ?_
  · rw [hph, hpa]; exact (hH _ hj).1
  · rw [hpa, e]; exact hpin
theorem told_in (h : VG g) (hlen : g.pits.length < 8) (ho : lookOk g = true) {a : Int} (h0 : 0 ≤ a) (h1 : a ≤ g.long) {k : Nat} (hk : k < 4) {n : Int} (hn : n = (spanK g a k).lo ∨ n = (spanK g a k).hi) : canB g (toldP k a n) = true := by
  have hj : a.toNat < placesN g := by unfold placesN; omega
  have ht := soils_tight (lookOk_soils ho) hj
  match k, hk with
  | 0, _ =>
    have hle := hardOk_cS (lookOk_hard ho) hj
    have h00 := cS_0 g a.toNat
    have hn' : n = (cS g a.toNat).lo ∨ n = (cS g a.toNat).hi := hn
    obtain ⟨H, hH, e⟩ := truthH_of h (lookOk_hard ho) hj (x := n) (by omega) (by omega)
    obtain ⟨_, ⟨T, hT⟩⟩ := (lookOk_iff h).1 ho
    have hT0 := any_in (hT _ hj).1
    refine truth_can h hlen ?_ h0 h1 hH hT ?_ ?_
    · simp only [toldP, pitB, withinB, anyP, Bool.and_eq_true, decide_eq_true_eq]; omega
    · show n ≤ H a.toNat ∧ H a.toNat ≤ n
      omega
    · show InM (pitM (toldP 0 a n)) (T a.toNat)
      simp only [toldP, pitM, InM, anyP]; omega
  | 1, _ =>
    have hex : ∃ s, sum20 s ∧ InM ((soilsL g).getD a.toNat noMix) s ∧ s.a = n := by
      rcases hn with rfl | rfl
      · exact ht.alo
      · exact ht.ahi
    obtain ⟨s, s1, s2, rfl⟩ := hex
    obtain ⟨T, hT, e⟩ := (soils_P h (lookOk_soils ho) hj s1).1 s2
    have h3 := any_in (hT _ hj).1
    rw [e] at h3
    refine told_part h hlen ho h0 h1 s1 s2 rfl rfl (fun _ _ => Iff.rfl) ?_ (fun _ => ?_)
    · simp only [toldP, pitM, InM, anyP]; omega
    · simp only [toldP, pitB, withinB, anyP, Bool.and_eq_true, decide_eq_true_eq]; omega
  | 2, _ =>
    have hex : ∃ s, sum20 s ∧ InM ((soilsL g).getD a.toNat noMix) s ∧ s.b = n := by
      rcases hn with rfl | rfl
      · exact ht.blo
      · exact ht.bhi
    obtain ⟨s, s1, s2, rfl⟩ := hex
    obtain ⟨T, hT, e⟩ := (soils_P h (lookOk_soils ho) hj s1).1 s2
    have h3 := any_in (hT _ hj).1
    rw [e] at h3
    refine told_part h hlen ho h0 h1 s1 s2 rfl rfl (fun _ _ => Iff.rfl) ?_ (fun _ => ?_)
    · simp only [toldP, pitM, InM, anyP]; omega
    · simp only [toldP, pitB, withinB, anyP, Bool.and_eq_true, decide_eq_true_eq]; omega
  | 3, _ =>
    have hex : ∃ s, sum20 s ∧ InM ((soilsL g).getD a.toNat noMix) s ∧ s.c = n := by
      rcases hn with rfl | rfl
      · exact ht.clo
      · exact ht.chi
    obtain ⟨s, s1, s2, rfl⟩ := hex
    obtain ⟨T, hT, e⟩ := (soils_P h (lookOk_soils ho) hj s1).1 s2
    have h3 := any_in (hT _ hj).1
    rw [e] at h3
    refine told_part h hlen ho h0 h1 s1 s2 rfl rfl (fun _ _ => Iff.rfl) ?_ (fun _ => ?_)
    · simp only [toldP, pitM, InM, anyP]; omega
    · simp only [toldP, pitB, withinB, anyP, Bool.and_eq_true, decide_eq_true_eq]; omega
/-- A pit that tells of one class. -/
def classP : Nat → Int → PitD
  | 0, a => ⟨a, ⟨0, 1000⟩, ⟨0, 13⟩, ⟨0, 11⟩, ⟨0, 7⟩⟩
  | 1, a => ⟨a, ⟨0, 1000⟩, ⟨14, 20⟩, ⟨0, 20⟩, ⟨0, 7⟩⟩
  | 2, a => ⟨a, ⟨0, 1000⟩, ⟨0, 13⟩, ⟨12, 20⟩, ⟨0, 7⟩⟩
  | _, a => ⟨a, ⟨0, 1000⟩, ⟨0, 20⟩, ⟨0, 20⟩, ⟨8, 20⟩⟩
theorem class_in {c : Nat} (hc : c < 4) {a : Int} {s : S3} (h : okS s) : InM (pitM (classP c a)) s ↔ classN s.a s.b s.c = c := by
  have h2 := any_in h
  unfold okS sum20 at h
  unfold classN
  match c, hc with
  | 0, _ => simp only [InM, pitM, classP]; split <;> (try split) <;> (try split) <;> omega
  | 1, _ => simp only [InM, pitM, classP]; split <;> (try split) <;> (try split) <;> omega
  | 2, _ => simp only [InM, pitM, classP]; split <;> (try split) <;> (try split) <;> omega
  | 3, _ => simp only [InM, pitM, classP]; split <;> (try split) <;> (try split) <;> omega
theorem class_can (h : VG g) (hlen : g.pits.length < 8) (ho : lookOk g = true) {a : Int} (h0 : 0 ≤ a) (h1 : a ≤ g.long) {c : Nat} (hc : c < 4) : canB g (classP c a) = (classesM ((soilsL g).getD a.toNat noMix)).testBit c := by
  have hj : a.toNat < placesN g := by unfold placesN; omega
  have hat : (classP c a).at_ = a := by
    match c, hc with
    | 0, _ => rfl
    | 1, _ => rfl
    | 2, _ => rfl
    | 3, _ => rfl
  have hhd : (classP c a).hard = ⟨0, 1000⟩ := by
    match c, hc with
    | 0, _ => rfl
    | 1, _ => rfl
    | 2, _ => rfl
    | 3, _ => rfl
  have hpb : pitB (classP c a) = true := by
    match c, hc with
    | 0, _ => rfl
    | 1, _ => rfl
    | 2, _ => rfl
    | 3, _ => rfl
  rw [Bool.eq_iff_iff, classes_bit]
  constructor
  · intro hcan
    obtain ⟨_, ⟨T, hT, c2⟩⟩ := can_truth h hcan
    have := c2 a.toNat hj (by rw [hat]; omega)
    have hok := (hT _ hj).1
    exact ⟨T a.toNat, hok.1, (soils_P h (lookOk_soils ho) hj hok.1).2 ⟨T, hT, rfl⟩, (class_in hc hok).1 this⟩
  · rintro ⟨s, s1, s2, s3⟩
    obtain ⟨T, hT, e⟩ := (soils_P h (lookOk_soils ho) hj s1).1 s2
    have hok := (hT _ hj).1
    rw [e] at hok
    exact told_part h hlen ho h0 h1 s1 s2 hat hhd (fun _ _ => Iff.rfl) ((class_in hc hok).2 s3) (fun _ => hpb)
theorem classes_pos {m : MixD} (h : Tight m) : 0 < classesM m := by
  obtain ⟨s, s1, s2⟩ := h.some
  have := (classes_bit m (classN s.a s.b s.c)).2 ⟨s, s1, s2, rfl⟩
  rcases Nat.eq_zero_or_pos (classesM m) with e | e
  · rw [e] at this; simp at this
  · exact e
end
end Go.Proofs.Ytfmbnobkenngaaa
