/- Package peg: ranging over a set of places. -/
import Derived.Test.YtkjciobphbcknaaAC
namespace Go.Proofs.Ytkjciobphbcknaa
open Go.RowKit Go.Maps

/-- A range over the set L at block B: those of 'seen' have come. -/
def RangeAt (B r : Nat) (L seen : List Pl) (W : World) : Prop :=
  ∃ (D : DataW Unit) (left : Lit → Bool) (cnt n : Nat), W.ranges Try.prog 93 (plainElem Try.prog 4) B r n D left cnt ∧ (∀ s ∈ seen, s ∈ L) ∧ (∀ s ∈ L, s.ok) ∧ ∀ l, left l = true ↔ ∃ s ∈ L, l = klOf s ∧ s ∉ seen

theorem range_start {B : Nat} {L : List Pl} {W : World} (h : SetAt B L W) :
    ∃ w', (Instr.range 90 (.map (some B))).run Try.prog W = .ok (.pointer (some ⟨W.heap.size, 0, none⟩)) w' ∧ RangeAt B W.heap.size L [] w' ∧ Kept W w' ∧ w'.heap.size = W.heap.size + 1 := by
  obtain ⟨h1, h2, D, own, h4, h5, h6⟩ := h
  obtain ⟨w', hrun, hr, hg, hsz⟩ := own.range law93 und90
  refine ⟨w', hrun, ⟨D, _, _, _, hr, by simp, h2, fun l => ⟨fun h => ?_, ?_⟩⟩, ⟨hg.os, hg.tape, hg.output, hg.size, fun i hi => hg.block i hi (by simp)⟩, hsz⟩
  · obtain ⟨s, hs, e⟩ := h6 l h
    exact ⟨s, hs, e, by simp⟩
  · rintro ⟨s, hs, rfl, _⟩
    exact (h5 s (h2 s hs)).2 hs

theorem RangeAt.keptT {T : Nat → Prop} {B r : Nat} {L seen : List Pl} {W W' : World} (h : RangeAt B r L seen W) (hk : KeptT T W W') (hB : ¬ T B) (hr : ¬ T r) : RangeAt B r L seen W' ∧ W'.rangeLeft B r = W.rangeLeft B r := by
  obtain ⟨D, left, cnt, n, hg, h1⟩ := h
  have e1 := hg.left_eq
  have e2 : W'.ranges Try.prog 93 (plainElem Try.prog 4) B r n D left cnt := by
    obtain ⟨es, clock, since, sn, c0, hb, F, hs, hD, hit, r1⟩ := hg
    exact ⟨es, clock, since, sn, c0, (hk.block _ (Array.getElem?_eq_some_iff.1 hb).1 hB).trans hb, F, hs, hD, (hk.block _ (Array.getElem?_eq_some_iff.1 hit).1 hr).trans hit, r1⟩
  exact ⟨⟨D, left, cnt, n, e2, h1⟩, by rw [e2.left_eq, e1]⟩

theorem range_next {B r : Nat} {L seen : List Pl} {W : World} (h : RangeAt B r L seen W) (ty : TypeId) :
    ((∀ s ∈ L, s ∈ seen) ∧ (Instr.next (.pointer (some ⟨r, 0, none⟩)) false ty).run Try.prog W = .ok (.tuple #[.bool false]) W) ∨
    ∃ s v w', s ∈ L ∧ (Instr.next (.pointer (some ⟨r, 0, none⟩)) false ty).run Try.prog W = .ok (.tuple #[.bool true, .agg #[.int .i64 s.x, .int .i64 s.y], v]) w' ∧ RangeAt B r L (seen ++ [s]) w' ∧ w'.rangeLeft B r < W.rangeLeft B r ∧
      KeptT (fun k => k = r) W w' ∧ w'.heap.size = W.heap.size ∧ (Instr.entry (.pointer (some ⟨r, 0, none⟩))).run Try.prog w' = .ok (.tuple #[.agg #[.int .i64 s.x, .int .i64 s.y], v]) w' := by
  obtain ⟨D, left, cnt, n, hg, h1, h2, h3⟩ := h
  rcases hg.next law93 ty with ⟨_, hl, hrun⟩ | ⟨key, v, kl, y, w', cnt', hkey, hlk, _, _, hrun, hrg, hlt, hgr, hsz, hen⟩
  · refine .inl ⟨fun s hs => ?_, hrun⟩
    have h4 := hl (klOf s)
    by_cases hin : s ∈ seen
    · exact hin
    · rw [(h3 (klOf s)).2 ⟨s, hs, rfl, hin⟩] at h4; cases h4
  · obtain ⟨s, hs, rfl, hns⟩ := (h3 kl).1 hlk
    have e : key = plV s := law93.inj hkey (key_some (h2 s hs))
    subst e
    refine .inr ⟨s, v, w', hs, hrun, ⟨D, _, _, _, hrg, fun t ht => ?_, h2, fun l => ?_⟩, ?_, grown_keptT hgr, hsz, hen⟩
    · simp at ht
      rcases ht with ht | rfl
      · exact h1 t ht
      · exact hs
    · have hk := keylit (h2 s hs)
      simp only [Bool.and_eq_true, Bool.not_eq_true']
      constructor
      · rintro ⟨ha, hb⟩
        obtain ⟨t, ht, rfl, hnt⟩ := (h3 l).1 ha
        refine ⟨t, ht, rfl, ?_⟩
        simp only [List.mem_append, List.mem_singleton, not_or]
        refine ⟨hnt, fun e => ?_⟩
        subst e
        rw [WideAt.sameKey_self hk] at hb
        cases hb
      · rintro ⟨t, ht, rfl, hnt⟩
        simp only [List.mem_append, List.mem_singleton, not_or] at hnt
        refine ⟨(h3 _).2 ⟨t, ht, rfl, hnt.1⟩, ?_⟩
        cases hsk : (klOf t).sameKey (klOf s)
        · rfl
        · exact absurd (klOf_inj (h2 t ht) (h2 s hs) (WideAt.sameKey_eq hsk)) hnt.2
    · rw [hrg.left_eq, hg.left_eq]; exact hlt

/-- The ends of numbers of places. -/
def endsOn (f : Pl → Int) (L : List Pl) : EndsD := L.foldl (fun s x => s.add (f x)) ⟨0, 0, false⟩
theorem endsOn_snoc (f : Pl → Int) (L : List Pl) (s : Pl) : endsOn f (L ++ [s]) = (endsOn f L).add (f s) := by simp [endsOn, List.foldl_append]
theorem endsOn_spec (f : Pl → Int) : ∀ (L : List Pl), L ≠ [] → (endsOn f L).some = true ∧ (∀ s ∈ L, (endsOn f L).lo ≤ f s ∧ f s ≤ (endsOn f L).hi) ∧ (∃ s ∈ L, f s = (endsOn f L).lo) ∧ (∃ s ∈ L, f s = (endsOn f L).hi) := by
  have key : ∀ (n : Nat) (L : List Pl), L.length = n → L ≠ [] → (endsOn f L).some = true ∧ (∀ s ∈ L, (endsOn f L).lo ≤ f s ∧ f s ≤ (endsOn f L).hi) ∧ (∃ s ∈ L, f s = (endsOn f L).lo) ∧ (∃ s ∈ L, f s = (endsOn f L).hi) := by
    intro n
    induction n with
    | zero => intro L h hne; exact absurd (List.length_eq_zero_iff.1 h) hne
    | succ n ih =>
      intro L h hne
      obtain ⟨M, s, rfl⟩ : ∃ M s, L = M ++ [s] := ⟨L.dropLast, L.getLast hne, (List.dropLast_concat_getLast hne).symm⟩
      rw [endsOn_snoc]
      by_cases hM : M = []
      · subst hM
        simp [endsOn, EndsD.add]
      · obtain ⟨i1, i2, i3, i4⟩ := ih M (by simp at h; exact h) hM
        simp only [EndsD.add, i1, if_true]
        refine ⟨trivial, fun t ht => ?_, ?_, ?_⟩
        · simp at ht
          rcases ht with ht | rfl
          · have := i2 t ht; omega
          · omega
        · by_cases hc : (endsOn f M).lo ≤ f s
          · obtain ⟨t, ht, e⟩ := i3; exact ⟨t, by simp [ht], by omega⟩
          · exact ⟨s, by simp, by omega⟩
        · by_cases hc : f s ≤ (endsOn f M).hi
          · obtain ⟨t, ht, e⟩ := i4; exact ⟨t, by simp [ht], by omega⟩
          · exact ⟨s, by simp, by omega⟩
  exact fun L hne => key _ L rfl hne
theorem endsOn_same (f : Pl → Int) {L M : List Pl} (h1 : ∀ s ∈ L, s ∈ M) (h2 : ∀ s ∈ M, s ∈ L) : endsOn f L = endsOn f M := by
  by_cases hL : L = []
  · subst hL
    have : M = [] := by cases M with | nil => rfl | cons a r => exact absurd (h2 a (by simp)) (by simp)
    rw [this]
  · have hM : M ≠ [] := by rintro rfl; cases L with | nil => exact hL rfl | cons a r => exact absurd (h1 a (by simp)) (by simp)
    obtain ⟨a1, a2, ⟨x, hx, a3⟩, ⟨y, hy, a4⟩⟩ := endsOn_spec f L hL
    obtain ⟨b1, b2, ⟨x', hx', b3⟩, ⟨y', hy', b4⟩⟩ := endsOn_spec f M hM
    have q1 := b2 x (h1 x hx); have q2 := b2 y (h1 y hy); have q3 := a2 x' (h2 x' hx'); have q4 := a2 y' (h2 y' hy')
    generalize endsOn f L = A at *
    generalize endsOn f M = B at *
    obtain ⟨l, h, s⟩ := A
    obtain ⟨l', h', s'⟩ := B
    simp only at *
    rw [EndsD.mk.injEq]
    refine ⟨by omega, by omega, by rw [a1, b1]⟩
end Go.Proofs.Ytkjciobphbcknaa
