/- Furrow: what is told of a furrow of which more is known. -/
import Derived.Test.YtjdeplehhmhpcaaGJ
import Derived.Test.YtjdeplehhmhpcaaGH
namespace Go.Proofs.Ytjdeplehhmhpcaa
open Go.RowKit En

/-- A span within a span. -/
def SubS (a b : SpanD) : Prop := b.lo ≤ a.lo ∧ a.lo ≤ a.hi ∧ a.hi ≤ b.hi
structure Narrow (f x : FurrowD) : Prop where
  len : x.offs.length = f.offs.length
  wids : x.wids.length = f.wids.length
  deps : x.deps.length = f.deps.length
  at_ : ∀ k, k < f.offs.length → SubS (x.offs.getD k default) (f.offs.getD k default) ∧ SubS (x.wids.getD k default) (f.wids.getD k default) ∧ SubS (x.deps.getD k default) (f.deps.getD k default)
theorem narrow_valid {f x : FurrowD} (hv : ValidF f) (h : Narrow f x) : validB x = true := by
  have h1 := hv.len
  have h2 := hv.wids
  have h3 := hv.deps
  have h4 := h.len
  have h5 := h.wids
  have h6 := h.deps
  simp only [validB, Bool.and_eq_true, Bool.not_eq_true', decide_eq_false_iff_not]
  refine ⟨⟨⟨by omega, by omega⟩, by omega⟩, List.all_eq_true.2 fun k hk => ?_⟩
  have hk := List.mem_range.1 hk
  rw [h4] at hk
  obtain ⟨⟨a1, a2, a3, a4⟩, ⟨b1, b2, b3⟩, c1, c2, c3⟩ := hv.st hk
  obtain ⟨⟨d1, d2, d3⟩, ⟨e1, e2, e3⟩, f1, f2, f3⟩ := h.at_ k hk
  simp only [okN, okSt, Bool.and_eq_true, Bool.not_eq_true', decide_eq_false_iff_not]
  exact ⟨⟨⟨withinB_of ⟨by omega, by omega, by omega⟩, by omega⟩, withinB_of ⟨by omega, by omega, by omega⟩⟩, withinB_of ⟨by omega, by omega, by omega⟩⟩
theorem narrow_inn {f x : FurrowD} (h : Narrow f x) {t : List Int} (ht : Inn x.offs t) : Inn f.offs t :=
  ⟨by rw [ht.1, h.len], fun j hj => by
    have h1 := ht.2 j (by rw [h.len]; exact hj)
    obtain ⟨h2, _, h3⟩ := (h.at_ j hj).1
    omega⟩
theorem narrow_inner {f x : FurrowD} (h : Narrow f x) {k : Nat} : Inner x.offs k ↔ Inner f.offs k := by unfold Inner; rw [h.len]
theorem narrow_bend {f x : FurrowD} (hv : ValidF f) (h : Narrow f x) : (bendT f.offs).lo ≤ (bendT x.offs).lo ∧ (bendT x.offs).hi ≤ (bendT f.offs).hi := by
  have h1 := bendT_spec hv.fine
  obtain ⟨_, ⟨t, ht, et⟩, u, hu, eu⟩ := bendT_spec (validF (narrow_valid hv h)).fine
  have a := h1.1 t (narrow_inn h ht)
  have b := h1.1 u (narrow_inn h hu)
  omega
theorem narrow_sure {f x : FurrowD} (hv : ValidF f) (h : Narrow f x) (j : Nat) (hj : (sureN f.offs).testBit j = true) : (sureN x.offs).testBit j = true := by
  obtain ⟨h1, h2⟩ := (sure_bit hv.fine).1 hj
  exact (sure_bit (validF (narrow_valid hv h)).fine).2 ⟨(narrow_inner h).2 h1, fun t ht k hk => h2 t (narrow_inn h ht) k ((narrow_inner h).1 hk)⟩
theorem narrow_can {f x : FurrowD} (hv : ValidF f) (h : Narrow f x) (j : Nat) (hj : (canN x.offs).testBit j = true) : (canN f.offs).testBit j = true := by
  obtain ⟨h1, t, ht, h2⟩ := (can_bit (validF (narrow_valid hv h)).fine).1 hj
  exact (can_bit hv.fine).2 ⟨(narrow_inner h).1 h1, t, narrow_inn h ht, fun k hk => h2 k ((narrow_inner h).2 hk)⟩
theorem shallowN_bit (l : List SpanD) (least : Int) (j : Nat) : ∀ n : Nat, (shallowN l least n).1.testBit j = decide (j < n ∧ (l.getD j default).hi < least) ∧ (shallowN l least n).2.testBit j = decide (j < n ∧ (l.getD j default).lo < least)
  | 0 => by simp [shallowN]
  | n + 1 => by
    obtain ⟨h1, h2⟩ := shallowN_bit l least j n
    simp only [shallowN, noteN_bit, h1, h2]
    by_cases e : n = j
    · subst e
      constructor
      · simp
      · simp
    · have h3 : (j < n + 1) ↔ j < n := by omega
      simp [e, h3]
theorem narrow_shallow {f x : FurrowD} (h : Narrow f x) (hd : f.deps.length = f.offs.length) (least : Int) (j : Nat) : ((shallowN f.deps least f.deps.length).1.testBit j = true → (shallowN x.deps least x.deps.length).1.testBit j = true) ∧ ((shallowN x.deps least x.deps.length).2.testBit j = true → (shallowN f.deps least f.deps.length).2.testBit j = true) := by
  rw [(shallowN_bit _ _ _ _).1, (shallowN_bit _ _ _ _).1, (shallowN_bit _ _ _ _).2, (shallowN_bit _ _ _ _).2, decide_eq_true_eq, decide_eq_true_eq, decide_eq_true_eq, decide_eq_true_eq, h.deps]
  constructor
  · rintro ⟨h1, h2⟩
    have := (h.at_ j (by omega)).2.2
    unfold SubS at this
    exact ⟨h1, by omega⟩
  · rintro ⟨h1, h2⟩
    have := (h.at_ j (by omega)).2.2
    unfold SubS at this
    exact ⟨h1, by omega⟩
theorem mul_sub {a b c d : Int} (ha : 0 ≤ a) (hb : 0 ≤ b) (h1 : a ≤ c) (h2 : b ≤ d) : a * b ≤ c * d := Int.mul_le_mul h1 h2 hb (Int.le_trans ha h1)
theorem narrow_soil {f x : FurrowD} (hv : ValidF f) (h : Narrow f x) : (soilS f).lo ≤ (soilS x).lo ∧ (soilS x).hi ≤ (soilS f).hi := by
  have key : ∀ n, n ≤ f.offs.length → (sumN (prodL f) n).lo ≤ (sumN (prodL x) n).lo ∧ (sumN (prodL x) n).hi ≤ (sumN (prodL f) n).hi := by
    intro n
    induction n with
    | zero => intro _; exact ⟨Int.le_refl _, Int.le_refl _⟩
    | succ n ih =>
      intro hn
      have ih := ih (by omega)
      have e1 : (prodL f).getD n default = timesS (f.wids.getD n default) (f.deps.getD n default) := by rw [List.getD_eq_getElem?_getD, prodL, alongL_at (by omega)]; rfl
      have e2 : (prodL x).getD n default = timesS (x.wids.getD n default) (x.deps.getD n default) := by rw [List.getD_eq_getElem?_getD, prodL, alongL_at (by rw [h.len]; omega)]; rfl
      obtain ⟨_, ⟨b1, b2, b3⟩, c1, c2, c3⟩ := hv.st (k := n) (by omega)
      obtain ⟨_, ⟨d1, d2, d3⟩, g1, g2, g3⟩ := h.at_ n (by omega)
      have m1 := mul_sub (a := (f.wids.getD n default).lo) (b := (f.deps.getD n default).lo) (by omega) (by omega) d1 g1
      have m2 := mul_sub (a := (x.wids.getD n default).hi) (b := (x.deps.getD n default).hi) (by omega) (by omega) d3 g3
      simp only [sumN, e1, e2, timesS]
      omega
  have := key f.offs.length (Nat.le_refl _)
  unfold soilS
  rw [h.len]
  exact this
theorem narrow_saved {f x : FurrowD} (h : Narrow f x) {most : Int} {s : Nat} (hs : savedB x.offs most s = true) : savedB f.offs most s = true := by
  obtain ⟨t, h1, h2⟩ := canMost_iff.1 (show canMost (freedL x.offs s) most = true from hs)
  have : canMost (freedL f.offs s) most = true := canMost_iff.2 ⟨t, ⟨by rw [freedL_length, ← h.len, ← freedL_length x.offs s]; exact h1.1, fun j hj => by
    rw [freedL_length] at hj
    have h3 := h1.2 j (by rw [freedL_length, h.len]; exact hj)
    have e1 : (freedL f.offs s).getD j default = freedS f.offs s j := by rw [List.getD_eq_getElem?_getD, freedL_at hj]; rfl
    have e2 : (freedL x.offs s).getD j default = freedS x.offs s j := by rw [List.getD_eq_getElem?_getD, freedL_at (by rw [h.len]; exact hj)]; rfl
    rw [e2] at h3
    rw [e1]
    unfold freedS at h3 ⊢
    have h4 := (h.at_ j hj).1
    unfold SubS at h4
    split at h3
    · rename_i hb; rw [if_pos hb]; exact h3
    · rename_i hb; rw [if_neg hb]; omega⟩, fun k hk => h2 k (by unfold Inner at hk ⊢; rw [freedL_length] at hk ⊢; rw [h.len]; exact hk)⟩
  exact this
theorem narrow_wrong {f x : FurrowD} (hv : ValidF f) (h : Narrow f x) (most : Int) : ∃ (s z : Nat) (e : Int), wrongR f most = ((s : Int), e) ∧ wrongR x most = ((z : Int), e) ∧ s < 256 ∧ z < 256 ∧ sizeN s ≤ sizeN z := by
  have hx := narrow_valid hv h
  have hvb : validB f = true := narrow_valid hv ⟨rfl, rfl, rfl, fun k hk => by have := hv.st hk; unfold SubS; omega⟩
  unfold wrongR
  rw [hx, hvb]
  by_cases hm : 0 ≤ most
  · obtain ⟨s, h1, h2, h3, A, B, h4, h5⟩ := wrong_spec hv hm
    obtain ⟨z, g1, g2, g3, _⟩ := wrong_spec (validF hx) hm
    have hn := hv.len
    have e : 2 ^ f.offs.length ≤ 2 ^ 8 := Nat.pow_le_pow_right (by omega) hn
    rw [h.len] at g2
    have := sets_first hn h4 h5 g2 (narrow_saved h g3)
    exact ⟨s, z, 0, by rw [if_pos rfl, if_pos hm, h1], by rw [if_pos rfl, if_pos hm, g1], by omega, by omega, by omega⟩
  · exact ⟨0, 0, 2, by rw [if_pos rfl, if_neg hm]; rfl, by rw [if_pos rfl, if_neg hm]; rfl, by omega, by omega, Nat.le_refl _⟩
theorem narrow_shallowR {f x : FurrowD} (hv : ValidF f) (h : Narrow f x) (least : Int) : ∃ (a b c d : Nat) (e : Int), shallowR f least = ((a, b), e) ∧ shallowR x least = ((c, d), e) ∧ (a < 2 ^ 32 ∧ b < 2 ^ 32 ∧ c < 2 ^ 32 ∧ d < 2 ^ 32) ∧ (∀ j, a.testBit j = true → c.testBit j = true) ∧ ∀ j, d.testBit j = true → b.testBit j = true := by
  have hx := narrow_valid hv h
  have hvb : validB f = true := narrow_valid hv ⟨rfl, rfl, rfl, fun k hk => by have := hv.st hk; unfold SubS; omega⟩
  unfold shallowR
  rw [hx, hvb]
  by_cases hm : 0 ≤ least
  · have h1 := hv.len
    have h2 := hv.deps
    have h3 := h.deps
    have s1 := shallowN_small f.deps least (k := f.deps.length) (by omega)
    have s2 := shallowN_small x.deps least (k := x.deps.length) (by omega)
    exact ⟨_, _, _, _, 0, by rw [if_pos rfl, if_pos hm], by rw [if_pos rfl, if_pos hm], ⟨s1.1, s1.2, s2.1, s2.2⟩, fun j => (narrow_shallow h h2 least j).1, fun j => (narrow_shallow h h2 least j).2⟩
  · exact ⟨0, 0, 0, 0, 2, by rw [if_pos rfl, if_neg hm], by rw [if_pos rfl, if_neg hm], by decide, fun _ h => h, fun _ h => h⟩
/-- A span that is narrower by a number. -/
def narS (b : Bool) (s : SpanD) : SpanD := if b then ⟨min s.hi (s.lo + 1), s.hi⟩ else ⟨s.lo, max s.lo (s.hi - 2)⟩
theorem narS_sub {b : Bool} {s : SpanD} (h : s.lo ≤ s.hi) : SubS (narS b s) s := by
  unfold narS SubS
  cases b
  · simp only [Bool.false_eq_true, if_false]; omega
  · simp only [if_true]; omega
def narF (f : FurrowD) (k : Nat) (b0 b1 b2 : Bool) : FurrowD := ⟨f.offs.set k (narS b0 (f.offs.getD k default)), f.wids.set k (narS b1 (f.wids.getD k default)), f.deps.set k (narS b2 (f.deps.getD k default))⟩
theorem narF_narrow {f : FurrowD} (hv : ValidF f) {k : Nat} (hk : k < f.offs.length) (b0 b1 b2 : Bool) : Narrow f (narF f k b0 b1 b2) := by
  have h2 := hv.wids
  have h3 := hv.deps
  refine ⟨by simp [narF], by simp [narF], by simp [narF], fun j hj => ?_⟩
  have hst := hv.st hj
  simp only [narF]
  rw [getS_set (by omega), getS_set (by omega), getS_set (by omega)]
  split
  · subst_vars
    exact ⟨narS_sub (by omega), narS_sub (by omega), narS_sub (by omega)⟩
  · exact ⟨⟨by omega, by omega, by omega⟩, ⟨by omega, by omega, by omega⟩, by omega, by omega, by omega⟩
theorem spansC_lo : ∀ (L : List SpanD) (k : Nat) (v : Int), k < L.length → (spansC L).set (k * 2) (.int .i64 v) = spansC (L.set k ⟨v, (L.getD k default).hi⟩)
  | [], k, v, h => absurd h (Nat.not_lt_zero k)
  | a :: r, 0, v, _ => rfl
  | a :: r, k + 1, v, h => by
    have ih := spansC_lo r k v (by simpa using h)
    rw [show (k + 1) * 2 = k * 2 + 2 by omega]
    show spanC a ++ (spansC r).set (k * 2) (.int .i64 v) = _
    rw [ih]
    rfl
theorem spansC_hi : ∀ (L : List SpanD) (k : Nat) (v : Int), k < L.length → (spansC L).set (k * 2 + 1) (.int .i64 v) = spansC (L.set k ⟨(L.getD k default).lo, v⟩)
  | [], k, v, h => absurd h (Nat.not_lt_zero k)
  | a :: r, 0, v, _ => rfl
  | a :: r, k + 1, v, h => by
    have ih := spansC_hi r k v (by simpa using h)
    rw [show (k + 1) * 2 + 1 = k * 2 + 1 + 2 by omega]
    show spanC a ++ (spansC r).set (k * 2 + 1) (.int .i64 v) = _
    rw [ih]
    rfl
theorem spansC_two : ∀ {L : List SpanD} {k : Nat}, k < L.length → (spansC L)[k * 2]? = some (.int .i64 (L.getD k default).lo) ∧ (spansC L)[k * 2 + 1]? = some (.int .i64 (L.getD k default).hi)
  | [], k, h => absurd h (Nat.not_lt_zero k)
  | a :: r, 0, _ => ⟨rfl, rfl⟩
  | a :: r, k + 1, h => by
    have ih := spansC_two (L := r) (k := k) (by simpa using h)
    rw [show (k + 1) * 2 = k * 2 + 2 by omega]
    exact ih
theorem inrow_get {sz n cap : Nat} {cur xs : List Value} {j : Nat} (h : InRow sz n cap cur xs) (hj : j < n * sz) : cur[j]? = xs[j]? := by
  rw [← h.2.2.2, List.getElem?_take, if_pos hj]
/-- A row of which one span is narrower. -/
def narR (b : Bool) (r : List Value) (k : Nat) (s : SpanD) : List Value := if b then r.set (k * 2) (.int .i64 (min s.hi (s.lo + 1))) else r.set (k * 2 + 1) (.int .i64 (max s.lo (s.hi - 2)))
theorem inrow_nar {n cap : Nat} {cur : List Value} {L : List SpanD} {k : Nat} (b : Bool) (h : InRow 2 n cap cur (spansC L)) (hn : L.length = n) (hk : k < n) : InRow 2 n cap (narR b cur k (L.getD k default)) (spansC (L.set k (narS b (L.getD k default)))) := by
  unfold narR narS
  cases b
  · simp only [Bool.false_eq_true, if_false]
    rw [← spansC_hi L k _ (by omega)]
    exact inrow_set h (by omega)
  · simp only [if_true]
    rw [← spansC_lo L k _ (by omega)]
    exact inrow_set h (by omega)
section
variable {oa wa da : Option Addr} {oc wc dc n1 n2 n3 : Nat}
theorem bendQn (f : FurrowD) (h1 : f.offs.length = n1) (h2 : f.wids.length = n2) (h3 : f.deps.length = n3) (w : World) (hm : Lens f) (hf : FurrowAt w f oa wa da) (hv : validB f = true) : Gives Try.prog 14 [.agg [.slice oa n1 oc, .slice wa n2 wc, .slice da n3 dc].toArray] w (.tuple #[spanV (bendT f.offs), .int .i64 0]) := by
  subst h1 h2 h3
  have h := bendQ f oa wa da oc wc dc w hm hf
  rw [show bendR f = (bendT f.offs, 0) by unfold bendR; rw [hv]; rfl] at h
  exact h
theorem worstQn (f : FurrowD) (h1 : f.offs.length = n1) (h2 : f.wids.length = n2) (h3 : f.deps.length = n3) (w : World) (hm : Lens f) (hf : FurrowAt w f oa wa da) (hv : validB f = true) : Gives Try.prog 20 [.agg [.slice oa n1 oc, .slice wa n2 wc, .slice da n3 dc].toArray] w (.tuple #[.int .i64 ((sureN f.offs : Nat) : Int), .int .i64 ((canN f.offs : Nat) : Int), .int .i64 0]) := by
  subst h1 h2 h3
  have h := worstQ f oa wa da oc wc dc w hm hf
  rw [show worstR f = (worstN f.offs (f.offs.length - 2), 0) by unfold worstR; rw [hv]; rfl] at h
  exact h
theorem soilQn (f : FurrowD) (h1 : f.offs.length = n1) (h2 : f.wids.length = n2) (h3 : f.deps.length = n3) (w : World) (hm : Lens f) (hf : FurrowAt w f oa wa da) (hv : validB f = true) : Gives Try.prog 27 [.agg [.slice oa n1 oc, .slice wa n2 wc, .slice da n3 dc].toArray] w (.tuple #[spanV (soilS f), .int .i64 0]) := by
  subst h1 h2 h3
  have h := soilQ f oa wa da oc wc dc w hm hf
  rw [show soilR f = (soilS f, 0) by unfold soilR; rw [hv]; rfl] at h
  exact h
theorem shallowQn (f : FurrowD) (h1 : f.offs.length = n1) (h2 : f.wids.length = n2) (h3 : f.deps.length = n3) (least : Int) (w : World) (hm : Lens f) (hf : FurrowAt w f oa wa da) {a b : Nat} {e : Int} (hr : shallowR f least = ((a, b), e)) : Gives Try.prog 25 [.agg [.slice oa n1 oc, .slice wa n2 wc, .slice da n3 dc].toArray, .int .i64 least] w (.tuple #[.int .i64 (a : Int), .int .i64 (b : Int), .int .i64 e]) := by
  subst h1 h2 h3
  have h := shallowQ f oa wa da oc wc dc least w hm hf
  rw [hr] at h
  exact h
theorem wrongQn (f : FurrowD) (h1 : f.offs.length = n1) (h2 : f.wids.length = n2) (h3 : f.deps.length = n3) (most : Int) (w : World) (hm : Lens f) (hf : FurrowAt w f oa wa da) {s e : Int} (hr : wrongR f most = (s, e)) : Gives Try.prog 23 [.agg [.slice oa n1 oc, .slice wa n2 wc, .slice da n3 dc].toArray, .int .i64 most] w (.tuple #[.int .i64 s, .int .i64 e]) := by
  subst h1 h2 h3
  have h := wrongQ f oa wa da oc wc dc most w hm hf
  rw [hr] at h
  exact h
end
def inSpB (a b : SpanD) : Bool := decide (b.lo ≤ a.lo) && decide (a.hi ≤ b.hi)
set_option maxRecDepth 100000 in
set_option maxHeartbeats 4000000 in
theorem inSpK (a b : SpanD) (w : World) : Gives Try.prog 38 [.agg (spanC a).toArray, .agg (spanC b).toArray] w (.bool (inSpB a b)) := by
  unfold inSpB
  by_cases h : b.lo ≤ a.lo
  ·
    refine .mk <| enter (n := 17) Try.func38 rfl rfl rfl (by repeat (first | exact Fill.nil | apply Fill.cons)) ?_
    refine cw_seq ?_
    refine cw_region ?_
    refine lstep rfl rfl rfl (run_boxN (.tmp rfl)) ?_
    intro b2 _
    refine lstep rfl rfl rfl (run_boxN (.tmp rfl)) ?_
    intro b3 _
    refine lstepB rfl rfl rfl (run_assign .const) ?_
    refine lnil ?_
    refine xw_then ?_
    refine cw_seq ?_
    refine cw_region ?_
    refine lstepB rfl rfl rfl (run_fieldAddr (.tmp rfl) fa28_0 (by first | exact Nat.zero_add _ | exact rfl)) ?_
    refine lstepB rfl rfl rfl (run_load1 (.tmp rfl) kd3 (by repeat (first | exact List.Mem.head _ | apply List.Mem.tail)) (by exact rfl)) ?_
    refine lstepB rfl rfl rfl (run_fieldAddr (.tmp rfl) fa28_0 (by first | exact Nat.zero_add _ | exact rfl)) ?_
    refine lstepB rfl rfl rfl (run_load1 (.tmp rfl) kd3 (by repeat (first | exact List.Mem.head _ | apply List.Mem.tail)) (by exact rfl)) ?_
    refine lstepB rfl rfl rfl (run_geq (.tmp rfl) (.tmp rfl) (decide_eq_true (by omega))) ?_
    refine lstepB rfl rfl rfl (run_move (.tmp rfl)) ?_
    refine lyes rfl rfl rfl rfl ?_
    refine gstepB rfl rfl (run_fieldAddr (.tmp rfl) fa28_1 (by first | exact Nat.zero_add _ | exact rfl)) ?_
    refine lyes rfl rfl rfl rfl ?_
    refine gstepB rfl rfl (run_load1 (.tmp rfl) kd3 (by repeat (first | exact List.Mem.head _ | apply List.Mem.tail)) (by exact rfl)) ?_
    refine lyes rfl rfl rfl rfl ?_
    refine gstepB rfl rfl (run_fieldAddr (.tmp rfl) fa28_1 (by first | exact Nat.zero_add _ | exact rfl)) ?_
    refine lyes rfl rfl rfl rfl ?_
    refine gstepB rfl rfl (run_load1 (.tmp rfl) kd3 (by repeat (first | exact List.Mem.head _ | apply List.Mem.tail)) (by exact rfl)) ?_
    refine lyes rfl rfl rfl rfl ?_
    refine gstepB rfl rfl (run_leq (.tmp rfl) (.tmp rfl) rfl) ?_
    refine lstepB rfl rfl rfl (by first | exact run_pick_true (.tmp rfl) (.tmp rfl) | exact run_pick_false (.tmp rfl) .const) ?_
    refine lstepB rfl rfl rfl (run_assign (.tmp rfl)) ?_
    refine lnil ?_
    refine xw_then ?_
    refine cw_ret ?_
    refine xw_ret1 Try.results38 rfl (fun w hS => ⟨by rw [decide_eq_true h]; rfl, hS.kept⟩)
  ·
    refine .mk <| enter (n := 17) Try.func38 rfl rfl rfl (by repeat (first | exact Fill.nil | apply Fill.cons)) ?_
    refine cw_seq ?_
    refine cw_region ?_
    refine lstep rfl rfl rfl (run_boxN (.tmp rfl)) ?_
    intro b2 _
    refine lstep rfl rfl rfl (run_boxN (.tmp rfl)) ?_
    intro b3 _
    refine lstepB rfl rfl rfl (run_assign .const) ?_
    refine lnil ?_
    refine xw_then ?_
    refine cw_seq ?_
    refine cw_region ?_
    refine lstepB rfl rfl rfl (run_fieldAddr (.tmp rfl) fa28_0 (by first | exact Nat.zero_add _ | exact rfl)) ?_
    refine lstepB rfl rfl rfl (run_load1 (.tmp rfl) kd3 (by repeat (first | exact List.Mem.head _ | apply List.Mem.tail)) (by exact rfl)) ?_
    refine lstepB rfl rfl rfl (run_fieldAddr (.tmp rfl) fa28_0 (by first | exact Nat.zero_add _ | exact rfl)) ?_
    refine lstepB rfl rfl rfl (run_load1 (.tmp rfl) kd3 (by repeat (first | exact List.Mem.head _ | apply List.Mem.tail)) (by exact rfl)) ?_
    refine lstepB rfl rfl rfl (run_geq (.tmp rfl) (.tmp rfl) (decide_eq_false (by omega))) ?_
    refine lstepB rfl rfl rfl (run_move (.tmp rfl)) ?_
    refine lskip rfl rfl rfl rfl rfl rfl rfl ?_
    refine lskip rfl rfl rfl rfl rfl rfl rfl ?_
    refine lskip rfl rfl rfl rfl rfl rfl rfl ?_
    refine lskip rfl rfl rfl rfl rfl rfl rfl ?_
    refine lskip rfl rfl rfl rfl rfl rfl rfl ?_
    refine lstepB rfl rfl rfl (by first | exact run_pick_true (.tmp rfl) (.tmp rfl) | exact run_pick_false (.tmp rfl) .const) ?_
    refine lstepB rfl rfl rfl (run_assign (.tmp rfl)) ?_
    refine lnil ?_
    refine xw_then ?_
    refine cw_ret ?_
    refine xw_ret1 Try.results38 rfl (fun w hS => ⟨by rw [decide_eq_false h]; rfl, hS.kept⟩)
end Go.Proofs.Ytjdeplehhmhpcaa
