/- Furrow: turned furrows: what calls give. -/
import Derived.Test.YtjdeplehhmhpcaaGQ
namespace Go.Proofs.Ytjdeplehhmhpcaa
open Go.RowKit En

theorem shlB : ∀ b : Fin 2, ∀ c : Fin 9, IntKind.i64.wrap (((b.1 : Nat) : Int) * 2 ^ (min ((c.1 : Nat) : Int).toNat IntKind.i64.bits)) = ((b.1 * 2 ^ c.1 : Nat) : Int) := by decide +kernel
theorem pow9 : ∀ c : Fin 9, 2 ^ c.1 ≤ 256 := by decide +kernel
theorem bitN_lt2 (s k : Nat) : bitN s k < 2 := Nat.mod_lt _ (by omega)
set_option maxRecDepth 100000 in
set_option maxHeartbeats 4000000 in
theorem turnK (s n b9 : Nat) (hs : s < 2 ^ 32) (hn : n ≤ 8) (w : World) (hc : w.cell? ⟨b9, 0, none⟩ = some (.int .i64 (n : Int))) : Gives Try.prog 39 [.int .i64 (s : Int), .pointer (some ⟨b9, 0, none⟩)] w (.int .i64 ((turnN n s n : Nat) : Int)) := by
  refine .mk <| enter (n := 22) Try.func39 rfl rfl rfl (by repeat (first | exact Fill.nil | apply Fill.cons)) ?_
  refine cw_seq ?_
  refine cw_region ?_
  refine lstepB rfl rfl rfl (run_assign .const) ?_
  refine lnil ?_
  refine xw_then ?_
  refine cw_seq ?_
  refine cw_seq ?_
  refine cw_region ?_
  refine lstepB rfl rfl rfl (run_load1_at (.tmp rfl) kd3 (fun w' hS => hS.old_cell (fun h => h) hc)) ?_
  refine lstepB rfl rfl rfl (run_move .const) ?_
  refine lnil ?_
  refine xw_then ?_
  refine cw_block ?_
  refine cw_loop (S := Nat) (fun k => [(6, .int .i64 (k : Int)), (3, .int .i64 ((turnN n s k : Nat) : Int))]) [(0, _), (1, _), (5, _)] (fun k => []) (fun k => k ≤ n) (fun k => n - k) 0 (Nat.zero_le _) (by repeat (first | exact Less.nil | refine Less.cons rfl ?_)) (by repeat (first | exact Pick.nil | (apply Pick.cons; focus (repeat (first | exact Del.here | apply Del.there))))) ?_
  intro k hk
  refine cw_seq ?_
  refine cw_region ?_
  refine lstepB rfl rfl rfl (run_lss (.tmp rfl) (.tmp rfl) rfl) ?_
  refine lnil ?_
  refine xw_then ?_
  refine cw_seq ?_
  refine cw_cond_p (.tmp rfl) (fun hl => ?_) (fun hl => ?_)
  ·
    have hkn : k < n := by omega
    have hqa : s / 2 ^ k < 2 ^ 32 := Nat.lt_of_le_of_lt (Nat.div_le_self _ _) hs
    have hsh := shlB ⟨bitN s k, bitN_lt2 s k⟩ ⟨n - 1 - k, by omega⟩
    simp only at hsh
    have hlt := turnN_lt n s k hk
    have h2n := pow9 ⟨n, by omega⟩
    have h2m := pow9 ⟨n - 1 - k, by omega⟩
    simp only at h2n h2m
    have hb2 := bitN_lt2 s k
    have hbm : bitN s k * 2 ^ (n - 1 - k) ≤ 1 * 256 := Nat.mul_le_mul (by omega) h2m
    refine cw_skip ?_
    refine xw_then ?_
    refine cw_seq ?_
    refine cw_block ?_
    refine cw_seq ?_
    refine cw_region ?_
    refine lstepB rfl rfl rfl (run_move (.tmp rfl)) ?_
    refine lstepB rfl rfl rfl (run_assign (.tmp rfl)) ?_
    refine lnil ?_
    refine xw_then ?_
    refine cw_chain2 (σ := [0, 1, 2, 3, 4, 5, 6, 7, 8, 9, 10, 11]) [⟨0, [], [], [], 0⟩, ⟨0, [], [], [], 0⟩, ⟨0, [], [], [], 0⟩, ⟨0, [], [], [], 6⟩, ⟨0, [], [], [], 14⟩, ⟨0, [], [], [], 0⟩, ⟨0, [], [], [], 32⟩, ⟨0, [], [], [], 0⟩, ⟨0, [], [], [], 224⟩, ⟨0, [], [], [], 510⟩, ⟨0, [], [], [], 1023⟩, ⟨0, [], [], [], 2047⟩] [] (by kernel_rfl) (by kernel_rfl) rfl ?_
    refine .det (B := []) rfl rfl (.inl rfl) .nil .nil rfl (RunB.lr (run_move (.tmp rfl))) ?_
    refine .det (B := []) rfl rfl (.inl rfl) .nil .nil rfl (RunB.lr (run_move (.tmp rfl))) ?_
    refine .det (B := []) rfl rfl (.inl rfl) .nil .nil rfl (RunB.lr (run_move (.tmp rfl))) ?_
    refine .det (B := []) rfl rfl (.inl rfl) .nil .nil rfl (RunB.lr (run_shr (z := k) (.tmp rfl) (.tmp rfl) (by omega))) ?_
    refine .det (B := []) rfl rfl (.inl rfl) .nil .nil rfl (RunB.lr (run_and (c' := ((bitN s k : Nat) : Int)) (.tmp rfl) .const (and_one hqa))) ?_
    refine .det (B := []) rfl rfl (.inl rfl) .nil .nil rfl (RunB.lr (run_load1_at (.tmp rfl) kd3 (fun w' hS => hS.old_cell (fun h => h) hc))) ?_
    refine .det (B := []) rfl rfl (.inl rfl) .nil .nil rfl (RunB.lr (run_sub (.tmp rfl) .const (by first | exact IntWalk.i64_in _ (by omega) | exact rfl))) ?_
    refine .det (B := []) rfl rfl (.inl rfl) .nil .nil rfl (RunB.lr (run_move (.tmp rfl))) ?_
    refine .det (B := []) rfl rfl (.inl rfl) .nil .nil rfl (RunB.lr (run_sub (c := ((n - 1 - k : Nat) : Int)) (.tmp rfl) (.tmp rfl) (by rw [show (n : Int) - 1 - (k : Int) = ((n - 1 - k : Nat) : Int) by omega]; exact IntWalk.i64_in _ (by omega)))) ?_
    refine .det (B := []) rfl rfl (.inl rfl) .nil .nil rfl (RunB.lr (run_shl (c' := ((bitN s k * 2 ^ (n - 1 - k) : Nat) : Int)) (.tmp rfl) (.tmp rfl) (by omega) hsh)) ?_
    refine .det (B := []) rfl rfl (.inl rfl) .nil .nil rfl (RunB.lr (run_or (c' := ((turnN n s (k + 1) : Nat) : Int)) (.tmp rfl) (.tmp rfl) (or_small (by omega) (by omega)))) ?_
    refine .det (B := []) rfl rfl (.inl rfl) .nil .nil rfl (RunB.lr (run_assign (.tmp rfl))) ?_
    refine chain_nil (ts := []) .nil (by decide) ?_
    refine xw_in ?_
    refine xw_then ?_
    refine cw_region ?_
    refine lstepB rfl rfl rfl (run_add (.tmp rfl) .const (by first | exact IntWalk.i64_in _ (by omega) | exact rfl)) ?_
    refine lstepB rfl rfl rfl (run_move (.tmp rfl)) ?_
    refine lnil ?_
    exact xw_round (k + 1) (by show k + 1 ≤ _; omega) (by show n - (k + 1) < n - k; omega) (by repeat (first | exact Less.nil | refine Less.cons rfl ?_)) (by repeat (first | exact Pick.nil | (apply Pick.cons; focus (repeat (first | exact Del.here | apply Del.there)))))
  ·
    obtain rfl : k = n := by omega
    refine cw_exit ?_
    refine xw_then_exit ?_
    refine xw_then_exit ?_
    refine xw_in_exit ?_
    refine xw_then ?_
    refine cw_seq ?_
    refine cw_region ?_
    refine lstepB rfl rfl rfl (run_move (.tmp rfl)) ?_
    refine lstepB rfl rfl rfl (run_assign (.tmp rfl)) ?_
    refine lnil ?_
    refine xw_then ?_
    refine cw_ret ?_
    refine xw_ret1 Try.results39 rfl (fun w hS => ⟨rfl, hS.kept⟩)
theorem own_cell0 {w : World} {b : Nat} {v : Value} {te : TypeId} {fr : Nat × Nat} (h : w.heap[b]? = some (.cells [v].toArray te fr)) : w.cell? ⟨b, 0, none⟩ = some v := by simp [World.cell?, h]
theorem span_cell {w : World} {b n cap k : Nat} {cur : List Value} {te : TypeId} {fr : Nat × Nat} {L : List SpanD} {s : SpanD} (h : w.heap[b]? = some (.cells cur.toArray te fr)) (hr : InRow 2 n cap cur (spansC L)) (hk : L[k]? = some s) : ∀ j v, (spanC s)[j]? = some v → w.cell? ⟨b, k * 2 + j, none⟩ = some v := fun j v hj => by
  obtain ⟨hlt, rfl⟩ := List.getElem?_eq_some_iff.1 hk
  have h2 := spansC_two (L := L) (k := k) hlt
  have e : L.getD k default = L[k] := by rw [List.getD_eq_getElem?_getD, List.getElem?_eq_getElem hlt]; rfl
  rw [e] at h2
  have h3 : (spansC L)[k * 2 + j]? = some v := by
    match j, hj with
    | 0, hj => cases hj; exact h2.1
    | 1, hj => cases hj; exact h2.2
  have := hr.get h3
  simp [World.cell?, h, this]
section
variable {oa wa da : Option Addr} {oc wc dc n1 n2 n3 : Nat}
theorem rFurrowQn (f : FurrowD) (h1 : f.offs.length = n1) (h2 : f.wids.length = n2) (h3 : f.deps.length = n3) (w : World) (hm : Lens f) (hf : FurrowAt w f oa wa da) {r : Bool} (hv : validB f = r) : Gives Try.prog 35 [.agg [.slice oa n1 oc, .slice wa n2 wc, .slice da n3 dc].toArray] w (.bool r) := by
  subst h1 h2 h3 hv
  exact rFurrowK f oa wa da oc wc dc w hm hf
theorem straightQn (f : FurrowD) (h1 : f.offs.length = n1) (h2 : f.wids.length = n2) (h3 : f.deps.length = n3) (w : World) (hm : Lens f) (hf : FurrowAt w f oa wa da) (hv : validB f = true) : CallsF Try.prog 18 (([.agg [.slice oa n1 oc, .slice wa n2 wc, .slice da n3 dc].toArray] : List Value)).toArray w fun e w' => ∃ s : Nat × List Int, (s.2.length = n1 ∧ SmallL s.2 ∧ mostT s.2 = (bendT f.offs).lo) ∧ e = .returned (.tuple #[.slice (some ⟨s.1, 0, none⟩) n1 n1, .int .i64 0]) ∧ St w NoT [(s.1, Obj.cells (intsV s.2).toArray 3 (0, 0))] w' := by
  subst h1 h2 h3
  obtain ⟨t, hway, htI, htm, _⟩ := straight_spec (validF hv).fine
  refine (straightQ_ok f oa wa da oc wc dc w hm hf hv).mono fun e w' ⟨s, ⟨g1, g2⟩, g3, g4⟩ => ⟨s, ⟨g1, ?_⟩, g3, g4⟩
  rw [g2 t hway]
  exact ⟨inn_small (validF hv) htI, htm⟩
theorem atQn2 (f : FurrowD) (h1 : f.offs.length = n1) (h2 : f.wids.length = n2) (h3 : f.deps.length = n3) (st : Int) (w : World) (hm : Lens f) (hf : FurrowAt w f oa wa da) {s : SpanD} {e : Int} (hr : atR f st = (s, e)) : Gives Try.prog 16 [.agg [.slice oa n1 oc, .slice wa n2 wc, .slice da n3 dc].toArray, .int .i64 st] w (.tuple #[spanV s, .int .i64 e]) := by
  subst h1 h2 h3
  have h := atQ f oa wa da oc wc dc st w hm hf
  rw [hr] at h
  exact h
theorem rmostKn (t : List Int) {n1 : Nat} (h1 : t.length = n1) (hn : n1 ≤ 1000000) (hs : SmallL t) {m : Int} (hm : mostT t = m) (a : Option Addr) (c : Nat) (w : World) (hp : IntsAt w a t) : Gives Try.prog 32 [.slice a n1 c] w (.int .i64 m) := by
  subst h1 hm
  exact rmostK t hn hs a c w hp
end
theorem alongL_succ (n : Nat) (G : Nat → SpanD) : alongL (n + 1) G = alongL n G ++ [G n] := by simp [alongL, List.range_succ]
theorem alongL_getD {n k : Nat} {G : Nat → SpanD} (h : k < n) : (alongL n G).getD k default = G k := by rw [List.getD_eq_getElem?_getD, alongL_at h]; rfl
theorem along_row {n cap : Nat} {cur : List Value} {G : Nat → SpanD} {s : SpanD} (e : s = G n) (h : InRow 2 (n + 1) cap cur (spansC (alongL n G) ++ spanC s)) : InRow 2 (n + 1) cap cur (spansC (alongL (n + 1) G)) := by
  subst e
  rw [alongL_succ, show spansC (alongL n G ++ [G n]) = spansC (alongL n G) ++ spanC (G n) from List.flatMap_append ..]
  exact h
inductive TurR where
  | zero
  | five (x y o w d : Nat × Nat × List Value)
structure TurS where
  k : Nat
  rows : TurR
/-- What is told of a furrow and of one turned is the same. -/
structure Same (f q : FurrowD) (most : Int) : Prop where
  v : validB q = true
  bend : bendT q.offs = bendT f.offs
  soil : soilS q = soilS f
instance innerDec (l : List SpanD) (k : Nat) : Decidable (Inner l k) := inferInstanceAs (Decidable (_ ∧ _))
theorem at_same {f q : FurrowD} (hv : validB f = true) (hq : validB q = true) {σ : Nat → Nat} (h : Twin f.offs q.offs σ) {j i : Nat} (hj : Inner f.offs j → i = σ j) (hi : Inner q.offs i → Inner f.offs j) : atR q (i : Int) = atR f (j : Int) := by
  unfold atR
  rw [hv, hq]
  simp only [if_true]
  have e1 : innerB f.offs.length (j : Int) = decide (Inner f.offs j) := by unfold innerB Inner; rw [← Bool.decide_and]; exact decide_eq_decide.2 (by omega)
  have e2 : innerB q.offs.length (i : Int) = decide (Inner q.offs i) := by unfold innerB Inner; rw [← Bool.decide_and]; exact decide_eq_decide.2 (by omega)
  rw [e1, e2]
  by_cases hI : Inner f.offs j
  · obtain rfl := hj hI
    rw [decide_eq_true hI, decide_eq_true (h.inner j hI)]
    simp only [if_true, Int.toNat_natCast]
    rw [h.at_ (validF hv).fine (validF hq).fine hI]
  · rw [decide_eq_false hI, decide_eq_false (fun h => hI (hi h))]
    rfl
theorem inner_dec {l : List SpanD} (hl : FineC l) {j : Nat} (h : ¬ Inner l j) : (sureN l).testBit j = false ∧ (canN l).testBit j = false := by
  constructor
  · rw [← Bool.not_eq_true]; exact fun hb => h ((sure_bit hl).1 hb).1
  · rw [← Bool.not_eq_true]; exact fun hb => h ((can_bit hl).1 hb).1
theorem same_sets {f q : FurrowD} (hv : validB f = true) (hq : validB q = true) (h : Twin f.offs q.offs fun k => k) : sureN q.offs = sureN f.offs ∧ canN q.offs = canN f.offs := by
  have hf := (validF hv).fine
  have hg := (validF hq).fine
  have hl := h.len
  constructor
  · refine nat_bits fun j => ?_
    by_cases hI : Inner f.offs j
    · exact h.sure hf hg hI
    · rw [(inner_dec hf hI).1, (inner_dec hg (fun hq => hI (by unfold Inner at hq ⊢; omega))).1]
  · refine nat_bits fun j => ?_
    by_cases hI : Inner f.offs j
    · exact h.can hf hg hI
    · rw [(inner_dec hf hI).2, (inner_dec hg (fun hq => hI (by unfold Inner at hq ⊢; omega))).2]
theorem rev_sets {f q : FurrowD} (hv : validB f = true) (hq : validB q = true) (hr : IsRev f.offs q.offs) : turnN f.offs.length (sureN q.offs) f.offs.length = sureN f.offs ∧ turnN f.offs.length (canN q.offs) f.offs.length = canN f.offs := by
  have hf := (validF hv).fine
  have hg := (validF hq).fine
  have h := twin_rev hr
  have key : ∀ j, Inner f.offs j → f.offs.length - f.offs.length ≤ j ∧ j < f.offs.length := fun j hj => by unfold Inner at hj; omega
  constructor
  · refine nat_bits fun j => ?_
    rw [turnN_bit _ _ _ _ (Nat.le_refl _)]
    by_cases hI : Inner f.offs j
    · have e := h.sure hf hg hI
      have k2 := key j hI
      rw [e]
      cases hb : (sureN f.offs).testBit j
      · exact decide_eq_false (by simp)
      · exact decide_eq_true ⟨k2.1, k2.2, rfl⟩
    · rw [(inner_dec hf hI).1]
      refine decide_eq_false fun ⟨_, h2, h3⟩ => hI ?_
      have := ((sure_bit hg).1 h3).1
      have hl := hr.len
      unfold Inner at this ⊢
      omega
  · refine nat_bits fun j => ?_
    rw [turnN_bit _ _ _ _ (Nat.le_refl _)]
    by_cases hI : Inner f.offs j
    · have e := h.can hf hg hI
      have k2 := key j hI
      rw [e]
      cases hb : (canN f.offs).testBit j
      · exact decide_eq_false (by simp)
      · exact decide_eq_true ⟨k2.1, k2.2, rfl⟩
    · rw [(inner_dec hf hI).2]
      refine decide_eq_false fun ⟨_, h2, h3⟩ => hI ?_
      have := ((can_bit hg).1 h3).1
      have hl := hr.len
      unfold Inner at this ⊢
      omega
/-- The furrows that are made out of one. -/
def farI (a b : Int) (k : Nat) : Int := a + (k : Int) * b
def xF (f : FurrowD) (a b : Int) : FurrowD := ⟨alongL f.offs.length fun k => ⟨(f.offs.getD k default).lo + farI a b k, (f.offs.getD k default).hi + farI a b k⟩, f.wids, f.deps⟩
def yF (f : FurrowD) : FurrowD := ⟨alongL f.offs.length fun k => ⟨-(f.offs.getD k default).hi, -(f.offs.getD k default).lo⟩, f.wids, f.deps⟩
def zF (f : FurrowD) : FurrowD := ⟨alongL f.offs.length fun k => f.offs.getD (f.offs.length - 1 - k) default, alongL f.offs.length fun k => f.wids.getD (f.offs.length - 1 - k) default, alongL f.offs.length fun k => f.deps.getD (f.offs.length - 1 - k) default⟩
theorem xF_shift (f : FurrowD) (a b : Int) : IsShift f.offs (xF f a b).offs (farI a b) := ⟨alongL_length _ _, fun k hk => by rw [xF]; exact alongL_getD hk⟩
theorem yF_neg (f : FurrowD) : IsNeg f.offs (yF f).offs := ⟨alongL_length _ _, fun k hk => by rw [yF]; exact alongL_getD hk⟩
theorem zF_rev (f : FurrowD) : IsRev f.offs (zF f).offs := ⟨alongL_length _ _, fun k hk => by rw [zF]; exact alongL_getD hk⟩
theorem far_lin (a b : Int) (k : Nat) (hk : 1 ≤ k) : 2 * farI a b k = farI a b (k - 1) + farI a b (k + 1) := by
  obtain ⟨j, rfl⟩ : ∃ j, k = j + 1 := ⟨k - 1, by omega⟩
  unfold farI
  rw [Nat.add_sub_cancel, show ((j + 1 : Nat) : Int) = (j : Int) + 1 by omega, show ((j + 1 + 1 : Nat) : Int) = (j : Int) + 2 by omega, Int.add_mul, Int.add_mul]
  omega
end Go.Proofs.Ytjdeplehhmhpcaa
