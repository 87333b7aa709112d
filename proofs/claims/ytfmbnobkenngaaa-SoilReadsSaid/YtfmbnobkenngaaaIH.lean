/- Soil: the document's own Parts and Class. -/
import Derived.Test.YtfmbnobkenngaaaIG
namespace Go.Proofs.Ytfmbnobkenngaaa
open Go.RowKit En

theorem run_quoZ {P : Program} {E : Env} {w0 : World} {T : Nat → Prop} {H : Heap} {x y : Operand} {d : Option Tmp} {tx ty tyy : TypeId} {pos : String} {af : Array Edge} {gd : Option (Nat × Bool)} {a b : Int} (hx : Ev E x (.int .i64 a)) (hy : Ev E y (.int .i64 b)) (h0 : 0 ≤ a) (h1 : 0 < b) (h2 : a ≤ 1000000) : RunB P E w0 T H ⟨d, .binOp .quo tx x y tyy, ty, pos, af, gd⟩ (.int .i64 (a / b)) := fun ρ w hρ hS => by
  refine doneO rfl ?_
  have e1 := hρ x _ (by simp [Op.operands]) hx
  have e2 := hρ y _ (by simp [Op.operands]) hy
  have hb : b ≠ 0 := by omega
  have q1 : 0 ≤ a / b := Int.ediv_nonneg h0 (by omega)
  have q2 : a / b ≤ a := Int.ediv_le_self _ h0
  have q3 : IntKind.i64.wrap (a / b) = a / b := IntWalk.i64_in _ (by omega)
  simp [execOp, e1, e2, Done, go_sem, Below.refl, eqGuard, binOp, Op.intDiv, hb, Int.tdiv_eq_ediv_of_nonneg h0, q3]
structure PartsZ where
  i : Nat
  a : SpanD
  b : SpanD
  c : SpanD
/-- A span's ends are some mixes', and the first mixes lie within. -/
structure EnvZ (M : List S3) (f : S3 → Int) (i : Nat) (s : SpanD) : Prop where
  lo : ∃ m ∈ M, f m = s.lo
  hi : ∃ m ∈ M, f m = s.hi
  all : ∀ j m, j < i → M[j]? = some m → s.lo ≤ f m ∧ f m ≤ s.hi
theorem EnvZ.init {M : List S3} {f : S3 → Int} {m : S3} (h : m ∈ M) : EnvZ M f 0 ⟨f m, f m⟩ := ⟨⟨m, h, rfl⟩, ⟨m, h, rfl⟩, fun j _ h => absurd h (Nat.not_lt_zero _)⟩
theorem EnvZ.step {M : List S3} {f : S3 → Int} {i : Nat} {s : SpanD} {m : S3} (h : EnvZ M f i s) (hm : M[i]? = some m) : EnvZ M f (i + 1) ⟨min s.lo (f m), max s.hi (f m)⟩ := by
  have hmem := List.mem_of_getElem? hm
  refine ⟨?_, ?_, fun j q hj hq => ?_⟩
  · by_cases c : s.lo ≤ f m
    · obtain ⟨q, h1, h2⟩ := h.lo; exact ⟨q, h1, by simp only; omega⟩
    · exact ⟨m, hmem, by simp only; omega⟩
  · by_cases c : f m ≤ s.hi
    · obtain ⟨q, h1, h2⟩ := h.hi; exact ⟨q, h1, by simp only; omega⟩
    · exact ⟨m, hmem, by simp only; omega⟩
  · simp only
    rcases Nat.lt_or_ge j i with c | c
    · have := h.all j q c hq; omega
    · obtain rfl : j = i := by omega
      rw [hm] at hq; cases hq; omega
theorem EnvZ.done {M : List S3} {f : S3 → Int} {s o : SpanD} (h : EnvZ M f M.length s) (h1 : ∀ m ∈ M, o.lo ≤ f m ∧ f m ≤ o.hi) (h2 : ∃ m ∈ M, f m = o.lo) (h3 : ∃ m ∈ M, f m = o.hi) : s = o := by
  have key : ∀ m ∈ M, s.lo ≤ f m ∧ f m ≤ s.hi := fun m hm => by
    obtain ⟨j, hj, rfl⟩ := List.getElem_of_mem hm
    exact h.all j _ hj (List.getElem?_eq_getElem hj)
  obtain ⟨a, a1, a2⟩ := h.lo
  obtain ⟨b, b1, b2⟩ := h.hi
  obtain ⟨c, c1, c2⟩ := h2
  obtain ⟨d, d1, d2⟩ := h3
  have q1 := h1 a a1
  have q2 := h1 b b1
  have q3 := key c c1
  have q4 := key d d1
  obtain ⟨x, y⟩ := s
  obtain ⟨z, t⟩ := o
  simp only at *
  simp only [SpanD.mk.injEq]
  omega
theorem env_parts {M : List S3} {m : MixD} (hM : ∀ s, s ∈ M ↔ sum20 s ∧ InM m s) (ht : Tight m) {a b c : SpanD} (ha : EnvZ M (·.a) M.length a) (hb : EnvZ M (·.b) M.length b) (hc : EnvZ M (·.c) M.length c) : m = ⟨a, b, c⟩ := by
  obtain ⟨s1, x1, y1, z1⟩ := ht.alo
  obtain ⟨s2, x2, y2, z2⟩ := ht.ahi
  obtain ⟨s3, x3, y3, z3⟩ := ht.blo
  obtain ⟨s4, x4, y4, z4⟩ := ht.bhi
  obtain ⟨s5, x5, y5, z5⟩ := ht.clo
  obtain ⟨s6, x6, y6, z6⟩ := ht.chi
  have e1 := ha.done (o := m.sand) (fun q hq => by have := ((hM q).1 hq).2; simp only [InM] at this; exact ⟨this.1, this.2.1⟩) ⟨s1, (hM s1).2 ⟨x1, y1⟩, z1⟩ ⟨s2, (hM s2).2 ⟨x2, y2⟩, z2⟩
  have e2 := hb.done (o := m.silt) (fun q hq => by have := ((hM q).1 hq).2; simp only [InM] at this; exact ⟨this.2.2.1, this.2.2.2.1⟩) ⟨s3, (hM s3).2 ⟨x3, y3⟩, z3⟩ ⟨s4, (hM s4).2 ⟨x4, y4⟩, z4⟩
  have e3 := hc.done (o := m.clay) (fun q hq => by have := ((hM q).1 hq).2; simp only [InM] at this; exact ⟨this.2.2.2.2.1, this.2.2.2.2.2⟩) ⟨s5, (hM s5).2 ⟨x5, y5⟩, z5⟩ ⟨s6, (hM s6).2 ⟨x6, y6⟩, z6⟩
  rw [e1, e2, e3]
def clsZ (M : List S3) : Nat → Nat
  | 0 => 0
  | i + 1 => clsZ M i ||| 2 ^ (match M[i]? with | some s => classN s.a s.b s.c | none => 0)
theorem clsZ_succ {M : List S3} {i : Nat} {s : S3} (h : M[i]? = some s) : clsZ M (i + 1) = clsZ M i ||| 2 ^ classN s.a s.b s.c := by rw [clsZ, h]
theorem clsZ_bit (M : List S3) (c : Nat) : ∀ i, i ≤ M.length → ((clsZ M i).testBit c = true ↔ ∃ j s, j < i ∧ M[j]? = some s ∧ classN s.a s.b s.c = c)
  | 0, _ => by simp [clsZ]
  | i + 1, h => by
    have ih := clsZ_bit M c i (by omega)
    obtain ⟨s, hs⟩ : ∃ s, M[i]? = some s := ⟨_, List.getElem?_eq_getElem (by omega)⟩
    rw [clsZ_succ hs, Nat.testBit_or, Bool.or_eq_true, ih, Nat.testBit_two_pow, decide_eq_true_eq]
    constructor
    · rintro (⟨j, t, h1, h2, h3⟩ | h3)
      · exact ⟨j, t, by omega, h2, h3⟩
      · exact ⟨i, s, by omega, hs, h3⟩
    · rintro ⟨j, t, h1, h2, h3⟩
      rcases Nat.lt_or_ge j i with c1 | c1
      · exact .inl ⟨j, t, c1, h2, h3⟩
      · obtain rfl : j = i := by omega
        rw [hs] at h2; cases h2
        exact .inr h3
theorem classN_4 (a b c : Int) : classN a b c < 4 := by unfold classN; split <;> (try split) <;> (try split) <;> omega
theorem clsZ_lt (M : List S3) : ∀ i, i ≤ M.length → clsZ M i < 16
  | 0, _ => by simp [clsZ]
  | i + 1, h => by
    have ih := clsZ_lt M i (by omega)
    obtain ⟨s, hs⟩ : ∃ s, M[i]? = some s := ⟨_, List.getElem?_eq_getElem (by omega)⟩
    rw [clsZ_succ hs]
    have h2 : 2 ^ classN s.a s.b s.c < 2 ^ 4 := Nat.pow_lt_pow_right (by omega) (classN_4 ..)
    exact Nat.or_lt_two_pow (n := 4) (by omega) h2
theorem clsZ_classes {M : List S3} {m : MixD} (hM : ∀ s, s ∈ M ↔ sum20 s ∧ InM m s) : clsZ M M.length = classesM m := by
  refine bits_ext fun c => ?_
  rw [clsZ_bit M c _ (Nat.le_refl _), classes_bit]
  constructor
  · rintro ⟨j, s, h1, h2, h3⟩
    have := (hM s).1 (List.mem_of_getElem? h2)
    exact ⟨s, this.1, this.2, h3⟩
  · rintro ⟨s, h1, h2, h3⟩
    obtain ⟨j, hj, e⟩ := List.getElem_of_mem ((hM s).2 ⟨h1, h2⟩)
    exact ⟨j, s, hj, by rw [List.getElem?_eq_getElem hj, e], h3⟩
theorem has16 : ∀ v : Fin 16, ∀ c : Fin 4, (v.1.testBit c.1 = true → v.1 ||| 2 ^ c.1 = v.1) ∧ (v.1.testBit c.1 = false → v.1 + 2 ^ c.1 = v.1 ||| 2 ^ c.1) := by decide +kernel
set_option maxRecDepth 100000 in
set_option maxHeartbeats 4000000 in
theorem joinZK (s : SpanD) (x : Int) (w : World) : Gives Try.prog 53 [.agg [.int .i64 s.lo, .int .i64 s.hi].toArray, .int .i64 x] w (.agg [.int .i64 (min s.lo x), .int .i64 (max s.hi x)].toArray) := by
  refine .mk <| enter (n := 14) Try.func53 rfl rfl rfl (by repeat (first | exact Fill.nil | apply Fill.cons)) ?_
  refine cw_seq ?_
  refine cw_region ?_
  refine lstep rfl rfl rfl (run_boxN (.tmp rfl)) ?_
  intro b2 _
  refine lstep rfl rfl rfl (run_alloc zr28) ?_
  intro b4 _
  refine lnil ?_
  refine xw_then ?_
  refine cw_seq ?_
  refine cw_region ?_
  refine lstepB rfl rfl rfl (run_fieldAddr (.tmp rfl) fa28_0 (by first | exact Nat.zero_add _ | exact rfl)) ?_
  refine lstepB rfl rfl rfl (run_load1 (.tmp rfl) kd3 (by repeat (first | exact List.Mem.head _ | apply List.Mem.tail)) (by exact rfl)) ?_
  refine lstepB rfl rfl rfl (run_move (.tmp rfl)) ?_
  refine lstepB rfl rfl rfl (run_min2 (.tmp rfl) (.tmp rfl)) ?_
  refine lstepB rfl rfl rfl (run_fieldAddr (.tmp rfl) fa28_1 (by first | exact Nat.zero_add _ | exact rfl)) ?_
  refine lstepB rfl rfl rfl (run_load1 (.tmp rfl) kd3 (by repeat (first | exact List.Mem.head _ | apply List.Mem.tail)) (by exact rfl)) ?_
  refine lstepB rfl rfl rfl (run_move (.tmp rfl)) ?_
  refine lstepB rfl rfl rfl (run_max2 (.tmp rfl) (.tmp rfl)) ?_
  refine lstepB rfl rfl rfl (run_build_at (.cons (.tmp rfl) (.cons (.tmp rfl) .nil)) (fun w => bd28_0_1 w)) ?_
  refine lstep0 rfl rfl (run_storeN (.tmp rfl) (.tmp rfl) rfl sz28 rfl (by repeat (first | exact Upd.here | apply Upd.there)) (by repeat (first | exact Put.done | apply Put.put | apply Put.skip))) ?_
  refine lnil ?_
  refine xw_then ?_
  refine cw_ret ?_
  refine xw_retC1 rfl rfl kd28 sz28 (by repeat (first | exact List.Mem.head _ | apply List.Mem.tail)) (by repeat (first | exact Sub.done | apply Sub.take | apply Sub.skip)) (fun w hS => ⟨rfl, hS.kept⟩)
set_option maxRecDepth 100000 in
set_option maxHeartbeats 4000000 in
theorem powerZK (c : Nat) (hc : c ≤ 30) (w : World) : Gives Try.prog 64 [.int .i64 (c : Int)] w (.int .i64 ((2 ^ c : Nat) : Int)) := by
  refine .mk <| enter (n := 13) Try.func64 rfl rfl rfl (by repeat (first | exact Fill.nil | apply Fill.cons)) ?_
  refine cw_seq ?_
  refine cw_region ?_
  refine lstepB rfl rfl rfl (run_assign .const) ?_
  refine lnil ?_
  refine xw_then ?_
  refine cw_seq ?_
  refine cw_region ?_
  refine lstepB rfl rfl rfl (run_assign .const) ?_
  refine lnil ?_
  refine xw_then ?_
  refine cw_seq ?_
  refine cw_seq ?_
  refine cw_region ?_
  refine lstepB rfl rfl rfl (run_assign .const) ?_
  refine lnil ?_
  refine xw_then ?_
  refine cw_block ?_
  refine cw_loop (S := Nat) (fun k => [(4, .int .i64 ((k : Nat) : Int)), (3, .int .i64 ((2 ^ k : Nat) : Int))]) [(0, _)] (fun k => []) (fun k => k ≤ c) (fun k => c - k) 0 (Nat.zero_le _) (by repeat (first | exact Less.nil | refine Less.cons rfl ?_)) (by repeat (first | exact Pick.nil | (apply Pick.cons; focus (repeat (first | exact Del.here | apply Del.there))))) ?_
  intro k hk
  refine cw_seq ?_
  refine cw_seq ?_
  refine cw_region ?_
  refine lstepB rfl rfl rfl (run_move (.tmp rfl)) ?_
  refine lstepB rfl rfl rfl (run_move (.tmp rfl)) ?_
  refine lstepB rfl rfl rfl (run_lss (.tmp rfl) (.tmp rfl) rfl) ?_
  refine lnil ?_
  refine xw_then ?_
  refine cw_cond_p (.tmp rfl) (fun hl => ?_) (fun hl => ?_)
  ·
    have hp : 2 ^ k ≤ 2 ^ 30 := Nat.pow_le_pow_right (by omega) (by omega)
    have hs : (2 : Int) * ((2 ^ k : Nat) : Int) = ((2 ^ (k + 1) : Nat) : Int) := by rw [Nat.pow_succ, Int.natCast_mul, Int.mul_comm]; rfl
    have hpi : ((2 ^ k : Nat) : Int) ≤ 1073741824 := Int.ofNat_le.2 hp
    have hpn : 0 ≤ ((2 ^ k : Nat) : Int) := Int.natCast_nonneg _
    have hwr : IntKind.i64.wrap (2 * ((2 ^ k : Nat) : Int)) = 2 * ((2 ^ k : Nat) : Int) := by
      obtain ⟨p, hp3⟩ : ∃ p, ((2 ^ k : Nat) : Int) = p := ⟨_, rfl⟩
      rw [hp3] at hpi hpn ⊢
      exact IntWalk.i64_in _ (by omega)
    refine cw_skip ?_
    refine xw_then ?_
    refine cw_seq ?_
    refine cw_block ?_
    refine cw_region ?_
    refine lstepB rfl rfl rfl (run_move (.tmp rfl)) ?_
    refine lstepB rfl rfl rfl (run_mul (c := ((2 ^ (k + 1) : Nat) : Int)) .const (.tmp rfl) (by rw [hwr]; exact hs)) ?_
    refine lstepB rfl rfl rfl (run_assign (.tmp rfl)) ?_
    refine lnil ?_
    refine xw_in ?_
    refine xw_then ?_
    refine cw_region ?_
    refine lstepB rfl rfl rfl (run_move (.tmp rfl)) ?_
    refine lstepB rfl rfl rfl (run_add (.tmp rfl) .const (by first | exact IntWalk.i64_in _ (by omega) | exact rfl)) ?_
    refine lstepB rfl rfl rfl (run_assign (.tmp rfl)) ?_
    refine lnil ?_
    exact xw_round (k + 1) (by show k + 1 ≤ _; omega) (by show c - (k + 1) < c - k; omega) (by repeat (first | exact Less.nil | refine Less.cons rfl ?_)) (by repeat (first | exact Pick.nil | (apply Pick.cons; focus (repeat (first | exact Del.here | apply Del.there)))))
  ·
    obtain rfl : k = c := by omega
    refine cw_exit ?_
    refine xw_then_exit ?_
    refine xw_then_exit ?_
    refine xw_in_exit ?_
    refine xw_then ?_
    refine cw_seq ?_
    refine cw_region ?_
    refine lstepB rfl rfl rfl (run_move (.tmp rfl)) ?_
    refine lstepB rfl rfl rfl (run_assign (.tmp rfl)) ?_
    refine lnil ?_
    refine xw_then ?_
    refine cw_ret ?_
    refine xw_ret1 Try.results64 rfl (fun w hS => ⟨rfl, hS.kept⟩)
set_option maxRecDepth 100000 in
set_option maxHeartbeats 4000000 in
theorem hasZK (v c : Nat) (hv : v < 1000000) (hc : c ≤ 30) (w : World) : Gives Try.prog 89 [.int .i64 (v : Int), .int .i64 (c : Int)] w (.bool (v.testBit c)) := by
  have hp : 0 < 2 ^ c := Nat.two_pow_pos c
  have hq : ((v : Nat) : Int) / ((2 ^ c : Nat) : Int) = ((v / 2 ^ c : Nat) : Int) := (Int.natCast_ediv v (2 ^ c)).symm
  have hd : v / 2 ^ c ≤ v := Nat.div_le_self ..
  have hb : v.testBit c = decide (v / 2 ^ c % 2 = 1) := Nat.testBit_eq_decide_div_mod_eq
  have hp2 : (0 : Int) < ((2 ^ c : Nat) : Int) := Int.natCast_pos.2 hp
  obtain ⟨u, hu⟩ : ∃ u, v / 2 ^ c = u := ⟨_, rfl⟩
  rw [hu] at hq hd hb
  rw [hb]
  refine .mk <| enter (n := 11) Try.func89 rfl rfl rfl (by repeat (first | exact Fill.nil | apply Fill.cons)) ?_
  refine cw_seq ?_
  refine cw_region ?_
  refine lstepB rfl rfl rfl (run_assign .const) ?_
  refine lnil ?_
  refine xw_then ?_
  refine cw_seq ?_
  refine cw_region ?_
  refine lstepB rfl rfl rfl (run_move (.tmp rfl)) ?_
  refine lstepB rfl rfl rfl (run_move (.tmp rfl)) ?_
  refine lstepB rfl rfl rfl (run_call1 cb64 (.cons (.tmp rfl) .nil) (fun w _ => powerZK c (by omega) w)) ?_
  refine lstepB rfl rfl rfl (runB_to (run_quoZ (.tmp rfl) (.tmp rfl) (by omega) hp2 (by omega)) (congrArg (Value.int .i64) hq)) ?_
  refine lstepB rfl rfl rfl (run_rem (.tmp rfl) .const (by omega) (by omega)) ?_
  refine lstepB rfl rfl rfl (run_eql (p := decide (u % 2 = 1)) (.tmp rfl) .const (decide_eq_decide.2 (by omega))) ?_
  refine lstepB rfl rfl rfl (run_assign (.tmp rfl)) ?_
  refine lnil ?_
  refine xw_then ?_
  refine cw_ret ?_
  refine xw_ret1 Try.results89 rfl (fun w hS => ⟨rfl, hS.kept⟩)
set_option maxRecDepth 100000 in
set_option maxHeartbeats 4000000 in
theorem ofZ0 (a b c : Int) (h : -1000 ≤ a ∧ a ≤ 1000 ∧ -1000 ≤ b ∧ b ≤ 1000) (h20 : a + b + c = 20) (w : World) : Gives Try.prog 75 [.agg [.int .i64 a, .int .i64 b].toArray] w (.int .i64 ((classN a b c : Nat) : Int)) := by
  rw [show c = 20 - a - b by omega]
  unfold classN
  by_cases h1 : 8 ≤ 20 - a - b
  ·
    rw [if_pos h1]
    refine .mk <| enter (n := 12) Try.func75 rfl rfl rfl (by repeat (first | exact Fill.nil | apply Fill.cons)) ?_
    refine cw_seq ?_
    refine cw_region ?_
    refine lstep rfl rfl rfl (run_boxN (.tmp rfl)) ?_
    intro b1 _
    refine lstepB rfl rfl rfl (run_assign .const) ?_
    refine lnil ?_
    refine xw_then ?_
    refine cw_seq ?_
    refine cw_seq ?_
    refine cw_region ?_
    refine lstepB rfl rfl rfl (run_loadN (.tmp rfl) kd92 sz92 (by repeat (first | exact List.Mem.head _ | apply List.Mem.tail)) (by repeat (first | exact Sub.done | apply Sub.take | apply Sub.skip))) ?_
    refine lstepB rfl rfl rfl (run_call1 cb52 (.cons (.tmp rfl) .nil) (fun w _ => clayZ0 _ _ (by omega) w)) ?_
    refine lstepB rfl rfl rfl (run_geq (.tmp rfl) .const (by first | exact decide_eq_true (by omega) | exact decide_eq_false (by omega) | exact rfl)) ?_
    refine lnil ?_
    refine xw_then ?_
    refine cw_cond_true (.tmp rfl) ?_
    refine cw_seq ?_
    refine cw_region ?_
    refine lstepB rfl rfl rfl (run_assign .const) ?_
    refine lnil ?_
    refine xw_then ?_
    refine cw_ret ?_
    refine xw_then_ret ?_
    refine xw_ret1 Try.results75 rfl (fun w hS => ⟨rfl, hS.kept⟩)
  ·
    rw [if_neg h1]
    by_cases h2 : 14 ≤ a
    ·
      rw [if_pos h2]
      refine .mk <| enter (n := 12) Try.func75 rfl rfl rfl (by repeat (first | exact Fill.nil | apply Fill.cons)) ?_
      refine cw_seq ?_
      refine cw_region ?_
      refine lstep rfl rfl rfl (run_boxN (.tmp rfl)) ?_
      intro b1 _
      refine lstepB rfl rfl rfl (run_assign .const) ?_
      refine lnil ?_
      refine xw_then ?_
      refine cw_seq ?_
      refine cw_seq ?_
      refine cw_region ?_
      refine lstepB rfl rfl rfl (run_loadN (.tmp rfl) kd92 sz92 (by repeat (first | exact List.Mem.head _ | apply List.Mem.tail)) (by repeat (first | exact Sub.done | apply Sub.take | apply Sub.skip))) ?_
      refine lstepB rfl rfl rfl (run_call1 cb52 (.cons (.tmp rfl) .nil) (fun w _ => clayZ0 _ _ (by omega) w)) ?_
      refine lstepB rfl rfl rfl (run_geq (.tmp rfl) .const (by first | exact decide_eq_true (by omega) | exact decide_eq_false (by omega) | exact rfl)) ?_
      refine lnil ?_
      refine xw_then ?_
      refine cw_cond_false (.tmp rfl) ?_
      refine cw_skip ?_
      refine xw_then ?_
      refine cw_seq ?_
      refine cw_seq ?_
      refine cw_region ?_
      refine lstepB rfl rfl rfl (run_fieldAddr (.tmp rfl) fa92_0 (by first | exact Nat.zero_add _ | exact rfl)) ?_
      refine lstepB rfl rfl rfl (run_load1 (.tmp rfl) kd3 (by repeat (first | exact List.Mem.head _ | apply List.Mem.tail)) (by exact rfl)) ?_
      refine lstepB rfl rfl rfl (run_geq (.tmp rfl) .const (by first | exact decide_eq_true (by omega) | exact decide_eq_false (by omega) | exact rfl)) ?_
      refine lnil ?_
      refine xw_then ?_
      refine cw_cond_true (.tmp rfl) ?_
      refine cw_seq ?_
      refine cw_region ?_
      refine lstepB rfl rfl rfl (run_assign .const) ?_
      refine lnil ?_
      refine xw_then ?_
      refine cw_ret ?_
      refine xw_then_ret ?_
      refine xw_ret1 Try.results75 rfl (fun w hS => ⟨rfl, hS.kept⟩)
    ·
      rw [if_neg h2]
      by_cases h3 : 12 ≤ b
      ·
        rw [if_pos h3]
        refine .mk <| enter (n := 12) Try.func75 rfl rfl rfl (by repeat (first | exact Fill.nil | apply Fill.cons)) ?_
        refine cw_seq ?_
        refine cw_region ?_
        refine lstep rfl rfl rfl (run_boxN (.tmp rfl)) ?_
        intro b1 _
        refine lstepB rfl rfl rfl (run_assign .const) ?_
        refine lnil ?_
        refine xw_then ?_
        refine cw_seq ?_
        refine cw_seq ?_
        refine cw_region ?_
        refine lstepB rfl rfl rfl (run_loadN (.tmp rfl) kd92 sz92 (by repeat (first | exact List.Mem.head _ | apply List.Mem.tail)) (by repeat (first | exact Sub.done | apply Sub.take | apply Sub.skip))) ?_
        refine lstepB rfl rfl rfl (run_call1 cb52 (.cons (.tmp rfl) .nil) (fun w _ => clayZ0 _ _ (by omega) w)) ?_
        refine lstepB rfl rfl rfl (run_geq (.tmp rfl) .const (by first | exact decide_eq_true (by omega) | exact decide_eq_false (by omega) | exact rfl)) ?_
        refine lnil ?_
        refine xw_then ?_
        refine cw_cond_false (.tmp rfl) ?_
        refine cw_skip ?_
        refine xw_then ?_
        refine cw_seq ?_
        refine cw_seq ?_
        refine cw_region ?_
        refine lstepB rfl rfl rfl (run_fieldAddr (.tmp rfl) fa92_0 (by first | exact Nat.zero_add _ | exact rfl)) ?_
        refine lstepB rfl rfl rfl (run_load1 (.tmp rfl) kd3 (by repeat (first | exact List.Mem.head _ | apply List.Mem.tail)) (by exact rfl)) ?_
        refine lstepB rfl rfl rfl (run_geq (.tmp rfl) .const (by first | exact decide_eq_true (by omega) | exact decide_eq_false (by omega) | exact rfl)) ?_
        refine lnil ?_
        refine xw_then ?_
        refine cw_cond_false (.tmp rfl) ?_
        refine cw_skip ?_
        refine xw_then ?_
        refine cw_seq ?_
        refine cw_seq ?_
        refine cw_region ?_
        refine lstepB rfl rfl rfl (run_fieldAddr (.tmp rfl) fa92_1 (by first | exact Nat.zero_add _ | exact rfl)) ?_
        refine lstepB rfl rfl rfl (run_load1 (.tmp rfl) kd3 (by repeat (first | exact List.Mem.head _ | apply List.Mem.tail)) (by exact rfl)) ?_
        refine lstepB rfl rfl rfl (run_geq (.tmp rfl) .const (by first | exact decide_eq_true (by omega) | exact decide_eq_false (by omega) | exact rfl)) ?_
        refine lnil ?_
        refine xw_then ?_
        refine cw_cond_true (.tmp rfl) ?_
        refine cw_seq ?_
        refine cw_region ?_
        refine lstepB rfl rfl rfl (run_assign .const) ?_
        refine lnil ?_
        refine xw_then ?_
        refine cw_ret ?_
        refine xw_then_ret ?_
        refine xw_ret1 Try.results75 rfl (fun w hS => ⟨rfl, hS.kept⟩)
      ·
        rw [if_neg h3]
        refine .mk <| enter (n := 12) Try.func75 rfl rfl rfl (by repeat (first | exact Fill.nil | apply Fill.cons)) ?_
        refine cw_seq ?_
        refine cw_region ?_
        refine lstep rfl rfl rfl (run_boxN (.tmp rfl)) ?_
        intro b1 _
        refine lstepB rfl rfl rfl (run_assign .const) ?_
        refine lnil ?_
        refine xw_then ?_
        refine cw_seq ?_
        refine cw_seq ?_
        refine cw_region ?_
        refine lstepB rfl rfl rfl (run_loadN (.tmp rfl) kd92 sz92 (by repeat (first | exact List.Mem.head _ | apply List.Mem.tail)) (by repeat (first | exact Sub.done | apply Sub.take | apply Sub.skip))) ?_
        refine lstepB rfl rfl rfl (run_call1 cb52 (.cons (.tmp rfl) .nil) (fun w _ => clayZ0 _ _ (by omega) w)) ?_
        refine lstepB rfl rfl rfl (run_geq (.tmp rfl) .const (by first | exact decide_eq_true (by omega) | exact decide_eq_false (by omega) | exact rfl)) ?_
        refine lnil ?_
        refine xw_then ?_
        refine cw_cond_false (.tmp rfl) ?_
        refine cw_skip ?_
        refine xw_then ?_
        refine cw_seq ?_
        refine cw_seq ?_
        refine cw_region ?_
        refine lstepB rfl rfl rfl (run_fieldAddr (.tmp rfl) fa92_0 (by first | exact Nat.zero_add _ | exact rfl)) ?_
        refine lstepB rfl rfl rfl (run_load1 (.tmp rfl) kd3 (by repeat (first | exact List.Mem.head _ | apply List.Mem.tail)) (by exact rfl)) ?_
        refine lstepB rfl rfl rfl (run_geq (.tmp rfl) .const (by first | exact decide_eq_true (by omega) | exact decide_eq_false (by omega) | exact rfl)) ?_
        refine lnil ?_
        refine xw_then ?_
        refine cw_cond_false (.tmp rfl) ?_
        refine cw_skip ?_
        refine xw_then ?_
        refine cw_seq ?_
        refine cw_seq ?_
        refine cw_region ?_
        refine lstepB rfl rfl rfl (run_fieldAddr (.tmp rfl) fa92_1 (by first | exact Nat.zero_add _ | exact rfl)) ?_
        refine lstepB rfl rfl rfl (run_load1 (.tmp rfl) kd3 (by repeat (first | exact List.Mem.head _ | apply List.Mem.tail)) (by exact rfl)) ?_
        refine lstepB rfl rfl rfl (run_geq (.tmp rfl) .const (by first | exact decide_eq_true (by omega) | exact decide_eq_false (by omega) | exact rfl)) ?_
        refine lnil ?_
        refine xw_then ?_
        refine cw_cond_false (.tmp rfl) ?_
        refine cw_skip ?_
        refine xw_then ?_
        refine cw_seq ?_
        refine cw_region ?_
        refine lstepB rfl rfl rfl (run_assign .const) ?_
        refine lnil ?_
        refine xw_then ?_
        refine cw_ret ?_
        refine xw_ret1 Try.results75 rfl (fun w hS => ⟨rfl, hS.kept⟩)
theorem ofZK (s : S3) (h : okS s) (w : World) : Gives Try.prog 75 [.agg (sC s).toArray] w (.int .i64 ((classN s.a s.b s.c : Nat) : Int)) := ofZ0 s.a s.b s.c (by have := h.small; omega) (by have := h.small; omega) w
set_option maxRecDepth 100000 in
set_option maxHeartbeats 4000000 in
theorem refClassesK (g : GroundD) (pa : Option Addr) (pc : Nat) (vg : VG g) (hso : soilsOk g = true) (k : Nat) (hk : k < placesN g) (w : World) (hp : PitsAt w pa g.pits) : Gives Try.prog 57 [.agg [.int .i64 g.long, .int .i64 g.rise, .int .i64 g.change, .slice pa g.pits.length pc].toArray, .int .i64 (k : Int)] w (.int .i64 ((classesM ((soilsL g).getD k noMix) : Nat) : Int)) := by
  have hgm : g.pits.length ≤ 1000000 := by have := vg.v.len; omega
  have hms : ∀ s, s ∈ mixesAt g k ↔ sum20 s ∧ InM ((soilsL g).getD k noMix) s := fun s => mem_soils vg hso hk
  have hmok : ∀ s, s ∈ mixesAt g k → okS s := fun s h => by
    obtain ⟨T, hT, e⟩ := (mem_mixesAt vg hk).1 h
    rw [← e]; exact (hT k hk).1
  have hmn : mixesAt g k ≠ [] := by
    obtain ⟨s, h1, h2, _⟩ := (soils_tight hso hk).alo
    exact List.ne_nil_of_mem ((hms s).2 ⟨h1, h2⟩)
  refine .mk <| enter (n := 32) Try.func57 rfl rfl rfl (by repeat (first | exact Fill.nil | apply Fill.cons)) ?_
  refine cw_seq ?_
  refine cw_region ?_
  refine lstep rfl rfl rfl (run_boxN (.tmp rfl)) ?_
  intro b2 _
  refine lstepB rfl rfl rfl (run_assign .const) ?_
  refine lnil ?_
  refine xw_then ?_
  refine cw_seq ?_
  refine cw_region ?_
  refine lstepB rfl rfl rfl (run_loadN (.tmp rfl) kd24 sz24 (by repeat (first | exact List.Mem.head _ | apply List.Mem.tail)) (by repeat (first | exact Sub.done | apply Sub.take | apply Sub.skip))) ?_
  refine lstepB rfl rfl rfl (run_move (.tmp rfl)) ?_
  refine lstep rfl rfl rfl (LR.runs (R := []) (A := []) (lr_gives cb51 (.cons (.tmp rfl) (.cons (.tmp rfl) .nil)) (fun w2 hS => mixesAtK g pa pc vg k hk w2 (hp.kept hS.kept))) (by repeat (first | exact Pick.nil | (apply Pick.cons; focus (repeat (first | exact Del.here | apply Del.there))))) (by repeat (first | exact Dels.nil | (apply Dels.cons; focus (repeat (first | exact Del.here | apply Del.there)))))) ?_
  intro q hq
  cases q
  case none =>
    exact absurd hq hmn
  case some q =>
    obtain ⟨gM, cM, rM⟩ := q
    dsimp only at hq ⊢
    obtain ⟨hM1, hM⟩ := hq
    have hcl := clsZ_classes hms
    have hml : (mixesAt g k).length ≤ cM := hM.1
    have hmx := hM.2.1
    unfold maxLen at hmx
    obtain ⟨M, hMe⟩ : ∃ M, mixesAt g k = M := ⟨_, rfl⟩
    rw [hMe] at hM hM1 hcl hms hmok hml ⊢
    rw [← hcl]
    refine lstepB rfl rfl rfl (run_assign (.tmp rfl)) ?_
    refine lnil ?_
    refine xw_then ?_
    refine cw_seq ?_
    refine cw_region ?_
    refine lstepB rfl rfl rfl (run_assign .const) ?_
    refine lnil ?_
    refine xw_then ?_
    refine cw_seq ?_
    refine cw_seq ?_
    refine cw_region ?_
    refine lstepB rfl rfl rfl (run_assign .const) ?_
    refine lnil ?_
    refine xw_then ?_
    refine cw_block ?_
    refine cw_loop (S := Nat) (fun i => [(7, .int .i64 ((i : Nat) : Int)), (6, .int .i64 ((clsZ M i : Nat) : Int))]) [(5, _)] (fun i => [(gM, Obj.cells rM.toArray 92 (0, 0))]) (fun i => i ≤ M.length) (fun i => M.length - i) 0 (Nat.zero_le _) (by repeat (first | exact Less.nil | refine Less.cons rfl ?_)) (by repeat (first | exact Pick.nil | (apply Pick.cons; focus (repeat (first | exact Del.here | apply Del.there))))) ?_
    intro i hi
    refine cw_seq ?_
    refine cw_seq ?_
    refine cw_region ?_
    refine lstepB rfl rfl rfl (run_move (.tmp rfl)) ?_
    refine lstepB rfl rfl rfl (run_move (.tmp rfl)) ?_
    refine lstepB rfl rfl rfl (run_len (.tmp rfl) sl89) ?_
    refine lstepB rfl rfl rfl (run_lss (.tmp rfl) (.tmp rfl) rfl) ?_
    refine lnil ?_
    refine xw_then ?_
    refine cw_cond_p (.tmp rfl) (fun hl => ?_) (fun hl => ?_)
    ·
      obtain ⟨s, hs⟩ : ∃ s, M[i]? = some s := ⟨_, List.getElem?_eq_getElem (by omega)⟩
      have hso := hmok s (List.mem_of_getElem? hs)
      have hsc := clsZ_succ hs
      have hlt := clsZ_lt M i (by omega)
      have hcn := classN_4 s.a s.b s.c
      obtain ⟨q1, q2⟩ := has16 ⟨_, hlt⟩ ⟨_, hcn⟩
      dsimp only at q1 q2
      have hpw : 2 ^ classN s.a s.b s.c ≤ 2 ^ 30 := Nat.pow_le_pow_right (by omega) (by omega)
      have hhas : ∀ w, Gives Try.prog 89 [.int .i64 ((clsZ M i : Nat) : Int), .int .i64 ((classN s.a s.b s.c : Nat) : Int)] w (.bool ((clsZ M i).testBit (classN s.a s.b s.c))) := fun w => hasZK _ _ (by omega) (by omega) w
      refine cw_skip ?_
      refine xw_then ?_
      refine cw_seq ?_
      refine cw_block ?_
      refine cw_seq ?_
      refine cw_region ?_
      refine lstepB rfl rfl rfl (run_move (.tmp rfl)) ?_
      refine lstepB rfl rfl rfl (run_move (.tmp rfl)) ?_
      refine lstepB rfl rfl rfl (run_indexAddr (i := i) (off' := i * 2) (.tmp rfl) (.tmp rfl) el89 (by omega) (Nat.zero_add _)) ?_
      refine lstepB rfl rfl rfl (run_loadN_own (l := sC s) (.tmp rfl) kd92 sz92 (by repeat (first | exact List.Mem.head _ | apply List.Mem.tail)) rfl (fun j' v hj' => hM.get (ssC_at _ i s hs j' v hj'))) ?_
      refine lstepB rfl rfl rfl (run_call1 cb75 (.cons (.tmp rfl) .nil) (fun w _ => ofZK s hso w)) ?_
      cases hb : (clsZ M i).testBit (classN s.a s.b s.c)
      ·
        refine lstepB rfl rfl rfl (run_assign (.tmp rfl)) ?_
        refine lnil ?_
        refine xw_then ?_
        refine cw_seq ?_
        refine cw_region ?_
        refine lstepB rfl rfl rfl (run_move (.tmp rfl)) ?_
        refine lstepB rfl rfl rfl (run_move (.tmp rfl)) ?_
        refine lstepB rfl rfl rfl (run_call1 cb89 (.cons (.tmp rfl) (.cons (.tmp rfl) .nil)) (fun w _ => (hhas w).as (congrArg Value.bool hb))) ?_
        refine lstepB rfl rfl rfl (run_not (.tmp rfl) (by first | exact Bool.not_true | exact Bool.not_false | exact rfl)) ?_
        refine lnil ?_
        refine xw_then ?_
        refine cw_cond_true (.tmp rfl) ?_
        have hadd := q2 hb
        refine cw_region ?_
        refine lstepB rfl rfl rfl (run_move (.tmp rfl)) ?_
        refine lstepB rfl rfl rfl (run_move (.tmp rfl)) ?_
        refine lstepB rfl rfl rfl (run_call1 cb64 (.cons (.tmp rfl) .nil) (fun w _ => powerZK _ (by omega) w)) ?_
        refine lstepB rfl rfl rfl (run_add (c := ((clsZ M (i + 1) : Nat) : Int)) (.tmp rfl) (.tmp rfl) (by rw [IntWalk.i64_in _ (by omega), hsc, ← hadd]; omega)) ?_
        refine lstepB rfl rfl rfl (run_assign (.tmp rfl)) ?_
        refine lnil ?_
        refine xw_in ?_
        refine xw_then ?_
        refine cw_region ?_
        refine lstepB rfl rfl rfl (run_move (.tmp rfl)) ?_
        refine lstepB rfl rfl rfl (run_add (.tmp rfl) .const (by first | exact IntWalk.i64_in _ (by omega) | exact rfl)) ?_
        refine lstepB rfl rfl rfl (run_assign (.tmp rfl)) ?_
        refine lnil ?_
        exact xw_round (i + 1) (by show i + 1 ≤ _; omega) (by show M.length - (i + 1) < M.length - i; omega) (by repeat (first | exact Less.nil | refine Less.cons rfl ?_)) (by repeat (first | exact Pick.nil | (apply Pick.cons; focus (repeat (first | exact Del.here | apply Del.there)))))
      ·
        refine lstepB rfl rfl rfl (run_assign (.tmp rfl)) ?_
        refine lnil ?_
        refine xw_then ?_
        refine cw_seq ?_
        refine cw_region ?_
        refine lstepB rfl rfl rfl (run_move (.tmp rfl)) ?_
        refine lstepB rfl rfl rfl (run_move (.tmp rfl)) ?_
        refine lstepB rfl rfl rfl (run_call1 cb89 (.cons (.tmp rfl) (.cons (.tmp rfl) .nil)) (fun w _ => (hhas w).as (congrArg Value.bool hb))) ?_
        refine lstepB rfl rfl rfl (run_not (.tmp rfl) (by first | exact Bool.not_true | exact Bool.not_false | exact rfl)) ?_
        refine lnil ?_
        refine xw_then ?_
        refine cw_cond_false (.tmp rfl) ?_
        have hsame : clsZ M (i + 1) = clsZ M i := by rw [hsc]; exact q1 hb
        rw [← hsame]
        refine cw_skip ?_
        refine xw_in ?_
        refine xw_then ?_
        refine cw_region ?_
        refine lstepB rfl rfl rfl (run_move (.tmp rfl)) ?_
        refine lstepB rfl rfl rfl (run_add (.tmp rfl) .const (by first | exact IntWalk.i64_in _ (by omega) | exact rfl)) ?_
        refine lstepB rfl rfl rfl (run_assign (.tmp rfl)) ?_
        refine lnil ?_
        exact xw_round (i + 1) (by show i + 1 ≤ _; omega) (by show M.length - (i + 1) < M.length - i; omega) (by repeat (first | exact Less.nil | refine Less.cons rfl ?_)) (by repeat (first | exact Pick.nil | (apply Pick.cons; focus (repeat (first | exact Del.here | apply Del.there)))))
    ·
      obtain rfl : i = M.length := by omega
      refine cw_exit ?_
      refine xw_then_exit ?_
      refine xw_then_exit ?_
      refine xw_in_exit ?_
      refine xw_then ?_
      refine cw_seq ?_
      refine cw_region ?_
      refine lstepB rfl rfl rfl (run_move (.tmp rfl)) ?_
      refine lstepB rfl rfl rfl (run_assign (.tmp rfl)) ?_
      refine lnil ?_
      refine xw_then ?_
      refine cw_ret ?_
      refine xw_ret1 Try.results57 rfl (fun w hS => ⟨rfl, hS.kept⟩)
set_option maxRecDepth 100000 in
set_option maxHeartbeats 4000000 in
theorem refClassK (g : GroundD) (k : Int) (pa : Option Addr) (pc : Nat) (hgm : g.pits.length ≤ 1000000) (w : World) (hp : PitsAt w pa g.pits) : Gives Try.prog 18 [.agg [.int .i64 g.long, .int .i64 g.rise, .int .i64 g.change, .slice pa g.pits.length pc].toArray, .int .i64 k] w (.tuple #[.int .i64 ((classV g k : Nat) : Int), .int .i64 (errN (hardE g [k]))]) := by
  refine .mk <| enter (n := 18) Try.func18 rfl rfl rfl (by repeat (first | exact Fill.nil | apply Fill.cons)) ?_
  refine cw_seq ?_
  refine cw_region ?_
  refine lstep rfl rfl rfl (run_boxN (.tmp rfl)) ?_
  intro b2 _
  refine lstepB rfl rfl rfl (run_assign .const) ?_
  refine lstepB rfl rfl rfl (run_assign .const) ?_
  refine lnil ?_
  refine xw_then ?_
  refine cw_seq ?_
  have hck := chk_one g k
  refine cw_chain2 (σ := [0, 1, 2, 3, 4, 5]) [⟨0, [0], [], [], 0⟩, ⟨0, [0], [], [], 0⟩, ⟨0, [], [], [], 0⟩, ⟨0, [], [], [], 6⟩, ⟨0, [], [], [], 15⟩, ⟨0, [], [], [], 31⟩] [(0, _)] (by kernel_rfl) (by kernel_rfl) rfl ?_
  refine .det (B := []) rfl rfl (.inl rfl) (.cons rfl .nil) .nil rfl (RunB.lr (run_loadN (.tmp rfl) kd24 sz24 (by repeat (first | exact List.Mem.head _ | apply List.Mem.tail)) (by repeat (first | exact Sub.done | apply Sub.take | apply Sub.skip)))) ?_
  refine .det (B := []) rfl rfl (.inl rfl) (.cons rfl .nil) .nil rfl (RunB.lr (run_loadN (.tmp rfl) kd24 sz24 (by repeat (first | exact List.Mem.head _ | apply List.Mem.tail)) (by repeat (first | exact Sub.done | apply Sub.take | apply Sub.skip)))) ?_
  refine .det (B := []) rfl rfl (.inl rfl) .nil .nil rfl (RunB.lr (run_move (.tmp rfl))) ?_
  refine .det (B := []) rfl rfl (.inl rfl) .nil .nil rfl (RunB.lr (run_call1 cb47 (.cons (.tmp rfl) (.cons (.tmp rfl) .nil)) (fun w _ => atZK g _ pa pc w))) ?_
  refine .det (B := []) rfl rfl (.inl rfl) .nil .nil rfl (RunB.lr (run_call1 cb46 (.cons (.tmp rfl) (.cons (.tmp rfl) .nil)) (fun w hS => (checkZK g _ pa pc hgm w (hp.kept hS.kept)).as (congrArg (Value.int .i64) hck)))) ?_
  refine .det (B := []) rfl rfl (.inl rfl) .nil .nil rfl (RunB.lr (run_assign (.tmp rfl))) ?_
  refine chain_nil (ts := [0]) (.cons rfl .nil) (by decide) ?_
  cases he : hardE g [k]
  case none =>
    have hv := hardE_valid he
    have vg := VG.of hv
    obtain ⟨hk0, hlk⟩ := hardE_inv hv he
    have hso := lookOk_soils hlk
    obtain ⟨k0, rfl⟩ : ∃ n : Nat, k = (n : Int) := ⟨k.toNat, by omega⟩
    have hk : k0 < placesN g := by unfold placesN; omega
    rw [show errN none = 0 from rfl]
    have hS0 : classV g (k0 : Int) = classesM ((soilsL g).getD k0 noMix) := by unfold classV; rw [if_pos he]; rfl
    rw [hS0]
    refine xw_then ?_
    refine cw_seq ?_
    refine cw_seq ?_
    refine cw_region ?_
    refine lstepB rfl rfl rfl (run_move (.tmp rfl)) ?_
    refine lstepB rfl rfl rfl (run_neq (.tmp rfl) .const (by first | exact decide_eq_true (by omega) | exact decide_eq_false (by omega) | exact rfl)) ?_
    refine lnil ?_
    refine xw_then ?_
    refine cw_cond_false (.tmp rfl) ?_
    refine cw_skip ?_
    refine xw_then ?_
    refine cw_seq ?_
    refine cw_region ?_
    refine lstepB rfl rfl rfl (run_loadN (.tmp rfl) kd24 sz24 (by repeat (first | exact List.Mem.head _ | apply List.Mem.tail)) (by repeat (first | exact Sub.done | apply Sub.take | apply Sub.skip))) ?_
    refine lstepB rfl rfl rfl (run_move (.tmp rfl)) ?_
    refine lstepB rfl rfl rfl (run_call1 cb57 (.cons (.tmp rfl) (.cons (.tmp rfl) .nil)) (fun w hS => refClassesK g pa pc vg hso k0 hk w (hp.kept hS.kept))) ?_
    refine lstepB rfl rfl rfl (run_assign (.tmp rfl)) ?_
    refine lstepB rfl rfl rfl (run_assign .const) ?_
    refine lnil ?_
    refine xw_then ?_
    refine cw_ret ?_
    refine xw_ret2 Try.results18 rfl rfl (fun w hS => ⟨rfl, hS.kept⟩)
  case some val =>
    have hne := hardE_ne he
    have hS0 : classV g k = 0 := by unfold classV; rw [if_neg (by rw [he]; simp)]
    rw [hS0, show errN (some val) = val from rfl]
    refine xw_then ?_
    refine cw_seq ?_
    refine cw_seq ?_
    refine cw_region ?_
    refine lstepB rfl rfl rfl (run_move (.tmp rfl)) ?_
    refine lstepB rfl rfl rfl (run_neq (p := true) (.tmp rfl) .const (decide_eq_true hne)) ?_
    refine lnil ?_
    refine xw_then ?_
    refine cw_cond_true (.tmp rfl) ?_
    refine cw_seq ?_
    refine cw_region ?_
    refine lstepB rfl rfl rfl (run_move (.tmp rfl)) ?_
    refine lstepB rfl rfl rfl (run_assign .const) ?_
    refine lstepB rfl rfl rfl (run_assign (.tmp rfl)) ?_
    refine lnil ?_
    refine xw_then ?_
    refine cw_ret ?_
    refine xw_then_ret ?_
    refine xw_ret2 Try.results18 rfl rfl (fun w hS => ⟨rfl, hS.kept⟩)
set_option maxRecDepth 100000 in
set_option maxHeartbeats 4000000 in
theorem refPartsK (g : GroundD) (k : Int) (pa : Option Addr) (pc : Nat) (hgm : g.pits.length ≤ 1000000) (w : World) (hp : PitsAt w pa g.pits) : Gives Try.prog 16 [.agg [.int .i64 g.long, .int .i64 g.rise, .int .i64 g.change, .slice pa g.pits.length pc].toArray, .int .i64 k] w (.tuple #[.agg [.int .i64 (partsM g k).sand.lo, .int .i64 (partsM g k).sand.hi].toArray, .agg [.int .i64 (partsM g k).silt.lo, .int .i64 (partsM g k).silt.hi].toArray, .agg [.int .i64 (partsM g k).clay.lo, .int .i64 (partsM g k).clay.hi].toArray, .int .i64 (errN (hardE g [k]))]) := by
  refine .mk <| enter (n := 85) Try.func16 rfl rfl rfl (by repeat (first | exact Fill.nil | apply Fill.cons)) ?_
  refine cw_seq ?_
  refine cw_region ?_
  refine lstep rfl rfl rfl (run_boxN (.tmp rfl)) ?_
  intro b2 _
  refine lstep rfl rfl rfl (run_alloc zr28) ?_
  intro b4 _
  refine lstep rfl rfl rfl (run_alloc zr28) ?_
  intro b5 _
  refine lstep rfl rfl rfl (run_alloc zr28) ?_
  intro b6 _
  refine lstepB rfl rfl rfl (run_assign .const) ?_
  refine lnil ?_
  refine xw_then ?_
  refine cw_seq ?_
  have hck := chk_one g k
  refine cw_chain2 (σ := [0, 1, 2, 3, 4, 5]) [⟨0, [3], [], [], 0⟩, ⟨0, [3], [], [], 0⟩, ⟨0, [], [], [], 0⟩, ⟨0, [], [], [], 6⟩, ⟨0, [], [], [], 15⟩, ⟨0, [], [], [], 31⟩] [(0, _), (1, _), (2, _), (3, _)] (by kernel_rfl) (by kernel_rfl) rfl ?_
  refine .det (B := []) rfl rfl (.inl rfl) (.cons rfl .nil) .nil rfl (RunB.lr (run_loadN (.tmp rfl) kd24 sz24 (by repeat (first | exact List.Mem.head _ | apply List.Mem.tail)) (by repeat (first | exact Sub.done | apply Sub.take | apply Sub.skip)))) ?_
  refine .det (B := []) rfl rfl (.inl rfl) (.cons rfl .nil) .nil rfl (RunB.lr (run_loadN (.tmp rfl) kd24 sz24 (by repeat (first | exact List.Mem.head _ | apply List.Mem.tail)) (by repeat (first | exact Sub.done | apply Sub.take | apply Sub.skip)))) ?_
  refine .det (B := []) rfl rfl (.inl rfl) .nil .nil rfl (RunB.lr (run_move (.tmp rfl))) ?_
  refine .det (B := []) rfl rfl (.inl rfl) .nil .nil rfl (RunB.lr (run_call1 cb47 (.cons (.tmp rfl) (.cons (.tmp rfl) .nil)) (fun w _ => atZK g _ pa pc w))) ?_
  refine .det (B := []) rfl rfl (.inl rfl) .nil .nil rfl (RunB.lr (run_call1 cb46 (.cons (.tmp rfl) (.cons (.tmp rfl) .nil)) (fun w hS => (checkZK g _ pa pc hgm w (hp.kept hS.kept)).as (congrArg (Value.int .i64) hck)))) ?_
  refine .det (B := []) rfl rfl (.inl rfl) .nil .nil rfl (RunB.lr (run_assign (.tmp rfl))) ?_
  refine chain_nil (ts := [0, 1, 2, 3]) (.cons rfl (.cons rfl (.cons rfl (.cons rfl .nil)))) (by decide) ?_
  cases he : hardE g [k]
  case none =>
    have hv := hardE_valid he
    have vg := VG.of hv
    obtain ⟨hk0, hlk⟩ := hardE_inv hv he
    have hso := lookOk_soils hlk
    obtain ⟨k0, rfl⟩ : ∃ n : Nat, k = (n : Int) := ⟨k.toNat, by omega⟩
    have hk : k0 < placesN g := by unfold placesN; omega
    rw [show errN none = 0 from rfl]
    have hS0 : partsM g (k0 : Int) = (soilsL g).getD k0 noMix := by unfold partsM; rw [if_pos he]; rfl
    rw [hS0]
    have hms : ∀ s, s ∈ mixesAt g k0 ↔ sum20 s ∧ InM ((soilsL g).getD k0 noMix) s := fun s => mem_soils vg hso hk
    have hmok : ∀ s, s ∈ mixesAt g k0 → okS s := fun s h => by
      obtain ⟨T, hT, e⟩ := (mem_mixesAt vg hk).1 h
      rw [← e]; exact (hT k0 hk).1
    have hmn : mixesAt g k0 ≠ [] := by
      obtain ⟨s, h1, h2, _⟩ := (soils_tight hso hk).alo
      exact List.ne_nil_of_mem ((hms s).2 ⟨h1, h2⟩)
    have htight := soils_tight hso hk
    refine xw_then ?_
    refine cw_seq ?_
    refine cw_seq ?_
    refine cw_region ?_
    refine lstepB rfl rfl rfl (run_move (.tmp rfl)) ?_
    refine lstepB rfl rfl rfl (run_neq (.tmp rfl) .const (by first | exact decide_eq_true (by omega) | exact decide_eq_false (by omega) | exact rfl)) ?_
    refine lnil ?_
    refine xw_then ?_
    refine cw_cond_false (.tmp rfl) ?_
    refine cw_skip ?_
    refine xw_then ?_
    refine cw_seq ?_
    refine cw_region ?_
    refine lstepB rfl rfl rfl (run_loadN (.tmp rfl) kd24 sz24 (by repeat (first | exact List.Mem.head _ | apply List.Mem.tail)) (by repeat (first | exact Sub.done | apply Sub.take | apply Sub.skip))) ?_
    refine lstepB rfl rfl rfl (run_move (.tmp rfl)) ?_
    refine lstep rfl rfl rfl (LR.runs (R := []) (A := []) (lr_gives cb51 (.cons (.tmp rfl) (.cons (.tmp rfl) .nil)) (fun w2 hS => mixesAtK g pa pc vg k0 hk w2 (hp.kept hS.kept))) (by repeat (first | exact Pick.nil | (apply Pick.cons; focus (repeat (first | exact Del.here | apply Del.there))))) (by repeat (first | exact Dels.nil | (apply Dels.cons; focus (repeat (first | exact Del.here | apply Del.there)))))) ?_
    intro q hq
    cases q
    case none =>
      exact absurd hq hmn
    case some q =>
      obtain ⟨gM, cM, rM⟩ := q
      dsimp only at hq ⊢
      obtain ⟨hM1, hM⟩ := hq
      have hml := hM.1
      have hmx := hM.2.1
      unfold maxLen at hmx
      obtain ⟨M, hMe⟩ : ∃ M, mixesAt g k0 = M := ⟨_, rfl⟩
      rw [hMe] at hM hM1 hms hmok hml ⊢
      obtain ⟨m, hm0⟩ : ∃ s, M[0]? = some s := ⟨_, List.getElem?_eq_getElem (by omega)⟩
      have hmm := List.mem_of_getElem? hm0
      have hmo := hmok m hmm
      refine lstepB rfl rfl rfl (run_assign (.tmp rfl)) ?_
      refine lnil ?_
      refine xw_then ?_
      refine cw_seq ?_
      refine cw_chain2 (σ := [0, 1, 2, 3, 4, 5, 6, 7, 8, 9, 10, 11, 12, 13, 14, 15, 16, 17, 18, 19, 20, 21, 22, 23, 24, 25, 26, 27, 28, 29, 30, 31, 32]) [⟨0, [], [], [], 0⟩, ⟨0, [], [], [], 1⟩, ⟨0, [], [], [], 3⟩, ⟨0, [0], [], [], 7⟩, ⟨0, [], [], [], 0⟩, ⟨0, [], [], [], 16⟩, ⟨0, [], [], [], 48⟩, ⟨0, [0], [], [], 112⟩, ⟨0, [], [], [], 255⟩, ⟨0, [], [], [], 0⟩, ⟨0, [], [], [], 512⟩, ⟨0, [], [], [], 1536⟩, ⟨0, [0], [], [], 3584⟩, ⟨0, [], [], [], 0⟩, ⟨0, [], [], [], 8192⟩, ⟨0, [], [], [], 24576⟩, ⟨0, [0], [], [], 57344⟩, ⟨0, [], [], [], 130560⟩, ⟨0, [], [], [], 0⟩, ⟨0, [], [], [], 262144⟩, ⟨0, [0], [], [], 786432⟩, ⟨0, [], [], [], 1835008⟩, ⟨0, [], [], [], 0⟩, ⟨0, [], [], [], 4194304⟩, ⟨0, [0], [], [], 12582912⟩, ⟨0, [], [], [], 33292288⟩, ⟨0, [], [], [], 66846720⟩, ⟨2, [], [], [5], 0⟩, ⟨2, [], [], [6], 0⟩, ⟨2, [], [], [7], 0⟩, ⟨0, [], [5], [5], 1006371327⟩, ⟨0, [], [6], [6], 2080374783⟩, ⟨0, [], [7], [7], 4294967295⟩] [(0, _), (1, _), (2, _), (3, _), (4, _)] (by kernel_rfl) (by kernel_rfl) rfl ?_
      refine .det (B := []) rfl rfl (.inl rfl) .nil .nil rfl (RunB.lr (run_move (.tmp rfl))) ?_
      refine .det (B := []) rfl rfl (.inl rfl) .nil .nil rfl (RunB.lr (run_indexAddr (i := 0) (off' := 0 * 2) (.tmp rfl) .const el89 (by omega) (Nat.zero_add _))) ?_
      refine .det (B := []) rfl rfl (.inl rfl) .nil .nil rfl (RunB.lr (run_fieldAddr (.tmp rfl) fa92_0 (by first | exact Nat.zero_add _ | exact rfl))) ?_
      refine .det (B := []) rfl rfl (.inl rfl) (.cons rfl .nil) .nil rfl (RunB.lr (run_load1 (v := .int .i64 m.a) (.tmp rfl) kd3 (by repeat (first | exact List.Mem.head _ | apply List.Mem.tail)) (hM.get (ssC_at M 0 m hm0 0 _ rfl)))) ?_
      refine .det (B := []) rfl rfl (.inl rfl) .nil .nil rfl (RunB.lr (run_move (.tmp rfl))) ?_
      refine .det (B := []) rfl rfl (.inl rfl) .nil .nil rfl (RunB.lr (run_indexAddr (i := 0) (off' := 0 * 2) (.tmp rfl) .const el89 (by omega) (Nat.zero_add _))) ?_
      refine .det (B := []) rfl rfl (.inl rfl) .nil .nil rfl (RunB.lr (run_fieldAddr (.tmp rfl) fa92_0 (by first | exact Nat.zero_add _ | exact rfl))) ?_
      refine .det (B := []) rfl rfl (.inl rfl) (.cons rfl .nil) .nil rfl (RunB.lr (run_load1 (v := .int .i64 m.a) (.tmp rfl) kd3 (by repeat (first | exact List.Mem.head _ | apply List.Mem.tail)) (hM.get (ssC_at M 0 m hm0 0 _ rfl)))) ?_
      refine .det (B := []) rfl rfl (.inl rfl) .nil .nil rfl (RunB.lr (run_build_at (.cons (.tmp rfl) (.cons (.tmp rfl) .nil)) (fun w => bd28_0_1 w))) ?_
      refine .det (B := []) rfl rfl (.inl rfl) .nil .nil rfl (RunB.lr (run_move (.tmp rfl))) ?_
      refine .det (B := []) rfl rfl (.inl rfl) .nil .nil rfl (RunB.lr (run_indexAddr (i := 0) (off' := 0 * 2) (.tmp rfl) .const el89 (by omega) (Nat.zero_add _))) ?_
      refine .det (B := []) rfl rfl (.inl rfl) .nil .nil rfl (RunB.lr (run_fieldAddr (.tmp rfl) fa92_1 (by first | exact Nat.zero_add _ | exact rfl))) ?_
      refine .det (B := []) rfl rfl (.inl rfl) (.cons rfl .nil) .nil rfl (RunB.lr (run_load1 (v := .int .i64 m.b) (.tmp rfl) kd3 (by repeat (first | exact List.Mem.head _ | apply List.Mem.tail)) (hM.get (ssC_at M 0 m hm0 1 _ rfl)))) ?_
      refine .det (B := []) rfl rfl (.inl rfl) .nil .nil rfl (RunB.lr (run_move (.tmp rfl))) ?_
      refine .det (B := []) rfl rfl (.inl rfl) .nil .nil rfl (RunB.lr (run_indexAddr (i := 0) (off' := 0 * 2) (.tmp rfl) .const el89 (by omega) (Nat.zero_add _))) ?_
      refine .det (B := []) rfl rfl (.inl rfl) .nil .nil rfl (RunB.lr (run_fieldAddr (.tmp rfl) fa92_1 (by first | exact Nat.zero_add _ | exact rfl))) ?_
      refine .det (B := []) rfl rfl (.inl rfl) (.cons rfl .nil) .nil rfl (RunB.lr (run_load1 (v := .int .i64 m.b) (.tmp rfl) kd3 (by repeat (first | exact List.Mem.head _ | apply List.Mem.tail)) (hM.get (ssC_at M 0 m hm0 1 _ rfl)))) ?_
      refine .det (B := []) rfl rfl (.inl rfl) .nil .nil rfl (RunB.lr (run_build_at (.cons (.tmp rfl) (.cons (.tmp rfl) .nil)) (fun w => bd28_0_1 w))) ?_
      refine .det (B := []) rfl rfl (.inl rfl) .nil .nil rfl (RunB.lr (run_move (.tmp rfl))) ?_
      refine .det (B := []) rfl rfl (.inl rfl) .nil .nil rfl (RunB.lr (run_indexAddr (i := 0) (off' := 0 * 2) (.tmp rfl) .const el89 (by omega) (Nat.zero_add _))) ?_
      refine .det (B := []) rfl rfl (.inl rfl) (.cons rfl .nil) .nil rfl (RunB.lr (run_loadN_own (l := sC m) (.tmp rfl) kd92 sz92 (by repeat (first | exact List.Mem.head _ | apply List.Mem.tail)) rfl (fun j' v hj' => hM.get (ssC_at _ 0 m hm0 j' v hj')))) ?_
      refine .det (B := []) rfl rfl (.inl rfl) .nil .nil rfl (RunB.lr (run_call1 cb52 (.cons (.tmp rfl) .nil) (fun w _ => clayZK m hmo w))) ?_
      refine .det (B := []) rfl rfl (.inl rfl) .nil .nil rfl (RunB.lr (run_move (.tmp rfl))) ?_
      refine .det (B := []) rfl rfl (.inl rfl) .nil .nil rfl (RunB.lr (run_indexAddr (i := 0) (off' := 0 * 2) (.tmp rfl) .const el89 (by omega) (Nat.zero_add _))) ?_
      refine .det (B := []) rfl rfl (.inl rfl) (.cons rfl .nil) .nil rfl (RunB.lr (run_loadN_own (l := sC m) (.tmp rfl) kd92 sz92 (by repeat (first | exact List.Mem.head _ | apply List.Mem.tail)) rfl (fun j' v hj' => hM.get (ssC_at _ 0 m hm0 j' v hj')))) ?_
      refine .det (B := []) rfl rfl (.inl rfl) .nil .nil rfl (RunB.lr (run_call1 cb52 (.cons (.tmp rfl) .nil) (fun w _ => clayZK m hmo w))) ?_
      refine .det (B := []) rfl rfl (.inl rfl) .nil .nil rfl (RunB.lr (run_build_at (.cons (.tmp rfl) (.cons (.tmp rfl) .nil)) (fun w => bd28_0_1 w))) ?_
      refine .flo rfl rfl rfl (.alloc rfl zr28) trivial rfl rfl rfl ?_
      intro b10
      refine .flo rfl rfl rfl (.alloc rfl zr28) trivial rfl rfl rfl ?_
      intro b11
      refine .flo rfl rfl rfl (.alloc rfl zr28) trivial rfl rfl rfl ?_
      intro b12
      refine .det (B := [(5, (_, _))]) rfl rfl (.inl rfl) .nil (.cons rfl .nil) rfl (lr_storeN (.tmp rfl) (.tmp rfl) rfl sz28 rfl (by repeat (first | exact Put.done | apply Put.put | apply Put.skip))) ?_
      refine .det (B := [(6, (_, _))]) rfl rfl (.inl rfl) .nil (.cons rfl .nil) rfl (lr_storeN (.tmp rfl) (.tmp rfl) rfl sz28 rfl (by repeat (first | exact Put.done | apply Put.put | apply Put.skip))) ?_
      refine .det (B := [(7, (_, _))]) rfl rfl (.inl rfl) .nil (.cons rfl .nil) rfl (lr_storeN (.tmp rfl) (.tmp rfl) rfl sz28 rfl (by repeat (first | exact Put.done | apply Put.put | apply Put.skip))) ?_
      refine chain_nil (ts := [7, 6, 5, 0, 1, 2, 3, 4]) (.cons rfl (.cons rfl (.cons rfl (.cons rfl (.cons rfl (.cons rfl (.cons rfl (.cons rfl .nil)))))))) (by decide) ?_
      refine xw_then ?_
      refine cw_seq ?_
      refine cw_seq ?_
      refine cw_region ?_
      refine lstepB rfl rfl rfl (run_assign .const) ?_
      refine lnil ?_
      refine xw_then ?_
      refine cw_block ?_
      refine cw_loop (S := PartsZ) (fun s => [(13, .int .i64 ((s.i : Nat) : Int))]) [(4, _), (5, _), (6, _), (9, _), (10, _), (11, _), (12, _)] (fun s => [(b12, Obj.cells (spanV s.c).toArray 28 (0, 0)), (b11, Obj.cells (spanV s.b).toArray 28 (0, 0)), (b10, Obj.cells (spanV s.a).toArray 28 (0, 0)), (gM, Obj.cells rM.toArray 92 (0, 0)), (b6, Obj.cells [.int .i64 0, .int .i64 0].toArray 28 (0, 0)), (b5, Obj.cells [.int .i64 0, .int .i64 0].toArray 28 (0, 0)), (b4, Obj.cells [.int .i64 0, .int .i64 0].toArray 28 (0, 0))]) (fun s => s.i ≤ M.length ∧ EnvZ M (·.a) s.i s.a ∧ EnvZ M (·.b) s.i s.b ∧ EnvZ M (·.c) s.i s.c) (fun s => M.length - s.i) ⟨0, ⟨m.a, m.a⟩, ⟨m.b, m.b⟩, ⟨m.c, m.c⟩⟩ ⟨Nat.zero_le _, .init hmm, .init (f := (·.b)) hmm, .init (f := (·.c)) hmm⟩ (by repeat (first | exact Less.nil | refine Less.cons rfl ?_)) (by repeat (first | exact Pick.nil | (apply Pick.cons; focus (repeat (first | exact Del.here | apply Del.there))))) ?_
      intro s hs
      obtain ⟨i, a, b, c⟩ := s
      obtain ⟨hi, ha, hb, hc⟩ := hs
      dsimp only at hi ha hb hc ⊢
      refine cw_seq ?_
      refine cw_seq ?_
      refine cw_region ?_
      refine lstepB rfl rfl rfl (run_move (.tmp rfl)) ?_
      refine lstepB rfl rfl rfl (run_move (.tmp rfl)) ?_
      refine lstepB rfl rfl rfl (run_len (.tmp rfl) sl89) ?_
      refine lstepB rfl rfl rfl (run_lss (.tmp rfl) (.tmp rfl) rfl) ?_
      refine lnil ?_
      refine xw_then ?_
      refine cw_cond_p (.tmp rfl) (fun hl => ?_) (fun hl => ?_)
      ·
        obtain ⟨t, ht⟩ : ∃ s, M[i]? = some s := ⟨_, List.getElem?_eq_getElem (by omega)⟩
        have hto := hmok t (List.mem_of_getElem? ht)
        refine cw_skip ?_
        refine xw_then ?_
        refine cw_seq ?_
        refine cw_block ?_
        refine cw_chain2 (σ := [0, 1, 2, 3, 4, 5, 6, 7, 8, 9, 10, 11, 12, 13, 14, 15, 16, 17, 18, 19, 20, 21, 22, 23]) [⟨0, [2], [], [], 0⟩, ⟨0, [], [], [], 0⟩, ⟨0, [], [], [], 0⟩, ⟨0, [], [], [], 6⟩, ⟨0, [], [], [], 14⟩, ⟨0, [3], [], [], 30⟩, ⟨0, [], [], [], 63⟩, ⟨0, [1], [], [], 0⟩, ⟨0, [], [], [], 0⟩, ⟨0, [], [], [], 0⟩, ⟨0, [], [], [], 768⟩, ⟨0, [], [], [], 1792⟩, ⟨0, [3], [], [], 3840⟩, ⟨0, [], [], [], 8191⟩, ⟨0, [0], [], [], 0⟩, ⟨0, [], [], [], 0⟩, ⟨0, [], [], [], 0⟩, ⟨0, [], [], [], 98304⟩, ⟨0, [3], [], [], 229376⟩, ⟨0, [], [], [], 507903⟩, ⟨0, [], [], [], 1048575⟩, ⟨0, [], [2], [2], 2097151⟩, ⟨0, [], [1], [1], 4194303⟩, ⟨0, [], [0], [0], 8388607⟩] [(0, _), (1, _), (2, _), (3, _), (4, _), (5, _), (6, _)] (by kernel_rfl) (by kernel_rfl) rfl ?_
        refine .det (B := []) rfl rfl (.inl rfl) (.cons rfl .nil) .nil rfl (RunB.lr (run_loadN (.tmp rfl) kd28 sz28 (by repeat (first | exact List.Mem.head _ | apply List.Mem.tail)) (by repeat (first | exact Sub.done | apply Sub.take | apply Sub.skip)))) ?_
        refine .det (B := []) rfl rfl (.inl rfl) .nil .nil rfl (RunB.lr (run_move (.tmp rfl))) ?_
        refine .det (B := []) rfl rfl (.inl rfl) .nil .nil rfl (RunB.lr (run_move (.tmp rfl))) ?_
        refine .det (B := []) rfl rfl (.inl rfl) .nil .nil rfl (RunB.lr (run_indexAddr (i := i) (off' := i * 2) (.tmp rfl) (.tmp rfl) el89 (by omega) (Nat.zero_add _))) ?_
        refine .det (B := []) rfl rfl (.inl rfl) .nil .nil rfl (RunB.lr (run_fieldAddr (.tmp rfl) fa92_0 (by first | exact Nat.zero_add _ | exact rfl))) ?_
        refine .det (B := []) rfl rfl (.inl rfl) (.cons rfl .nil) .nil rfl (RunB.lr (run_load1 (v := .int .i64 t.a) (.tmp rfl) kd3 (by repeat (first | exact List.Mem.head _ | apply List.Mem.tail)) (hM.get (ssC_at M i t ht 0 _ rfl)))) ?_
        refine .det (B := []) rfl rfl (.inl rfl) .nil .nil rfl (RunB.lr (run_call1 cb53 (.cons (.tmp rfl) (.cons (.tmp rfl) .nil)) (fun w _ => joinZK a _ w))) ?_
        refine .det (B := []) rfl rfl (.inl rfl) (.cons rfl .nil) .nil rfl (RunB.lr (run_loadN (.tmp rfl) kd28 sz28 (by repeat (first | exact List.Mem.head _ | apply List.Mem.tail)) (by repeat (first | exact Sub.done | apply Sub.take | apply Sub.skip)))) ?_
        refine .det (B := []) rfl rfl (.inl rfl) .nil .nil rfl (RunB.lr (run_move (.tmp rfl))) ?_
        refine .det (B := []) rfl rfl (.inl rfl) .nil .nil rfl (RunB.lr (run_move (.tmp rfl))) ?_
        refine .det (B := []) rfl rfl (.inl rfl) .nil .nil rfl (RunB.lr (run_indexAddr (i := i) (off' := i * 2) (.tmp rfl) (.tmp rfl) el89 (by omega) (Nat.zero_add _))) ?_
        refine .det (B := []) rfl rfl (.inl rfl) .nil .nil rfl (RunB.lr (run_fieldAddr (.tmp rfl) fa92_1 (by first | exact Nat.zero_add _ | exact rfl))) ?_
        refine .det (B := []) rfl rfl (.inl rfl) (.cons rfl .nil) .nil rfl (RunB.lr (run_load1 (v := .int .i64 t.b) (.tmp rfl) kd3 (by repeat (first | exact List.Mem.head _ | apply List.Mem.tail)) (hM.get (ssC_at M i t ht 1 _ rfl)))) ?_
        refine .det (B := []) rfl rfl (.inl rfl) .nil .nil rfl (RunB.lr (run_call1 cb53 (.cons (.tmp rfl) (.cons (.tmp rfl) .nil)) (fun w _ => joinZK b _ w))) ?_
        refine .det (B := []) rfl rfl (.inl rfl) (.cons rfl .nil) .nil rfl (RunB.lr (run_loadN (.tmp rfl) kd28 sz28 (by repeat (first | exact List.Mem.head _ | apply List.Mem.tail)) (by repeat (first | exact Sub.done | apply Sub.take | apply Sub.skip)))) ?_
        refine .det (B := []) rfl rfl (.inl rfl) .nil .nil rfl (RunB.lr (run_move (.tmp rfl))) ?_
        refine .det (B := []) rfl rfl (.inl rfl) .nil .nil rfl (RunB.lr (run_move (.tmp rfl))) ?_
        refine .det (B := []) rfl rfl (.inl rfl) .nil .nil rfl (RunB.lr (run_indexAddr (i := i) (off' := i * 2) (.tmp rfl) (.tmp rfl) el89 (by omega) (Nat.zero_add _))) ?_
        refine .det (B := []) rfl rfl (.inl rfl) (.cons rfl .nil) .nil rfl (RunB.lr (run_loadN_own (l := sC t) (.tmp rfl) kd92 sz92 (by repeat (first | exact List.Mem.head _ | apply List.Mem.tail)) rfl (fun j' v hj' => hM.get (ssC_at _ i t ht j' v hj')))) ?_
        refine .det (B := []) rfl rfl (.inl rfl) .nil .nil rfl (RunB.lr (run_call1 cb52 (.cons (.tmp rfl) .nil) (fun w _ => clayZK t hto w))) ?_
        refine .det (B := []) rfl rfl (.inl rfl) .nil .nil rfl (RunB.lr (run_call1 cb53 (.cons (.tmp rfl) (.cons (.tmp rfl) .nil)) (fun w _ => joinZK c _ w))) ?_
        refine .det (B := [(2, (_, _))]) rfl rfl (.inl rfl) .nil (.cons rfl .nil) rfl (lr_storeN (.tmp rfl) (.tmp rfl) rfl sz28 rfl (by repeat (first | exact Put.done | apply Put.put | apply Put.skip))) ?_
        refine .det (B := [(1, (_, _))]) rfl rfl (.inl rfl) .nil (.cons rfl .nil) rfl (lr_storeN (.tmp rfl) (.tmp rfl) rfl sz28 rfl (by repeat (first | exact Put.done | apply Put.put | apply Put.skip))) ?_
        refine .det (B := [(0, (_, _))]) rfl rfl (.inl rfl) .nil (.cons rfl .nil) rfl (lr_storeN (.tmp rfl) (.tmp rfl) rfl sz28 rfl (by repeat (first | exact Put.done | apply Put.put | apply Put.skip))) ?_
        refine chain_nil (ts := [0, 1, 2, 3, 4, 5, 6]) (.cons rfl (.cons rfl (.cons rfl (.cons rfl (.cons rfl (.cons rfl (.cons rfl .nil))))))) (by decide) ?_
        refine xw_in ?_
        refine xw_then ?_
        refine cw_region ?_
        refine lstepB rfl rfl rfl (run_move (.tmp rfl)) ?_
        refine lstepB rfl rfl rfl (run_add (.tmp rfl) .const (by first | exact IntWalk.i64_in _ (by omega) | exact rfl)) ?_
        refine lstepB rfl rfl rfl (run_assign (.tmp rfl)) ?_
        refine lnil ?_
        exact xw_round ⟨i + 1, ⟨min a.lo t.a, max a.hi t.a⟩, ⟨min b.lo t.b, max b.hi t.b⟩, ⟨min c.lo t.c, max c.hi t.c⟩⟩ ⟨by simp only; omega, ha.step ht, hb.step ht, hc.step ht⟩ (by show M.length - (i + 1) < M.length - i; omega) (by repeat (first | exact Less.nil | refine Less.cons rfl ?_)) (by repeat (first | exact Pick.nil | (apply Pick.cons; focus (repeat (first | exact Del.here | apply Del.there)))))
      ·
        obtain rfl : i = M.length := by omega
        have hres := env_parts hms htight ha hb hc
        rw [hres]
        refine cw_exit ?_
        refine xw_then_exit ?_
        refine xw_then_exit ?_
        refine xw_in_exit ?_
        refine xw_then ?_
        refine cw_seq ?_
        refine cw_chain2 (σ := [0, 1, 2, 3, 4, 5, 6]) [⟨0, [2], [], [], 0⟩, ⟨0, [1], [], [], 0⟩, ⟨0, [0], [], [], 0⟩, ⟨0, [], [6], [6], 1⟩, ⟨0, [], [5], [5], 11⟩, ⟨0, [], [4], [4], 31⟩, ⟨0, [], [], [], 63⟩] [(0, _), (1, _), (2, _), (3, _), (4, _), (5, _), (6, _)] (by kernel_rfl) (by kernel_rfl) rfl ?_
        refine .det (B := []) rfl rfl (.inl rfl) (.cons rfl .nil) .nil rfl (RunB.lr (run_loadN (.tmp rfl) kd28 sz28 (by repeat (first | exact List.Mem.head _ | apply List.Mem.tail)) (by repeat (first | exact Sub.done | apply Sub.take | apply Sub.skip)))) ?_
        refine .det (B := []) rfl rfl (.inl rfl) (.cons rfl .nil) .nil rfl (RunB.lr (run_loadN (.tmp rfl) kd28 sz28 (by repeat (first | exact List.Mem.head _ | apply List.Mem.tail)) (by repeat (first | exact Sub.done | apply Sub.take | apply Sub.skip)))) ?_
        refine .det (B := []) rfl rfl (.inl rfl) (.cons rfl .nil) .nil rfl (RunB.lr (run_loadN (.tmp rfl) kd28 sz28 (by repeat (first | exact List.Mem.head _ | apply List.Mem.tail)) (by repeat (first | exact Sub.done | apply Sub.take | apply Sub.skip)))) ?_
        refine .det (B := [(6, (_, _))]) rfl rfl (.inl rfl) .nil (.cons rfl .nil) rfl (lr_storeN (.tmp rfl) (.tmp rfl) rfl sz28 rfl (by repeat (first | exact Put.done | apply Put.put | apply Put.skip))) ?_
        refine .det (B := [(5, (_, _))]) rfl rfl (.inl rfl) .nil (.cons rfl .nil) rfl (lr_storeN (.tmp rfl) (.tmp rfl) rfl sz28 rfl (by repeat (first | exact Put.done | apply Put.put | apply Put.skip))) ?_
        refine .det (B := [(4, (_, _))]) rfl rfl (.inl rfl) .nil (.cons rfl .nil) rfl (lr_storeN (.tmp rfl) (.tmp rfl) rfl sz28 rfl (by repeat (first | exact Put.done | apply Put.put | apply Put.skip))) ?_
        refine .det (B := []) rfl rfl (.inl rfl) .nil .nil rfl (RunB.lr (run_assign .const)) ?_
        refine chain_nil (ts := [0, 1, 2, 3, 4, 5, 6]) (.cons rfl (.cons rfl (.cons rfl (.cons rfl (.cons rfl (.cons rfl (.cons rfl .nil))))))) (by decide) ?_
        refine xw_then ?_
        refine cw_ret ?_
        refine xw_retM (Ds := []) fun a w hF hS => ⟨_, resCCCT rfl rfl rfl rfl rfl hF (load_own hS kd28 sz28 (by repeat (first | exact List.Mem.head _ | apply List.Mem.tail)) (by repeat (first | exact Sub.done | apply Sub.take | apply Sub.skip))) (load_own hS kd28 sz28 (by repeat (first | exact List.Mem.head _ | apply List.Mem.tail)) (by repeat (first | exact Sub.done | apply Sub.take | apply Sub.skip))) (load_own hS kd28 sz28 (by repeat (first | exact List.Mem.head _ | apply List.Mem.tail)) (by repeat (first | exact Sub.done | apply Sub.take | apply Sub.skip))), ?_⟩
        exact ⟨rfl, hS.kept⟩
  case some val =>
    have hne := hardE_ne he
    have hS0 : partsM g k = noMix := by unfold partsM; rw [if_neg (by rw [he]; simp)]
    rw [hS0, show errN (some val) = val from rfl]
    refine xw_then ?_
    refine cw_seq ?_
    refine cw_seq ?_
    refine cw_region ?_
    refine lstepB rfl rfl rfl (run_move (.tmp rfl)) ?_
    refine lstepB rfl rfl rfl (run_neq (p := true) (.tmp rfl) .const (decide_eq_true hne)) ?_
    refine lnil ?_
    refine xw_then ?_
    refine cw_cond_true (.tmp rfl) ?_
    refine cw_seq ?_
    refine cw_region ?_
    refine lstepB rfl rfl rfl (run_build_at .nil (fun w => bd28_ w)) ?_
    refine lstepB rfl rfl rfl (run_build_at .nil (fun w => bd28_ w)) ?_
    refine lstepB rfl rfl rfl (run_build_at .nil (fun w => bd28_ w)) ?_
    refine lstepB rfl rfl rfl (run_move (.tmp rfl)) ?_
    refine lstep0 rfl rfl (run_storeN (.tmp rfl) (.tmp rfl) rfl sz28 rfl (by repeat (first | exact Upd.here | apply Upd.there)) (by repeat (first | exact Put.done | apply Put.put | apply Put.skip))) ?_
    refine lstep0 rfl rfl (run_storeN (.tmp rfl) (.tmp rfl) rfl sz28 rfl (by repeat (first | exact Upd.here | apply Upd.there)) (by repeat (first | exact Put.done | apply Put.put | apply Put.skip))) ?_
    refine lstep0 rfl rfl (run_storeN (.tmp rfl) (.tmp rfl) rfl sz28 rfl (by repeat (first | exact Upd.here | apply Upd.there)) (by repeat (first | exact Put.done | apply Put.put | apply Put.skip))) ?_
    refine lstepB rfl rfl rfl (run_assign (.tmp rfl)) ?_
    refine lnil ?_
    refine xw_then ?_
    refine cw_ret ?_
    refine xw_then_ret ?_
    refine xw_retM (Ds := []) fun a w hF hS => ⟨_, resCCCT rfl rfl rfl rfl rfl hF (load_own hS kd28 sz28 (by repeat (first | exact List.Mem.head _ | apply List.Mem.tail)) (by repeat (first | exact Sub.done | apply Sub.take | apply Sub.skip))) (load_own hS kd28 sz28 (by repeat (first | exact List.Mem.head _ | apply List.Mem.tail)) (by repeat (first | exact Sub.done | apply Sub.take | apply Sub.skip))) (load_own hS kd28 sz28 (by repeat (first | exact List.Mem.head _ | apply List.Mem.tail)) (by repeat (first | exact Sub.done | apply Sub.take | apply Sub.skip))), ?_⟩
    exact ⟨rfl, hS.kept⟩
end Go.Proofs.Ytfmbnobkenngaaa
