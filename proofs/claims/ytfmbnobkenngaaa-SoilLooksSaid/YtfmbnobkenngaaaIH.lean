/- Soil: the document's own Parts and Class. -/
import Derived.Test.YtfmbnobkenngaaaIG
namespace Go.Proofs.Ytfmbnobkenngaaa
open Go.RowKit En

theorem run_quoZ {P : Program} {E : Env} {w0 : World} {T : Nat → Prop} {H : Heap} {x y : Operand} {d : Option Tmp} {tx ty tyy : TypeId} {pos : String} {af : Array Edge} {gd : Option (Nat × Bool)} {a b : Int} (hx : Ev E x (.int .i64 a)) (hy : Ev E y (.int .i64 b)) (h0 : 0 ≤ a) (h1 : 0 < b) (h2 : a ≤ 1000000) : RunB P E w0 T H ⟨d, .binOp .quo tx x y tyy, ty, pos, af, gd⟩ (.int .i64 (a / b)) := fun ρ w hρ hS => by
  refine doneO rfl ?_
  have e1 := hρ x _ (by simp [Op.operands]) hx
  have e2 := hρ y _ (by simp [Op.operands]) hy
  have hb : b ≠ 0 := by omega
  have q1 : 0 ≤ a / b := Int.ediv_nonneg h0 (by omega)
  have q2 : a / b ≤ a := Int.ediv_le_self _ h0
  have q3 : IntKind.i64.wrap (a / b) = a / b := IntWalk.i64_in _ (by omega)
  simp [execOp, e1, e2, Done, go_sem, Below.refl, eqGuard, binOp, Op.intDiv, hb, Int.tdiv_eq_ediv_of_nonneg h0, q3]
structure PartsZ where
  i : Nat
  a : SpanD
  b : SpanD
  c : SpanD
/-- A span's ends are some mixes', and the first mixes lie within. -/
structure EnvZ (M : List S3) (f : S3 → Int) (i : Nat) (s : SpanD) : Prop where
  lo : ∃ m ∈ M, f m = s.lo
  hi : ∃ m ∈ M, f m = s.hi
  all : ∀ j m, j < i → M[j]? = some m → s.lo ≤ f m ∧ f m ≤ s.hi
theorem EnvZ.init {M : List S3} {f : S3 → Int} {m : S3} (h : m ∈ M) : EnvZ M f 0 ⟨f m, f m⟩ := ⟨⟨m, h, rfl⟩, ⟨m, h, rfl⟩, fun j _ h => absurd h (Nat.not_lt_zero _)⟩
theorem EnvZ.step {M : List S3} {f : S3 → Int} {i : Nat} {s : SpanD} {m : S3} (h : EnvZ M f i s) (hm : M[i]? = some m) : EnvZ M f (i + 1) ⟨min s.lo (f m), max s.hi (f m)⟩ := by
  have hmem := List.mem_of_getElem? hm
  refine ⟨?_, ?_, fun j q hj hq => ?_⟩
  · by_cases c : s.lo ≤ f m
    · obtain ⟨q, h1, h2⟩ := h.lo; exact ⟨q, h1, by simp only; omega⟩
    · exact ⟨m, hmem, by simp only; omega⟩
  · by_cases c : f m ≤ s.hi
    · obtain ⟨q, h1, h2⟩ := h.hi; exact ⟨q, h1, by simp only; omega⟩
    · exact ⟨m, hmem, by simp only; omega⟩
  · simp only
    rcases Nat.lt_or_ge j i with c | c
    · have := h.all j q c hq; omega
    · obtain rfl : j = i := by omega
      rw [hm] at hq; cases hq; omega
theorem EnvZ.done {M : List S3} {f : S3 → Int} {s o : SpanD} (h : EnvZ M f M.length s) (h1 : ∀ m ∈ M, o.lo ≤ f m ∧ f m ≤ o.hi) (h2 : ∃ m ∈ M, f m = o.lo) (h3 : ∃ m ∈ M, f m = o.hi) : s = o := by
  have key : ∀ m ∈ M, s.lo ≤ f m ∧ f m ≤ s.hi := fun m hm => by
    obtain ⟨j, hj, rfl⟩ := List.getElem_of_mem hm
    exact h.all j _ hj (List.getElem?_eq_getElem hj)
  obtain ⟨a, a1, a2⟩ := h.lo
  obtain ⟨b, b1, b2⟩ := h.hi
  obtain ⟨c, c1, c2⟩ := h2
  obtain ⟨d, d1, d2⟩ := h3
  have q1 := h1 a a1
  have q2 := h1 b b1
  have q3 := key c c1
  have q4 := key d d1
  obtain ⟨x, y⟩ := s
  obtain ⟨z, t⟩ := o
  simp only at *
  simp only [SpanD.mk.injEq]
  omega
def clsZ (M : List S3) : Nat → Nat
  | 0 => 0
  | i + 1 => clsZ M i ||| 2 ^ (match M[i]? with | some s => classN s.a s.b s.c | none => 0)
theorem clsZ_succ {M : List S3} {i : Nat} {s : S3} (h : M[i]? = some s) : clsZ M (i + 1) = clsZ M i ||| 2 ^ classN s.a s.b s.c := by rw [clsZ, h]
theorem clsZ_bit (M : List S3) (c : Nat) : ∀ i, i ≤ M.length → ((clsZ M i).testBit c = true ↔ ∃ j s, j < i ∧ M[j]? = some s ∧ classN s.a s.b s.c = c)
  | 0, _ => by simp [clsZ]
  | i + 1, h => by
    have ih := clsZ_bit M c i (by omega)
    obtain ⟨s, hs⟩ : ∃ s, M[i]? = some s := ⟨_, List.getElem?_eq_getElem (by omega)⟩
    rw [clsZ_succ hs, Nat.testBit_or, Bool.or_eq_true, ih, Nat.testBit_two_pow, decide_eq_true_eq]
    constructor
    · rintro (⟨j, t, h1, h2, h3⟩ | h3)
      · exact ⟨j, t, by omega, h2, h3⟩
      · exact ⟨i, s, by omega, hs, h3⟩
    · rintro ⟨j, t, h1, h2, h3⟩
      rcases Nat.lt_or_ge j i with c1 | c1
      · exact .inl ⟨j, t, c1, h2, h3⟩
      · obtain rfl : j = i := by omega
        rw [hs] at h2; cases h2
        exact .inr h3
theorem classN_4 (a b c : Int) : classN a b c < 4 := by unfold classN; split <;> (try split) <;> (try split) <;> omega
theorem clsZ_lt (M : List S3) : ∀ i, i ≤ M.length → clsZ M i < 16
  | 0, _ => by simp [clsZ]
  | i + 1, h => by
    have ih := clsZ_lt M i (by omega)
    obtain ⟨s, hs⟩ : ∃ s, M[i]? = some s := ⟨_, List.getElem?_eq_getElem (by omega)⟩
    rw [clsZ_succ hs]
    have h2 : 2 ^ classN s.a s.b s.c < 2 ^ 4 := Nat.pow_lt_pow_right (by omega) (classN_4 ..)
    exact Nat.or_lt_two_pow (n := 4) (by omega) h2
theorem clsZ_classes {M : List S3} {m : MixD} (hM : ∀ s, s ∈ M ↔ sum20 s ∧ InM m s) : clsZ M M.length = classesM m := by
  refine bits_ext fun c => ?_
  rw [clsZ_bit M c _ (Nat.le_refl _), classes_bit]
  constructor
  · rintro ⟨j, s, h1, h2, h3⟩
    have := (hM s).1 (List.mem_of_getElem? h2)
    exact ⟨s, this.1, this.2, h3⟩
  · rintro ⟨s, h1, h2, h3⟩
    obtain ⟨j, hj, e⟩ := List.getElem_of_mem ((hM s).2 ⟨h1, h2⟩)
    exact ⟨j, s, hj, by rw [List.getElem?_eq_getElem hj, e], h3⟩
theorem has16 : ∀ v : Fin 16, ∀ c : Fin 4, (v.1.testBit c.1 = true → v.1 ||| 2 ^ c.1 = v.1) ∧ (v.1.testBit c.1 = false → v.1 + 2 ^ c.1 = v.1 ||| 2 ^ c.1) := by decide +kernel
set_option maxRecDepth 100000 in
set_option maxHeartbeats 4000000 in
theorem powerZK (c : Nat) (hc : c ≤ 30) (w : World) : Gives Try.prog 64 [.int .i64 (c : Int)] w (.int .i64 ((2 ^ c : Nat) : Int)) := by
  refine .mk <| enter (n := 13) Try.func64 rfl rfl rfl (by repeat (first | exact Fill.nil | apply Fill.cons)) ?_
  refine cw_seq ?_
  refine cw_region ?_
  refine lstepB rfl rfl rfl (run_assign .const) ?_
  refine lnil ?_
  refine xw_then ?_
  refine cw_seq ?_
  refine cw_region ?_
  refine lstepB rfl rfl rfl (run_assign .const) ?_
  refine lnil ?_
  refine xw_then ?_
  refine cw_seq ?_
  refine cw_seq ?_
  refine cw_region ?_
  refine lstepB rfl rfl rfl (run_assign .const) ?_
  refine lnil ?_
  refine xw_then ?_
  refine cw_block ?_
  refine cw_loop (S := Nat) (fun k => [(4, .int .i64 ((k : Nat) : Int)), (3, .int .i64 ((2 ^ k : Nat) : Int))]) [(0, _)] (fun k => []) (fun k => k ≤ c) (fun k => c - k) 0 (Nat.zero_le _) (by repeat (first | exact Less.nil | refine Less.cons rfl ?_)) (by repeat (first | exact Pick.nil | (apply Pick.cons; focus (repeat (first | exact Del.here | apply Del.there))))) ?_
  intro k hk
  refine cw_seq ?_
  refine cw_seq ?_
  refine cw_region ?_
  refine lstepB rfl rfl rfl (run_move (.tmp rfl)) ?_
  refine lstepB rfl rfl rfl (run_move (.tmp rfl)) ?_
  refine lstepB rfl rfl rfl (run_lss (.tmp rfl) (.tmp rfl) rfl) ?_
  refine lnil ?_
  refine xw_then ?_
  refine cw_cond_p (.tmp rfl) (fun hl => ?_) (fun hl => ?_)
  ·
    have hp : 2 ^ k ≤ 2 ^ 30 := Nat.pow_le_pow_right (by omega) (by omega)
    have hs : (2 : Int) * ((2 ^ k : Nat) : Int) = ((2 ^ (k + 1) : Nat) : Int) := by rw [Nat.pow_succ, Int.natCast_mul, Int.mul_comm]; rfl
    have hpi : ((2 ^ k : Nat) : Int) ≤ 1073741824 := Int.ofNat_le.2 hp
    have hpn : 0 ≤ ((2 ^ k : Nat) : Int) := Int.natCast_nonneg _
    have hwr : IntKind.i64.wrap (2 * ((2 ^ k : Nat) : Int)) = 2 * ((2 ^ k : Nat) : Int) := by
      obtain ⟨p, hp3⟩ : ∃ p, ((2 ^ k : Nat) : Int) = p := ⟨_, rfl⟩
      rw [hp3] at hpi hpn ⊢
      exact IntWalk.i64_in _ (by omega)
    refine cw_skip ?_
    refine xw_then ?_
    refine cw_seq ?_
    refine cw_block ?_
    refine cw_region ?_
    refine lstepB rfl rfl rfl (run_move (.tmp rfl)) ?_
    refine lstepB rfl rfl rfl (run_mul (c := ((2 ^ (k + 1) : Nat) : Int)) .const (.tmp rfl) (by rw [hwr]; exact hs)) ?_
    refine lstepB rfl rfl rfl (run_assign (.tmp rfl)) ?_
    refine lnil ?_
    refine xw_in ?_
    refine xw_then ?_
    refine cw_region ?_
    refine lstepB rfl rfl rfl (run_move (.tmp rfl)) ?_
    refine lstepB rfl rfl rfl (run_add (.tmp rfl) .const (by first | exact IntWalk.i64_in _ (by omega) | exact rfl)) ?_
    refine lstepB rfl rfl rfl (run_assign (.tmp rfl)) ?_
    refine lnil ?_
    exact xw_round (k + 1) (by show k + 1 ≤ _; omega) (by show c - (k + 1) < c - k; omega) (by repeat (first | exact Less.nil | refine Less.cons rfl ?_)) (by repeat (first | exact Pick.nil | (apply Pick.cons; focus (repeat (first | exact Del.here | apply Del.there)))))
  ·
    obtain rfl : k = c := by omega
    refine cw_exit ?_
    refine xw_then_exit ?_
    refine xw_then_exit ?_
    refine xw_in_exit ?_
    refine xw_then ?_
    refine cw_seq ?_
    refine cw_region ?_
    refine lstepB rfl rfl rfl (run_move (.tmp rfl)) ?_
    refine lstepB rfl rfl rfl (run_assign (.tmp rfl)) ?_
    refine lnil ?_
    refine xw_then ?_
    refine cw_ret ?_
    refine xw_ret1 Try.results64 rfl (fun w hS => ⟨rfl, hS.kept⟩)
set_option maxRecDepth 100000 in
set_option maxHeartbeats 4000000 in
theorem hasZK (v c : Nat) (hv : v < 1000000) (hc : c ≤ 30) (w : World) : Gives Try.prog 89 [.int .i64 (v : Int), .int .i64 (c : Int)] w (.bool (v.testBit c)) := by
  have hp : 0 < 2 ^ c := Nat.two_pow_pos c
  have hq : ((v : Nat) : Int) / ((2 ^ c : Nat) : Int) = ((v / 2 ^ c : Nat) : Int) := (Int.natCast_ediv v (2 ^ c)).symm
  have hd : v / 2 ^ c ≤ v := Nat.div_le_self ..
  have hb : v.testBit c = decide (v / 2 ^ c % 2 = 1) := Nat.testBit_eq_decide_div_mod_eq
  have hp2 : (0 : Int) < ((2 ^ c : Nat) : Int) := Int.natCast_pos.2 hp
  obtain ⟨u, hu⟩ : ∃ u, v / 2 ^ c = u := ⟨_, rfl⟩
  rw [hu] at hq hd hb
  rw [hb]
  refine .mk <| enter (n := 11) Try.func89 rfl rfl rfl (by repeat (first | exact Fill.nil | apply Fill.cons)) ?_
  refine cw_seq ?_
  refine cw_region ?_
  refine lstepB rfl rfl rfl (run_assign .const) ?_
  refine lnil ?_
  refine xw_then ?_
  refine cw_seq ?_
  refine cw_region ?_
  refine lstepB rfl rfl rfl (run_move (.tmp rfl)) ?_
  refine lstepB rfl rfl rfl (run_move (.tmp rfl)) ?_
  refine lstepB rfl rfl rfl (run_call1 cb64 (.cons (.tmp rfl) .nil) (fun w _ => powerZK c (by omega) w)) ?_
  refine lstepB rfl rfl rfl (runB_to (run_quoZ (.tmp rfl) (.tmp rfl) (by omega) hp2 (by omega)) (congrArg (Value.int .i64) hq)) ?_
  refine lstepB rfl rfl rfl (run_rem (.tmp rfl) .const (by omega) (by omega)) ?_
  refine lstepB rfl rfl rfl (run_eql (p := decide (u % 2 = 1)) (.tmp rfl) .const (decide_eq_decide.2 (by omega))) ?_
  refine lstepB rfl rfl rfl (run_assign (.tmp rfl)) ?_
  refine lnil ?_
  refine xw_then ?_
  refine cw_ret ?_
  refine xw_ret1 Try.results89 rfl (fun w hS => ⟨rfl, hS.kept⟩)
set_option maxRecDepth 100000 in
set_option maxHeartbeats 4000000 in
theorem ofZ0 (a b c : Int) (h : -1000 ≤ a ∧ a ≤ 1000 ∧ -1000 ≤ b ∧ b ≤ 1000) (h20 : a + b + c = 20) (w : World) : Gives Try.prog 75 [.agg [.int .i64 a, .int .i64 b].toArray] w (.int .i64 ((classN a b c : Nat) : Int)) := by
  rw [show c = 20 - a - b by omega]
  unfold classN
  by_cases h1 : 8 ≤ 20 - a - b
  ·
    rw [if_pos h1]
    refine .mk <| enter (n := 12) Try.func75 rfl rfl rfl (by repeat (first | exact Fill.nil | apply Fill.cons)) ?_
    refine cw_seq ?_
    refine cw_region ?_
    refine lstep rfl rfl rfl (run_boxN (.tmp rfl)) ?_
    intro b1 _
    refine lstepB rfl rfl rfl (run_assign .const) ?_
    refine lnil ?_
    refine xw_then ?_
    refine cw_seq ?_
    refine cw_seq ?_
    refine cw_region ?_
    refine lstepB rfl rfl rfl (run_loadN (.tmp rfl) kd92 sz92 (by repeat (first | exact List.Mem.head _ | apply List.Mem.tail)) (by repeat (first | exact Sub.done | apply Sub.take | apply Sub.skip))) ?_
    refine lstepB rfl rfl rfl (run_call1 cb52 (.cons (.tmp rfl) .nil) (fun w _ => clayZ0 _ _ (by omega) w)) ?_
    refine lstepB rfl rfl rfl (run_geq (.tmp rfl) .const (by first | exact decide_eq_true (by omega) | exact decide_eq_false (by omega) | exact rfl)) ?_
    refine lnil ?_
    refine xw_then ?_
    refine cw_cond_true (.tmp rfl) ?_
    refine cw_seq ?_
    refine cw_region ?_
    refine lstepB rfl rfl rfl (run_assign .const) ?_
    refine lnil ?_
    refine xw_then ?_
    refine cw_ret ?_
    refine xw_then_ret ?_
    refine xw_ret1 Try.results75 rfl (fun w hS => ⟨rfl, hS.kept⟩)
  ·
    rw [if_neg h1]
    by_cases h2 : 14 ≤ a
    ·
      rw [if_pos h2]
      refine .mk <| enter (n := 12) Try.func75 rfl rfl rfl (by repeat (first | exact Fill.nil | apply Fill.cons)) ?_
      refine cw_seq ?_
      refine cw_region ?_
      refine lstep rfl rfl rfl (run_boxN (.tmp rfl)) ?_
      intro b1 _
      refine lstepB rfl rfl rfl (run_assign .const) ?_
      refine lnil ?_
      refine xw_then ?_
      refine cw_seq ?_
      refine cw_seq ?_
      refine cw_region ?_
      refine lstepB rfl rfl rfl (run_loadN (.tmp rfl) kd92 sz92 (by repeat (first | exact List.Mem.head _ | apply List.Mem.tail)) (by repeat (first | exact Sub.done | apply Sub.take | apply Sub.skip))) ?_
      refine lstepB rfl rfl rfl (run_call1 cb52 (.cons (.tmp rfl) .nil) (fun w _ => clayZ0 _ _ (by omega) w)) ?_
      refine lstepB rfl rfl rfl (run_geq (.tmp rfl) .const (by first | exact decide_eq_true (by omega) | exact decide_eq_false (by omega) | exact rfl)) ?_
      refine lnil ?_
      refine xw_then ?_
      refine cw_cond_false (.tmp rfl) ?_
      refine cw_skip ?_
      refine xw_then ?_
      refine cw_seq ?_
      refine cw_seq ?_
      refine cw_region ?_
      refine lstepB rfl rfl rfl (run_fieldAddr (.tmp rfl) fa92_0 (by first | exact Nat.zero_add _ | exact rfl)) ?_
      refine lstepB rfl rfl rfl (run_load1 (.tmp rfl) kd3 (by repeat (first | exact List.Mem.head _ | apply List.Mem.tail)) (by exact rfl)) ?_
      refine lstepB rfl rfl rfl (run_geq (.tmp rfl) .const (by first | exact decide_eq_true (by omega) | exact decide_eq_false (by omega) | exact rfl)) ?_
      refine lnil ?_
      refine xw_then ?_
      refine cw_cond_true (.tmp rfl) ?_
      refine cw_seq ?_
      refine cw_region ?_
      refine lstepB rfl rfl rfl (run_assign .const) ?_
      refine lnil ?_
      refine xw_then ?_
      refine cw_ret ?_
      refine xw_then_ret ?_
      refine xw_ret1 Try.results75 rfl (fun w hS => ⟨rfl, hS.kept⟩)
    ·
      rw [if_neg h2]
      by_cases h3 : 12 ≤ b
      ·
        rw [if_pos h3]
        refine .mk <| enter (n := 12) Try.func75 rfl rfl rfl (by repeat (first | exact Fill.nil | apply Fill.cons)) ?_
        refine cw_seq ?_
        refine cw_region ?_
        refine lstep rfl rfl rfl (run_boxN (.tmp rfl)) ?_
        intro b1 _
        refine lstepB rfl rfl rfl (run_assign .const) ?_
        refine lnil ?_
        refine xw_then ?_
        refine cw_seq ?_
        refine cw_seq ?_
        refine cw_region ?_
        refine lstepB rfl rfl rfl (run_loadN (.tmp rfl) kd92 sz92 (by repeat (first | exact List.Mem.head _ | apply List.Mem.tail)) (by repeat (first | exact Sub.done | apply Sub.take | apply Sub.skip))) ?_
        refine lstepB rfl rfl rfl (run_call1 cb52 (.cons (.tmp rfl) .nil) (fun w _ => clayZ0 _ _ (by omega) w)) ?_
        refine lstepB rfl rfl rfl (run_geq (.tmp rfl) .const (by first | exact decide_eq_true (by omega) | exact decide_eq_false (by omega) | exact rfl)) ?_
        refine lnil ?_
        refine xw_then ?_
        refine cw_cond_false (.tmp rfl) ?_
        refine cw_skip ?_
        refine xw_then ?_
        refine cw_seq ?_
        refine cw_seq ?_
        refine cw_region ?_
        refine lstepB rfl rfl rfl (run_fieldAddr (.tmp rfl) fa92_0 (by first | exact Nat.zero_add _ | exact rfl)) ?_
        refine lstepB rfl rfl rfl (run_load1 (.tmp rfl) kd3 (by repeat (first | exact List.Mem.head _ | apply List.Mem.tail)) (by exact rfl)) ?_
        refine lstepB rfl rfl rfl (run_geq (.tmp rfl) .const (by first | exact decide_eq_true (by omega) | exact decide_eq_false (by omega) | exact rfl)) ?_
        refine lnil ?_
        refine xw_then ?_
        refine cw_cond_false (.tmp rfl) ?_
        refine cw_skip ?_
        refine xw_then ?_
        refine cw_seq ?_
        refine cw_seq ?_
        refine cw_region ?_
        refine lstepB rfl rfl rfl (run_fieldAddr (.tmp rfl) fa92_1 (by first | exact Nat.zero_add _ | exact rfl)) ?_
        refine lstepB rfl rfl rfl (run_load1 (.tmp rfl) kd3 (by repeat (first | exact List.Mem.head _ | apply List.Mem.tail)) (by exact rfl)) ?_
        refine lstepB rfl rfl rfl (run_geq (.tmp rfl) .const (by first | exact decide_eq_true (by omega) | exact decide_eq_false (by omega) | exact rfl)) ?_
        refine lnil ?_
        refine xw_then ?_
        refine cw_cond_true (.tmp rfl) ?_
        refine cw_seq ?_
        refine cw_region ?_
        refine lstepB rfl rfl rfl (run_assign .const) ?_
        refine lnil ?_
        refine xw_then ?_
        refine cw_ret ?_
        refine xw_then_ret ?_
        refine xw_ret1 Try.results75 rfl (fun w hS => ⟨rfl, hS.kept⟩)
      ·
        rw [if_neg h3]
        refine .mk <| enter (n := 12) Try.func75 rfl rfl rfl (by repeat (first | exact Fill.nil | apply Fill.cons)) ?_
        refine cw_seq ?_
        refine cw_region ?_
        refine lstep rfl rfl rfl (run_boxN (.tmp rfl)) ?_
        intro b1 _
        refine lstepB rfl rfl rfl (run_assign .const) ?_
        refine lnil ?_
        refine xw_then ?_
        refine cw_seq ?_
        refine cw_seq ?_
        refine cw_region ?_
        refine lstepB rfl rfl rfl (run_loadN (.tmp rfl) kd92 sz92 (by repeat (first | exact List.Mem.head _ | apply List.Mem.tail)) (by repeat (first | exact Sub.done | apply Sub.take | apply Sub.skip))) ?_
        refine lstepB rfl rfl rfl (run_call1 cb52 (.cons (.tmp rfl) .nil) (fun w _ => clayZ0 _ _ (by omega) w)) ?_
        refine lstepB rfl rfl rfl (run_geq (.tmp rfl) .const (by first | exact decide_eq_true (by omega) | exact decide_eq_false (by omega) | exact rfl)) ?_
        refine lnil ?_
        refine xw_then ?_
        refine cw_cond_false (.tmp rfl) ?_
        refine cw_skip ?_
        refine xw_then ?_
        refine cw_seq ?_
        refine cw_seq ?_
        refine cw_region ?_
        refine lstepB rfl rfl rfl (run_fieldAddr (.tmp rfl) fa92_0 (by first | exact Nat.zero_add _ | exact rfl)) ?_
        refine lstepB rfl rfl rfl (run_load1 (.tmp rfl) kd3 (by repeat (first | exact List.Mem.head _ | apply List.Mem.tail)) (by exact rfl)) ?_
        refine lstepB rfl rfl rfl (run_geq (.tmp rfl) .const (by first | exact decide_eq_true (by omega) | exact decide_eq_false (by omega) | exact rfl)) ?_
        refine lnil ?_
        refine xw_then ?_
        refine cw_cond_false (.tmp rfl) ?_
        refine cw_skip ?_
        refine xw_then ?_
        refine cw_seq ?_
        refine cw_seq ?_
        refine cw_region ?_
        refine lstepB rfl rfl rfl (run_fieldAddr (.tmp rfl) fa92_1 (by first | exact Nat.zero_add _ | exact rfl)) ?_
        refine lstepB rfl rfl rfl (run_load1 (.tmp rfl) kd3 (by repeat (first | exact List.Mem.head _ | apply List.Mem.tail)) (by exact rfl)) ?_
        refine lstepB rfl rfl rfl (run_geq (.tmp rfl) .const (by first | exact decide_eq_true (by omega) | exact decide_eq_false (by omega) | exact rfl)) ?_
        refine lnil ?_
        refine xw_then ?_
        refine cw_cond_false (.tmp rfl) ?_
        refine cw_skip ?_
        refine xw_then ?_
        refine cw_seq ?_
        refine cw_region ?_
        refine lstepB rfl rfl rfl (run_assign .const) ?_
        refine lnil ?_
        refine xw_then ?_
        refine cw_ret ?_
        refine xw_ret1 Try.results75 rfl (fun w hS => ⟨rfl, hS.kept⟩)
theorem ofZK (s : S3) (h : okS s) (w : World) : Gives Try.prog 75 [.agg (sC s).toArray] w (.int .i64 ((classN s.a s.b s.c : Nat) : Int)) := ofZ0 s.a s.b s.c (by have := h.small; omega) (by have := h.small; omega) w
set_option maxRecDepth 100000 in
set_option maxHeartbeats 4000000 in
theorem refClassesK (g : GroundD) (pa : Option Addr) (pc : Nat) (vg : VG g) (hso : soilsOk g = true) (k : Nat) (hk : k < placesN g) (w : World) (hp : PitsAt w pa g.pits) : Gives Try.prog 57 [.agg [.int .i64 g.long, .int .i64 g.rise, .int .i64 g.change, .slice pa g.pits.length pc].toArray, .int .i64 (k : Int)] w (.int .i64 ((classesM ((soilsL g).getD k noMix) : Nat) : Int)) := by
  have hgm : g.pits.length ≤ 1000000 := by have := vg.v.len; omega
  have hms : ∀ s, s ∈ mixesAt g k ↔ sum20 s ∧ InM ((soilsL g).getD k noMix) s := fun s => mem_soils vg hso hk
  have hmok : ∀ s, s ∈ mixesAt g k → okS s := fun s h => by
    obtain ⟨T, hT, e⟩ := (mem_mixesAt vg hk).1 h
    rw [← e]; exact (hT k hk).1
  have hmn : mixesAt g k ≠ [] := by
    obtain ⟨s, h1, h2, _⟩ := (soils_tight hso hk).alo
    exact List.ne_nil_of_mem ((hms s).2 ⟨h1, h2⟩)
  refine .mk <| enter (n := 32) Try.func57 rfl rfl rfl (by repeat (first | exact Fill.nil | apply Fill.cons)) ?_
  refine cw_seq ?_
  refine cw_region ?_
  refine lstep rfl rfl rfl (run_boxN (.tmp rfl)) ?_
  intro b2 _
  refine lstepB rfl rfl rfl (run_assign .const) ?_
  refine lnil ?_
  refine xw_then ?_
  refine cw_seq ?_
  refine cw_region ?_
  refine lstepB rfl rfl rfl (run_loadN (.tmp rfl) kd24 sz24 (by repeat (first | exact List.Mem.head _ | apply List.Mem.tail)) (by repeat (first | exact Sub.done | apply Sub.take | apply Sub.skip))) ?_
  refine lstepB rfl rfl rfl (run_move (.tmp rfl)) ?_
  refine lstep rfl rfl rfl (LR.runs (R := []) (A := []) (lr_gives cb51 (.cons (.tmp rfl) (.cons (.tmp rfl) .nil)) (fun w2 hS => mixesAtK g pa pc vg k hk w2 (hp.kept hS.kept))) (by repeat (first | exact Pick.nil | (apply Pick.cons; focus (repeat (first | exact Del.here | apply Del.there))))) (by repeat (first | exact Dels.nil | (apply Dels.cons; focus (repeat (first | exact Del.here | apply Del.there)))))) ?_
  intro q hq
  cases q
  case none =>
    exact absurd hq hmn
  case some q =>
    obtain ⟨gM, cM, rM⟩ := q
    dsimp only at hq ⊢
    obtain ⟨hM1, hM⟩ := hq
    have hcl := clsZ_classes hms
    have hml : (mixesAt g k).length ≤ cM := hM.1
    have hmx := hM.2.1
    unfold maxLen at hmx
    obtain ⟨M, hMe⟩ : ∃ M, mixesAt g k = M := ⟨_, rfl⟩
    rw [hMe] at hM hM1 hcl hms hmok hml ⊢
    rw [← hcl]
    refine lstepB rfl rfl rfl (run_assign (.tmp rfl)) ?_
    refine lnil ?_
    refine xw_then ?_
    refine cw_seq ?_
    refine cw_region ?_
    refine lstepB rfl rfl rfl (run_assign .const) ?_
    refine lnil ?_
    refine xw_then ?_
    refine cw_seq ?_
    refine cw_seq ?_
    refine cw_region ?_
    refine lstepB rfl rfl rfl (run_assign .const) ?_
    refine lnil ?_
    refine xw_then ?_
    refine cw_block ?_
    refine cw_loop (S := Nat) (fun i => [(7, .int .i64 ((i : Nat) : Int)), (6, .int .i64 ((clsZ M i : Nat) : Int))]) [(5, _)] (fun i => [(gM, Obj.cells rM.toArray 92 (0, 0))]) (fun i => i ≤ M.length) (fun i => M.length - i) 0 (Nat.zero_le _) (by repeat (first | exact Less.nil | refine Less.cons rfl ?_)) (by repeat (first | exact Pick.nil | (apply Pick.cons; focus (repeat (first | exact Del.here | apply Del.there))))) ?_
    intro i hi
    refine cw_seq ?_
    refine cw_seq ?_
    refine cw_region ?_
    refine lstepB rfl rfl rfl (run_move (.tmp rfl)) ?_
    refine lstepB rfl rfl rfl (run_move (.tmp rfl)) ?_
    refine lstepB rfl rfl rfl (run_len (.tmp rfl) sl89) ?_
    refine lstepB rfl rfl rfl (run_lss (.tmp rfl) (.tmp rfl) rfl) ?_
    refine lnil ?_
    refine xw_then ?_
    refine cw_cond_p (.tmp rfl) (fun hl => ?_) (fun hl => ?_)
    ·
      obtain ⟨s, hs⟩ : ∃ s, M[i]? = some s := ⟨_, List.getElem?_eq_getElem (by omega)⟩
      have hso := hmok s (List.mem_of_getElem? hs)
      have hsc := clsZ_succ hs
      have hlt := clsZ_lt M i (by omega)
      have hcn := classN_4 s.a s.b s.c
      obtain ⟨q1, q2⟩ := has16 ⟨_, hlt⟩ ⟨_, hcn⟩
      dsimp only at q1 q2
      have hpw : 2 ^ classN s.a s.b s.c ≤ 2 ^ 30 := Nat.pow_le_pow_right (by omega) (by omega)
      have hhas : ∀ w, Gives Try.prog 89 [.int .i64 ((clsZ M i : Nat) : Int), .int .i64 ((classN s.a s.b s.c : Nat) : Int)] w (.bool ((clsZ M i).testBit (classN s.a s.b s.c))) := fun w => hasZK _ _ (by omega) (by omega) w
      refine cw_skip ?_
      refine xw_then ?_
      refine cw_seq ?_
      refine cw_block ?_
      refine cw_seq ?_
      refine cw_region ?_
      refine lstepB rfl rfl rfl (run_move (.tmp rfl)) ?_
      refine lstepB rfl rfl rfl (run_move (.tmp rfl)) ?_
      refine lstepB rfl rfl rfl (run_indexAddr (i := i) (off' := i * 2) (.tmp rfl) (.tmp rfl) el89 (by omega) (Nat.zero_add _)) ?_
      refine lstepB rfl rfl rfl (run_loadN_own (l := sC s) (.tmp rfl) kd92 sz92 (by repeat (first | exact List.Mem.head _ | apply List.Mem.tail)) rfl (fun j' v hj' => hM.get (ssC_at _ i s hs j' v hj'))) ?_
      refine lstepB rfl rfl rfl (run_call1 cb75 (.cons (.tmp rfl) .nil) (fun w _ => ofZK s hso w)) ?_
      cases hb : (clsZ M i).testBit (classN s.a s.b s.c)
      ·
        refine lstepB rfl rfl rfl (run_assign (.tmp rfl)) ?_
        refine lnil ?_
        refine xw_then ?_
        refine cw_seq ?_
        refine cw_region ?_
        refine lstepB rfl rfl rfl (run_move (.tmp rfl)) ?_
        refine lstepB rfl rfl rfl (run_move (.tmp rfl)) ?_
        refine lstepB rfl rfl rfl (run_call1 cb89 (.cons (.tmp rfl) (.cons (.tmp rfl) .nil)) (fun w _ => (hhas w).as (congrArg Value.bool hb))) ?_
        refine lstepB rfl rfl rfl (run_not (.tmp rfl) (by first | exact Bool.not_true | exact Bool.not_false | exact rfl)) ?_
        refine lnil ?_
        refine xw_then ?_
        refine cw_cond_true (.tmp rfl) ?_
        have hadd := q2 hb
        refine cw_region ?_
        refine lstepB rfl rfl rfl (run_move (.tmp rfl)) ?_
        refine lstepB rfl rfl rfl (run_move (.tmp rfl)) ?_
        refine lstepB rfl rfl rfl (run_call1 cb64 (.cons (.tmp rfl) .nil) (fun w _ => powerZK _ (by omega) w)) ?_
        refine lstepB rfl rfl rfl (run_add (c := ((clsZ M (i + 1) : Nat) : Int)) (.tmp rfl) (.tmp rfl) (by rw [IntWalk.i64_in _ (by omega), hsc, ← hadd]; omega)) ?_
        refine lstepB rfl rfl rfl (run_assign (.tmp rfl)) ?_
        refine lnil ?_
        refine xw_in ?_
        refine xw_then ?_
        refine cw_region ?_
        refine lstepB rfl rfl rfl (run_move (.tmp rfl)) ?_
        refine lstepB rfl rfl rfl (run_add (.tmp rfl) .const (by first | exact IntWalk.i64_in _ (by omega) | exact rfl)) ?_
        refine lstepB rfl rfl rfl (run_assign (.tmp rfl)) ?_
        refine lnil ?_
        exact xw_round (i + 1) (by show i + 1 ≤ _; omega) (by show M.length - (i + 1) < M.length - i; omega) (by repeat (first | exact Less.nil | refine Less.cons rfl ?_)) (by repeat (first | exact Pick.nil | (apply Pick.cons; focus (repeat (first | exact Del.here | apply Del.there)))))
      ·
        refine lstepB rfl rfl rfl (run_assign (.tmp rfl)) ?_
        refine lnil ?_
        refine xw_then ?_
        refine cw_seq ?_
        refine cw_region ?_
        refine lstepB rfl rfl rfl (run_move (.tmp rfl)) ?_
        refine lstepB rfl rfl rfl (run_move (.tmp rfl)) ?_
        refine lstepB rfl rfl rfl (run_call1 cb89 (.cons (.tmp rfl) (.cons (.tmp rfl) .nil)) (fun w _ => (hhas w).as (congrArg Value.bool hb))) ?_
        refine lstepB rfl rfl rfl (run_not (.tmp rfl) (by first | exact Bool.not_true | exact Bool.not_false | exact rfl)) ?_
        refine lnil ?_
        refine xw_then ?_
        refine cw_cond_false (.tmp rfl) ?_
        have hsame : clsZ M (i + 1) = clsZ M i := by rw [hsc]; exact q1 hb
        rw [← hsame]
        refine cw_skip ?_
        refine xw_in ?_
        refine xw_then ?_
        refine cw_region ?_
        refine lstepB rfl rfl rfl (run_move (.tmp rfl)) ?_
        refine lstepB rfl rfl rfl (run_add (.tmp rfl) .const (by first | exact IntWalk.i64_in _ (by omega) | exact rfl)) ?_
        refine lstepB rfl rfl rfl (run_assign (.tmp rfl)) ?_
        refine lnil ?_
        exact xw_round (i + 1) (by show i + 1 ≤ _; omega) (by show M.length - (i + 1) < M.length - i; omega) (by repeat (first | exact Less.nil | refine Less.cons rfl ?_)) (by repeat (first | exact Pick.nil | (apply Pick.cons; focus (repeat (first | exact Del.here | apply Del.there)))))
    ·
      obtain rfl : i = M.length := by omega
      refine cw_exit ?_
      refine xw_then_exit ?_
      refine xw_then_exit ?_
      refine xw_in_exit ?_
      refine xw_then ?_
      refine cw_seq ?_
      refine cw_region ?_
      refine lstepB rfl rfl rfl (run_move (.tmp rfl)) ?_
      refine lstepB rfl rfl rfl (run_assign (.tmp rfl)) ?_
      refine lnil ?_
      refine xw_then ?_
      refine cw_ret ?_
      refine xw_ret1 Try.results57 rfl (fun w hS => ⟨rfl, hS.kept⟩)
end Go.Proofs.Ytfmbnobkenngaaa
