/- PegTrue: its walk. -/
import Derived.Test.YtkjciobphbcknaaTB
import Derived.Test.YtkjciobphbcknaaEZ
import Derived.Test.YtkjciobphbcknaaTT
import Derived.Test.YtkjciobphbcknaaTM
namespace Go.Proofs.Ytkjciobphbcknaa
open Go.RowKit En

def Seen (q : Post) (x y u v : Int) : Prop := q.xlo ≤ u ∧ u ≤ q.xhi ∧ q.ylo ≤ v ∧ v ≤ q.yhi ∧ (u < x ∨ u = x ∧ v < y)
structure FarI (D : Int → Int → Int) (q : Post) (x y b : Int) : Prop where
  lo : -1 ≤ b
  none : b < 0 → ∀ u v, ¬ Seen q x y u v
  low : ∀ u v, Seen q x y u v → b ≤ D u v
  is : 0 ≤ b → ∃ u v, Seen q x y u v ∧ b = D u v
theorem FarI.start (D : Int → Int → Int) (q : Post) : FarI D q q.xlo q.ylo (-1) :=
  ⟨by omega, fun _ u v h => by unfold Seen at h; omega, fun u v h => by unfold Seen at h; omega, fun h => by omega⟩
theorem FarI.same {D : Int → Int → Int} {q : Post} {x y x' y' b : Int} (h : FarI D q x y b) (hs : ∀ u v, Seen q x' y' u v ↔ Seen q x y u v) : FarI D q x' y' b :=
  ⟨h.lo, fun hb u v hv => h.none hb u v ((hs u v).1 hv), fun u v hv => h.low u v ((hs u v).1 hv), fun hb => by obtain ⟨u, v, h1, h2⟩ := h.is hb; exact ⟨u, v, (hs u v).2 h1, h2⟩⟩
theorem FarI.col {D : Int → Int → Int} {q : Post} {x y b : Int} (h : FarI D q x y b) (hy : ¬ y ≤ q.yhi) : FarI D q (x + 1) q.ylo b := h.same fun u v => by unfold Seen; omega
theorem FarI.stepD {D : Int → Int → Int} {q : Post} {x y b : Int} (h : FarI D q x y b) (h0 : 0 ≤ D x y) (hx : q.xlo ≤ x ∧ x ≤ q.xhi) (hy : q.ylo ≤ y ∧ y ≤ q.yhi) (hb : b < 0 ∨ D x y < b) : FarI D q x (y + 1) (D x y) :=
  ⟨by omega, fun hn => by omega, fun u v hv => by
    by_cases e : u = x ∧ v = y
    · rw [e.1, e.2]; exact Int.le_refl _
    · have hs : Seen q x y u v := by unfold Seen at hv ⊢; omega
      rcases hb with hb | hb
      · exact absurd hs (h.none hb u v)
      · have := h.low u v hs; omega, fun _ => ⟨x, y, by unfold Seen; omega, rfl⟩⟩
theorem FarI.stepN {D : Int → Int → Int} {q : Post} {x y b : Int} (h : FarI D q x y b) (hb : 0 ≤ b) (hd : ¬ D x y < b) : FarI D q x (y + 1) b :=
  ⟨h.lo, fun hn => by omega, fun u v hv => by
    by_cases e : u = x ∧ v = y
    · rw [e.1, e.2]; omega
    · exact h.low u v (by unfold Seen at hv ⊢; omega), fun _ => by obtain ⟨u, v, h1, h2⟩ := h.is hb; exact ⟨u, v, by unfold Seen at h1 ⊢; omega, h2⟩⟩
theorem sq_mono {a x : Int} (h0 : 0 ≤ a) (h : a ≤ x ∨ a ≤ -x) : a * a ≤ x * x := by
  rcases h with h | h
  · exact Int.mul_le_mul h h h0 (by omega)
  · have := Int.mul_le_mul h h h0 (by omega); rwa [Int.neg_mul_neg] at this
theorem beyond_sq {n lo hi u : Int} (h : lo ≤ u ∧ u ≤ hi) : beyondI n lo hi * beyondI n lo hi ≤ (n - u) * (n - u) := sq_mono (by unfold beyondI; omega) (by unfold beyondI; omega)
theorem beyond_at {n lo hi : Int} (h : lo ≤ hi) : ∃ u, lo ≤ u ∧ u ≤ hi ∧ (n - u) * (n - u) = beyondI n lo hi * beyondI n lo hi := by
  by_cases h1 : n < lo
  · exact ⟨lo, by omega, h, by rw [show beyondI n lo hi = -(n - lo) by unfold beyondI; omega, Int.neg_mul_neg]⟩
  · by_cases h2 : hi < n
    · exact ⟨hi, h, by omega, by rw [show beyondI n lo hi = n - hi by unfold beyondI; omega]⟩
    · exact ⟨n, by omega, by omega, by rw [show beyondI n lo hi = n - n by unfold beyondI; omega]⟩
theorem FarI.done {s : Pl} {q : Post} {x b : Int} (h : FarI (fun u v => sqI s.x s.y u v) q x q.ylo b) (hx : ¬ x ≤ q.xhi) (h1 : q.xlo ≤ q.xhi) (h2 : q.ylo ≤ q.yhi) : b = backI s q := by
  obtain ⟨u, a1, a2, a3⟩ := beyond_at (n := s.x) h1
  obtain ⟨v, b1, b2, b3⟩ := beyond_at (n := s.y) h2
  have hs : Seen q x q.ylo u v := by unfold Seen; omega
  have e := h.low u v hs
  have hb : 0 ≤ b := by
    by_cases hb : 0 ≤ b
    · exact hb
    · exact absurd hs (h.none (by omega) u v)
  obtain ⟨u', v', c1, c2⟩ := h.is hb
  unfold Seen at c1
  have d1 := beyond_sq (n := s.x) (lo := q.xlo) (hi := q.xhi) (u := u') (by omega)
  have d2 := beyond_sq (n := s.y) (lo := q.ylo) (hi := q.yhi) (u := v') (by omega)
  simp only [sqI, a3, b3] at e
  simp only [sqI] at c2
  unfold backI
  omega
structure LF where
  x : Int
  b : Int
theorem sqI_nonneg (a b c d : Int) : 0 ≤ sqI a b c d := by
  have e : ∀ u : Int, 0 ≤ u * u := fun u => by
    rcases Int.le_total 0 u with h | h
    · exact Int.mul_nonneg h h
    · have := Int.mul_nonneg (show 0 ≤ -u by omega) (show 0 ≤ -u by omega); rwa [Int.neg_mul_neg] at this
  have := e (a - c); have := e (b - d); unfold sqI; omega
set_option maxRecDepth 100000 in
set_option maxHeartbeats 4000000 in
theorem far_any (s : Pl) (q : Post) (hs : 0 ≤ s.x ∧ s.x ≤ 15 ∧ 0 ≤ s.y ∧ s.y ≤ 15) (hq1 : q.xlo ≤ q.xhi) (hq2 : q.ylo ≤ q.yhi) (hq3 : 0 ≤ q.xlo ∧ q.xhi ≤ 15 ∧ 0 ≤ q.ylo ∧ q.yhi ≤ 15) (w : World) : Gives Try.prog 32 [.agg [.int .i64 s.x, .int .i64 s.y].toArray, .agg [.int .i64 q.xlo, .int .i64 q.xhi, .int .i64 q.ylo, .int .i64 q.yhi].toArray] w (.int .i64 (backI s q)) := by
  refine .mk <| enter (n := 43) Try.func32 rfl rfl rfl (by repeat (first | exact Fill.nil | apply Fill.cons)) ?_
  refine cw_seq ?_
  refine cw_region ?_
  refine lstep rfl rfl rfl (run_boxN (.tmp rfl)) ?_
  intro b2 _
  refine lstep rfl rfl rfl (run_boxN (.tmp rfl)) ?_
  intro b3 _
  refine lstepB rfl rfl rfl (run_assign .const) ?_
  refine lnil ?_
  refine xw_then ?_
  refine cw_seq ?_
  refine cw_region ?_
  refine lstepB rfl rfl rfl (run_assign .const) ?_
  refine lnil ?_
  refine xw_then ?_
  refine cw_seq ?_
  refine cw_seq ?_
  refine cw_region ?_
  refine lstepB rfl rfl rfl (run_fieldAddr (.tmp rfl) fa56_0 (by first | exact Nat.zero_add _ | exact rfl)) ?_
  refine lstepB rfl rfl rfl (run_fieldAddr (.tmp rfl) fa32_0 (by first | exact Nat.zero_add _ | exact rfl)) ?_
  refine lstepB rfl rfl rfl (run_load1 (.tmp rfl) kd3 (by repeat (first | exact List.Mem.head _ | apply List.Mem.tail)) (by exact rfl)) ?_
  refine lstepB rfl rfl rfl (run_assign (.tmp rfl)) ?_
  refine lnil ?_
  refine xw_then ?_
  refine cw_block ?_
  refine cw_loop (S := LF) (fun z => [(6, .int .i64 z.x), (5, .int .i64 z.b)]) [(2, _), (3, _), (4, _)] (fun z => [(b3, Obj.cells [.int .i64 q.xlo, .int .i64 q.xhi, .int .i64 q.ylo, .int .i64 q.yhi].toArray 56 (0, 0)), (b2, Obj.cells [.int .i64 s.x, .int .i64 s.y].toArray 52 (0, 0))]) (fun z => FarI (fun u v => sqI s.x s.y u v) q z.x q.ylo z.b ∧ q.xlo ≤ z.x ∧ z.x ≤ q.xhi + 1) (fun z => (q.xhi + 1 - z.x).toNat) ⟨q.xlo, -1⟩ ⟨FarI.start _ q, Int.le_refl _, by simp only; omega⟩ (by repeat (first | exact Less.nil | refine Less.cons rfl ?_)) (by repeat (first | exact Pick.nil | (apply Pick.cons; focus (repeat (first | exact Del.here | apply Del.there))))) ?_
  intro z hz
  obtain ⟨x, b⟩ := z
  obtain ⟨hI, hx, hx2⟩ := hz
  simp only at hI hx hx2
  dsimp only
  refine cw_seq ?_
  refine cw_seq ?_
  refine cw_region ?_
  refine lstepB rfl rfl rfl (run_move (.tmp rfl)) ?_
  refine lstepB rfl rfl rfl (run_fieldAddr (.tmp rfl) fa56_0 (by first | exact Nat.zero_add _ | exact rfl)) ?_
  refine lstepB rfl rfl rfl (run_fieldAddr (.tmp rfl) fa32_1 (by first | exact Nat.zero_add _ | exact rfl)) ?_
  refine lstepB rfl rfl rfl (run_load1 (.tmp rfl) kd3 (by repeat (first | exact List.Mem.head _ | apply List.Mem.tail)) (by exact rfl)) ?_
  refine lstepB rfl rfl rfl (run_leq (.tmp rfl) (.tmp rfl) (by first | exact decide_eq_true (by omega) | exact decide_eq_false (by omega) | exact rfl)) ?_
  refine lnil ?_
  refine xw_then ?_
  refine cw_cond_p (.tmp rfl) (fun hle => ?_) (fun hgt => ?_)
  ·
    refine cw_skip ?_
    refine xw_then ?_
    refine cw_seq ?_
    refine cw_block ?_
    refine cw_seq ?_
    refine cw_region ?_
    refine lstepB rfl rfl rfl (run_fieldAddr (.tmp rfl) fa56_1 (by first | exact Nat.zero_add _ | exact rfl)) ?_
    refine lstepB rfl rfl rfl (run_fieldAddr (.tmp rfl) fa32_0 (by first | exact Nat.zero_add _ | exact rfl)) ?_
    refine lstepB rfl rfl rfl (run_load1 (.tmp rfl) kd3 (by repeat (first | exact List.Mem.head _ | apply List.Mem.tail)) (by exact rfl)) ?_
    refine lstepB rfl rfl rfl (run_assign (.tmp rfl)) ?_
    refine lnil ?_
    refine xw_then ?_
    refine cw_block ?_
    refine cw_loop (S := LF) (fun z => [(7, .int .i64 z.x), (5, .int .i64 z.b)]) [(2, _), (3, _), (4, _), (6, _)] (fun z => [(b3, Obj.cells [.int .i64 q.xlo, .int .i64 q.xhi, .int .i64 q.ylo, .int .i64 q.yhi].toArray 56 (0, 0)), (b2, Obj.cells [.int .i64 s.x, .int .i64 s.y].toArray 52 (0, 0))]) (fun z => FarI (fun u v => sqI s.x s.y u v) q x z.x z.b ∧ q.ylo ≤ z.x ∧ z.x ≤ q.yhi + 1) (fun z => (q.yhi + 1 - z.x).toNat) ⟨q.ylo, b⟩ ⟨hI, Int.le_refl _, by simp only; omega⟩ (by repeat (first | exact Less.nil | refine Less.cons rfl ?_)) (by repeat (first | exact Pick.nil | (apply Pick.cons; focus (repeat (first | exact Del.here | apply Del.there))))) ?_
    intro z hz
    obtain ⟨y, c⟩ := z
    obtain ⟨hJ, hy, hy2⟩ := hz
    simp only at hJ hy hy2
    dsimp only
    refine cw_seq ?_
    refine cw_seq ?_
    refine cw_region ?_
    refine lstepB rfl rfl rfl (run_move (.tmp rfl)) ?_
    refine lstepB rfl rfl rfl (run_fieldAddr (.tmp rfl) fa56_1 (by first | exact Nat.zero_add _ | exact rfl)) ?_
    refine lstepB rfl rfl rfl (run_fieldAddr (.tmp rfl) fa32_1 (by first | exact Nat.zero_add _ | exact rfl)) ?_
    refine lstepB rfl rfl rfl (run_load1 (.tmp rfl) kd3 (by repeat (first | exact List.Mem.head _ | apply List.Mem.tail)) (by exact rfl)) ?_
    refine lstepB rfl rfl rfl (run_leq (.tmp rfl) (.tmp rfl) (by first | exact decide_eq_true (by omega) | exact decide_eq_false (by omega) | exact rfl)) ?_
    refine lnil ?_
    refine xw_then ?_
    refine cw_cond_p (.tmp rfl) (fun hle2 => ?_) (fun hgt2 => ?_)
    ·
      have hle3 : y ≤ q.yhi := hle2
      have hle4 : x ≤ q.xhi := hle
      have h0 := sqI_nonneg s.x s.y x y
      by_cases hc : c < 0
      ·
        refine cw_skip ?_
        refine xw_then ?_
        refine cw_seq ?_
        refine cw_block ?_
        refine cw_seq ?_
        refine cw_region ?_
        refine lstepB rfl rfl rfl (run_loadN (.tmp rfl) kd52 sz52 (by repeat (first | exact List.Mem.head _ | apply List.Mem.tail)) (by repeat (first | exact Sub.done | apply Sub.take | apply Sub.skip))) ?_
        refine lstepB rfl rfl rfl (run_move (.tmp rfl)) ?_
        refine lstepB rfl rfl rfl (run_move (.tmp rfl)) ?_
        refine lstepB rfl rfl rfl (run_build_at (.cons (.tmp rfl) (.cons (.tmp rfl) .nil)) (fun w => bd52_0_1 w)) ?_
        refine lstepB rfl rfl rfl (run_call1 cb33 (.cons (.tmp rfl) (.cons (.tmp rfl) .nil)) (fun w _ => square_any _ _ _ _ (by omega) (by omega) (by omega) (by omega) w)) ?_
        refine lstepB rfl rfl rfl (run_assign (.tmp rfl)) ?_
        refine lnil ?_
        refine xw_then ?_
        refine cw_seq ?_
        refine cw_region ?_
        refine lstepB rfl rfl rfl (run_move (.tmp rfl)) ?_
        refine lstepB rfl rfl rfl (run_lss (.tmp rfl) .const (by first | exact decide_eq_true (by omega) | exact decide_eq_false (by omega) | exact rfl)) ?_
        refine lstepB rfl rfl rfl (run_move (.tmp rfl)) ?_
        refine lskip rfl rfl rfl rfl rfl rfl rfl ?_
        refine lskip rfl rfl rfl rfl rfl rfl rfl ?_
        refine lskip rfl rfl rfl rfl rfl rfl rfl ?_
        refine lstepB rfl rfl rfl (by first | exact run_pick_true (.tmp rfl) .const | exact run_pick_false (.tmp rfl) (.tmp rfl)) ?_
        refine lnil ?_
        refine xw_then ?_
        refine cw_cond_true (.tmp rfl) ?_
        refine cw_region ?_
        refine lstepB rfl rfl rfl (run_move (.tmp rfl)) ?_
        refine lstepB rfl rfl rfl (run_assign (.tmp rfl)) ?_
        refine lnil ?_
        refine xw_in ?_
        refine xw_then ?_
        refine cw_region ?_
        refine lstepB rfl rfl rfl (run_move (.tmp rfl)) ?_
        refine lstepB rfl rfl rfl (run_add (.tmp rfl) .const (by first | exact IntWalk.i64_in _ (by omega) | exact rfl)) ?_
        refine lstepB rfl rfl rfl (run_assign (.tmp rfl)) ?_
        refine lnil ?_
        exact xw_round ⟨y + 1, _⟩ ⟨hJ.stepD h0 ⟨hx, hle4⟩ ⟨hy, hle3⟩ (.inl hc), by simp only; omega, by simp only; omega⟩ (by simp only; omega) (by repeat (first | exact Less.nil | refine Less.cons rfl ?_)) (by repeat (first | exact Pick.nil | (apply Pick.cons; focus (repeat (first | exact Del.here | apply Del.there)))))
      ·
        refine cw_skip ?_
        refine xw_then ?_
        refine cw_seq ?_
        refine cw_block ?_
        refine cw_seq ?_
        refine cw_region ?_
        refine lstepB rfl rfl rfl (run_loadN (.tmp rfl) kd52 sz52 (by repeat (first | exact List.Mem.head _ | apply List.Mem.tail)) (by repeat (first | exact Sub.done | apply Sub.take | apply Sub.skip))) ?_
        refine lstepB rfl rfl rfl (run_move (.tmp rfl)) ?_
        refine lstepB rfl rfl rfl (run_move (.tmp rfl)) ?_
        refine lstepB rfl rfl rfl (run_build_at (.cons (.tmp rfl) (.cons (.tmp rfl) .nil)) (fun w => bd52_0_1 w)) ?_
        refine lstepB rfl rfl rfl (run_call1 cb33 (.cons (.tmp rfl) (.cons (.tmp rfl) .nil)) (fun w _ => square_any _ _ _ _ (by omega) (by omega) (by omega) (by omega) w)) ?_
        refine lstepB rfl rfl rfl (run_assign (.tmp rfl)) ?_
        refine lnil ?_
        refine xw_then ?_
        refine cw_seq ?_
        refine cw_region ?_
        refine lstepB rfl rfl rfl (run_move (.tmp rfl)) ?_
        refine lstepB rfl rfl rfl (run_lss (.tmp rfl) .const (by first | exact decide_eq_true (by omega) | exact decide_eq_false (by omega) | exact rfl)) ?_
        refine lstepB rfl rfl rfl (run_move (.tmp rfl)) ?_
        refine lyes rfl rfl rfl rfl ?_
        refine gstepB rfl rfl (run_move (.tmp rfl)) ?_
        refine lyes rfl rfl rfl rfl ?_
        refine gstepB rfl rfl (run_move (.tmp rfl)) ?_
        refine lyes rfl rfl rfl rfl ?_
        refine gstepB rfl rfl (run_lss (.tmp rfl) (.tmp rfl) (by first | exact decide_eq_true (by omega) | exact decide_eq_false (by omega) | exact rfl)) ?_
        refine lstepB rfl rfl rfl (by first | exact run_pick_true (.tmp rfl) .const | exact run_pick_false (.tmp rfl) (.tmp rfl)) ?_
        refine lnil ?_
        refine xw_then ?_
        refine cw_cond_p (.tmp rfl) (fun hlt => ?_) (fun hlt => ?_)
        ·
          refine cw_region ?_
          refine lstepB rfl rfl rfl (run_move (.tmp rfl)) ?_
          refine lstepB rfl rfl rfl (run_assign (.tmp rfl)) ?_
          refine lnil ?_
          refine xw_in ?_
          refine xw_then ?_
          refine cw_region ?_
          refine lstepB rfl rfl rfl (run_move (.tmp rfl)) ?_
          refine lstepB rfl rfl rfl (run_add (.tmp rfl) .const (by first | exact IntWalk.i64_in _ (by omega) | exact rfl)) ?_
          refine lstepB rfl rfl rfl (run_assign (.tmp rfl)) ?_
          refine lnil ?_
          exact xw_round ⟨y + 1, _⟩ ⟨hJ.stepD h0 ⟨hx, hle4⟩ ⟨hy, hle3⟩ (.inr hlt), by simp only; omega, by simp only; omega⟩ (by simp only; omega) (by repeat (first | exact Less.nil | refine Less.cons rfl ?_)) (by repeat (first | exact Pick.nil | (apply Pick.cons; focus (repeat (first | exact Del.here | apply Del.there)))))
        ·
          refine cw_skip ?_
          refine xw_in ?_
          refine xw_then ?_
          refine cw_region ?_
          refine lstepB rfl rfl rfl (run_move (.tmp rfl)) ?_
          refine lstepB rfl rfl rfl (run_add (.tmp rfl) .const (by first | exact IntWalk.i64_in _ (by omega) | exact rfl)) ?_
          refine lstepB rfl rfl rfl (run_assign (.tmp rfl)) ?_
          refine lnil ?_
          exact xw_round ⟨y + 1, c⟩ ⟨hJ.stepN (by omega) hlt, by simp only; omega, by simp only; omega⟩ (by simp only; omega) (by repeat (first | exact Less.nil | refine Less.cons rfl ?_)) (by repeat (first | exact Pick.nil | (apply Pick.cons; focus (repeat (first | exact Del.here | apply Del.there)))))
    ·
      refine cw_exit ?_
      refine xw_then_exit ?_
      refine xw_then_exit ?_
      refine xw_in_exit ?_
      refine xw_in ?_
      refine xw_then ?_
      refine cw_region ?_
      refine lstepB rfl rfl rfl (run_move (.tmp rfl)) ?_
      refine lstepB rfl rfl rfl (run_add (.tmp rfl) .const (by first | exact IntWalk.i64_in _ (by omega) | exact rfl)) ?_
      refine lstepB rfl rfl rfl (run_assign (.tmp rfl)) ?_
      refine lnil ?_
      exact xw_round ⟨x + 1, c⟩ ⟨hJ.col (by first | exact hgt2 | omega), by simp only; omega, by simp only; omega⟩ (by simp only; omega) (by repeat (first | exact Less.nil | refine Less.cons rfl ?_)) (by repeat (first | exact Pick.nil | (apply Pick.cons; focus (repeat (first | exact Del.here | apply Del.there)))))
  ·
    refine cw_exit ?_
    refine xw_then_exit ?_
    refine xw_then_exit ?_
    refine xw_in_exit ?_
    refine xw_then ?_
    refine cw_seq ?_
    refine cw_region ?_
    refine lstepB rfl rfl rfl (run_move (.tmp rfl)) ?_
    refine lstepB rfl rfl rfl (run_assign (.tmp rfl)) ?_
    refine lnil ?_
    refine xw_then ?_
    refine cw_ret ?_
    refine xw_ret1 Try.results32 rfl (fun w hS => ⟨?_, hS.kept⟩)
    rw [hI.done (by first | exact hgt | omega) hq1 hq2]
end Go.Proofs.Ytkjciobphbcknaa
namespace Go.Proofs.Ytkjciobphbcknaa
open Go.RowKit En

section
variable {P : Program} {T : Nat → Prop} {H : Heap} {E : Env} {w0 : World} {x y : Operand} {d : Option Tmp} {tx ty tyy : TypeId} {pos : String} {af : Array Edge} {g : Option (Nat × Bool)}
theorem run_shr_small {S m : Nat} (hx : Ev E x (.int .i64 (S : Int))) (hy : Ev E y (.int .i64 (m : Int))) (hS : S < 8) (hm : m < 3) : RunB P E w0 T H ⟨d, .binOp .shr tx x y tyy, ty, pos, af, g⟩ (.int .i64 ((S / 2 ^ m : Nat) : Int)) := fun ρ w hρ _ => by
  have e := hρ x _ (by simp [Op.operands]) hx
  have e' := hρ y _ (by simp [Op.operands]) hy
  have h1 : ¬ ((m : Int) < 0) := by omega
  have h2 : min m 64 = m := by omega
  have h3 : Int.fdiv (S : Int) (2 ^ m) = ((S / 2 ^ m : Nat) : Int) := by
    have := (by decide +kernel : ∀ a : Fin 8, ∀ b : Fin 3, Int.fdiv (a.1 : Int) (2 ^ b.1) = ((a.1 / 2 ^ b.1 : Nat) : Int)) ⟨S, hS⟩ ⟨m, hm⟩
    exact this
  simp only [execOp, e, e', Done, go_sem, eqGuard, binOp, Op.shift, h1, if_false, Int.toNat_natCast, IntKind.bits, h2, h3]
  exact ⟨rfl, Below.refl _ _⟩
theorem run_and_one {a : Nat} (hx : Ev E x (.int .i64 (a : Int))) (hy : Ev E y (.int .i64 1)) (ha : a < 8) : RunB P E w0 T H ⟨d, .binOp .and tx x y tyy, ty, pos, af, g⟩ (.int .i64 ((a % 2 : Nat) : Int)) := fun ρ w hρ _ => by
  have e := hρ x _ (by simp [Op.operands]) hx
  have e' := hρ y _ (by simp [Op.operands]) hy
  have h3 : bits .and .i64 (a : Int) 1 = ((a % 2 : Nat) : Int) := by
    have := (by decide +kernel : ∀ b : Fin 8, bits .and .i64 (b.1 : Int) 1 = ((b.1 % 2 : Nat) : Int)) ⟨a, ha⟩
    exact this
  simp [execOp, e, e', Done, go_sem, Below.refl, eqGuard, binOp, h3]
theorem run_and_bit {a : Nat} (hx : Ev E x (.int .i64 (a : Int))) (hy : Ev E y (.int .i64 1)) (ha : a < 8) (h : a % 2 = 1) : RunB P E w0 T H ⟨d, .binOp .and tx x y tyy, ty, pos, af, g⟩ (.int .i64 1) := by
  have := run_and_one (P := P) (w0 := w0) (T := T) (H := H) (d := d) (tx := tx) (tyy := tyy) (ty := ty) (pos := pos) (af := af) (g := g) hx hy ha
  rw [h] at this; exact this
end
theorem aliveK (w : World) : Gives Try.prog 12 [] w (.bool true) := ⟨alive_any w⟩
section
variable {p : PegsD} {qs : List Pl} {m : Int} {pa la : Option Addr} {pc lc : Nat} {w1 w : World} (hD : MadeD p qs m) (hp : PegsIn w1 p pa la) (hb : Below w1.heap.size w1 w)
include hD hp hb
theorem movedK {S u : Int} {b : Bool} (h : movedR p = .ok (u, S, b)) : Gives Try.prog 13 [.agg [.int .i64 p.side, .slice pa p.ps.length pc, .slice la p.ls.length lc].toArray] w (.tuple [.int .i64 S, .bool b, .int .i64 0].toArray) :=
  ⟨(moved_any p pa la pc lc w (by have := hD.n3; omega) (by have := hD.l6; omega) (hp.kept hb)).mono fun e w' ⟨h1, k⟩ => ⟨by rw [h1, h]; rfl, k⟩⟩
theorem whereK {i a b c d : Int} (h : whereR p i = .ok ((a, b), (c, d))) : Gives Try.prog 15 [.agg [.int .i64 p.side, .slice pa p.ps.length pc, .slice la p.ls.length lc].toArray, .int .i64 i] w (.tuple [.agg [.int .i64 a, .int .i64 b].toArray, .agg [.int .i64 c, .int .i64 d].toArray, .int .i64 0].toArray) :=
  ⟨(where_any p i pa la pc lc w (by have := hD.n3; omega) (by have := hD.l6; omega) (hp.kept hb)).mono fun e w' ⟨h1, k⟩ => ⟨by rw [h1, h]; rfl, k⟩⟩
theorem placesK {i n : Int} (h : placesR p i = .ok n) : Gives Try.prog 17 [.agg [.int .i64 p.side, .slice pa p.ps.length pc, .slice la p.ls.length lc].toArray, .int .i64 i] w (.tuple [.int .i64 n, .int .i64 0].toArray) :=
  ⟨(places_any p i pa la pc lc w (by have := hD.n3; omega) (by have := hD.l6; omega) (hp.kept hb)).mono fun e w' ⟨h1, k⟩ => ⟨by rw [h1, h]; rfl, k⟩⟩
theorem backK {i a b n : Int} (h : valOf (0, 0) (backR p i) = (a, b)) (h2 : errOf (backR p i) = n) : Gives Try.prog 19 [.agg [.int .i64 p.side, .slice pa p.ps.length pc, .slice la p.ls.length lc].toArray, .int .i64 i] w (.tuple [.agg [.int .i64 a, .int .i64 b].toArray, .int .i64 n].toArray) :=
  ⟨(back_any p i pa la pc lc w (by have := hD.n3; omega) (by have := hD.l6; omega) (hp.kept hb)).mono fun e w' ⟨h1, k⟩ => ⟨by rw [h1, h, h2]; rfl, k⟩⟩
theorem proofK {i x n : Int} (h : valOf 0 (proofR p i) = x) (h2 : errOf (proofR p i) = n) : Gives Try.prog 25 [.agg [.int .i64 p.side, .slice pa p.ps.length pc, .slice la p.ls.length lc].toArray, .int .i64 i] w (.tuple [.int .i64 x, .int .i64 n].toArray) :=
  ⟨(proof_any p i pa la pc lc w (by have := hD.n3; omega) (by have := hD.l6; omega) (hp.kept hb)).mono fun e w' ⟨h1, k⟩ => ⟨by rw [h1, h, h2], k⟩⟩
theorem apartK {i j a b : Int} (h : apartR p i j = .ok (a, b)) : Gives Try.prog 21 [.agg [.int .i64 p.side, .slice pa p.ps.length pc, .slice la p.ls.length lc].toArray, .int .i64 i, .int .i64 j] w (.tuple [.agg [.int .i64 a, .int .i64 b].toArray, .int .i64 0].toArray) :=
  ⟨(apartF_any p i j pa la pc lc w (by have := hD.n3; omega) (by have := hD.l6; omega) (hp.kept hb)).mono fun e w' ⟨h1, k⟩ => ⟨by rw [h1, h]; rfl, k⟩⟩
theorem areaK {i j k a b : Int} (h : areaR p i j k = .ok (a, b)) : Gives Try.prog 23 [.agg [.int .i64 p.side, .slice pa p.ps.length pc, .slice la p.ls.length lc].toArray, .int .i64 i, .int .i64 j, .int .i64 k] w (.tuple [.agg [.int .i64 a, .int .i64 b].toArray, .int .i64 0].toArray) :=
  ⟨(areaF_any p i j k pa la pc lc w (by have := hD.n3; omega) (by have := hD.l6; omega) (hp.kept hb)).mono fun e w' ⟨h1, k⟩ => ⟨by rw [h1, h]; rfl, k⟩⟩
end
section
variable {p : PegsD} {qs : List Pl} {m : Int} (h : MadeD p qs m)
include h
theorem MadeD.backAny (i : Nat) : ∃ a b n : Int, valOf (0, 0) (backR p i) = (a, b) ∧ errOf (backR p i) = n ∧ ((i : Int) = m → ∀ s q, qs[i]? = some s → p.ps[i]? = some q → n = 0 ∧ a ≤ backI s q ∧ backI s q ≤ b) := by
  by_cases hi : (i : Int) = m ∧ i < qs.length
  · obtain ⟨hi, hlt⟩ := hi
    have hlen := h.good.len
    obtain ⟨s, hs⟩ : ∃ s, qs[i]? = some s := ⟨_, List.getElem?_eq_getElem hlt⟩
    obtain ⟨q, hq⟩ : ∃ q, p.ps[i]? = some q := ⟨_, List.getElem?_eq_getElem (by omega)⟩
    obtain ⟨a, b, h1, h2, h3⟩ := h.back hi hs hq
    refine ⟨a, b, 0, by rw [h1]; rfl, by rw [h1]; rfl, fun _ s' q' hs' hq' => ?_⟩
    rw [hs] at hs'; rw [hq] at hq'; cases hs'; cases hq'
    exact ⟨rfl, h2, h3⟩
  · exact ⟨_, _, _, rfl, rfl, fun e s q hs _ => absurd ⟨e, (List.getElem?_eq_some_iff.1 hs).1⟩ hi⟩
theorem MadeD.proofAny {i : Nat} (hi : i < p.ps.length) : ∃ x n : Int, valOf 0 (proofR p i) = x ∧ errOf (proofR p i) = n ∧ (n = 4 ∧ x = 0 ∨ n = 0 ∧ (i : Int) = m) := by
  rcases h.proof hi with e | ⟨x, e, hm⟩
  · exact ⟨0, 4, by rw [e]; rfl, by rw [e]; rfl, .inl ⟨rfl, rfl⟩⟩
  · exact ⟨x, 0, by rw [e]; rfl, by rw [e]; rfl, .inr ⟨rfl, hm⟩⟩
end
theorem testBit_div {S k : Nat} (h : S.testBit k = true) : S / 2 ^ k % 2 = 1 := by
  rw [Nat.testBit_eq_decide_div_mod_eq] at h; simpa using h
/-- Places at a block that is known. -/
def QlsAt (w : World) (b o : Nat) (L : List Pl) : Prop := ∀ i s, L[i]? = some s → ∀ j v, [Value.int .i64 s.x, .int .i64 s.y][j]? = some v → w.cell? ⟨b, o + i * 2 + j, none⟩ = some v
theorem QlsIn.at_ {w : World} {pa : Option Addr} {L : List Pl} (h : QlsIn w pa L) (hne : 0 < L.length) : ∃ b o, pa = some ⟨b, o, none⟩ ∧ b < w.heap.size ∧ QlsAt w b o L := by
  obtain ⟨b, o, rfl, hb, _, _⟩ := h 0 _ (List.getElem?_eq_getElem hne)
  refine ⟨b, o, rfl, hb, fun i s hs j v hj => ?_⟩
  obtain ⟨b', o', e, _, c1, c2⟩ := h i s hs
  simp only [Option.some.injEq, Addr.mk.injEq] at e
  obtain ⟨rfl, rfl, _⟩ := e
  match j, hj with
  | 0, hj => simp only [List.getElem?_cons_zero] at hj; rw [← hj]; exact c1
  | 1, hj => simp only [List.getElem?_cons_succ, List.getElem?_cons_zero] at hj; rw [← hj]; exact c2
  | j + 2, hj => simp at hj
def PsAt (w : World) (b o : Nat) (L : List Post) : Prop := ∀ i s, L[i]? = some s → ∀ j v, [Value.int .i64 s.xlo, .int .i64 s.xhi, .int .i64 s.ylo, .int .i64 s.yhi][j]? = some v → w.cell? ⟨b, o + i * 4 + j, none⟩ = some v
theorem postsIn_at {w : World} {pa : Option Addr} {L : List Post} (h : PostsIn w pa L) (hne : 0 < L.length) : ∃ b o, pa = some ⟨b, o, none⟩ ∧ b < w.heap.size ∧ PsAt w b o L := by
  obtain ⟨b, o, rfl, hb, _, _⟩ := h 0 _ (List.getElem?_eq_getElem hne)
  refine ⟨b, o, rfl, hb, fun i s hs j v hj => ?_⟩
  obtain ⟨b', o', e, _, c1, c2, c3, c4⟩ := h i s hs
  simp only [Option.some.injEq, Addr.mk.injEq] at e
  obtain ⟨rfl, rfl, _⟩ := e
  match j, hj with
  | 0, hj => simp only [List.getElem?_cons_zero] at hj; rw [← hj]; exact c1
  | 1, hj => simp only [List.getElem?_cons_succ, List.getElem?_cons_zero] at hj; rw [← hj]; exact c2
  | 2, hj => simp only [List.getElem?_cons_succ, List.getElem?_cons_zero] at hj; rw [← hj]; exact c3
  | 3, hj => simp only [List.getElem?_cons_succ, List.getElem?_cons_zero] at hj; rw [← hj]; exact c4
  | j + 4, hj => simp at hj
theorem made_base {w0 w2 w' : World} {A B : Heap} (hS : Below w0.heap.size w0 w2) (h : Tr w2 w' A B) (hA : ∀ x, x ∈ A → w0.heap.size ≤ x.1) : Below w0.heap.size w0 w' :=
  ⟨h.os.trans hS.os, h.tape.trans hS.tape, h.output.trans hS.output, Nat.le_trans hS.size h.size, fun k hk => (h.rest k (Nat.lt_of_lt_of_le hk hS.size) (fun x hx e => absurd (hA x hx) (by omega))).trans (hS.block k hk)⟩
theorem below_two {w w1 w2 : World} (h : Below w.heap.size w w1) (k : Below w1.heap.size w1 w2) : Below w.heap.size w w2 :=
  ⟨k.os.trans h.os, k.tape.trans h.tape, k.output.trans h.output, Nat.le_trans h.size k.size, fun i hi => (k.block i (Nat.lt_of_lt_of_le hi h.size)).trans (h.block i hi)⟩
theorem ByIn.block {w : World} {b0 o0 len : Nat} (h : ByIn w b0 o0 len) (h0 : 0 < len) : b0 < w.heap.size := by
  obtain ⟨x, _, _, hx⟩ := h 0 h0
  by_cases hb : b0 < w.heap.size
  · exact hb
  · exfalso
    have : w.heap[b0]? = none := Array.getElem?_eq_none (by omega)
    simp [World.cell?, this] at hx
theorem inK {n lo hi : Int} (h : lo ≤ n ∧ n ≤ hi) (w : World) : Gives Try.prog 31 [.int .i64 n, .agg [.int .i64 lo, .int .i64 hi].toArray] w (.bool true) := (inside_any n lo hi w).as (congrArg Value.bool (inB_true h))
set_option maxRecDepth 100000 in
set_option maxHeartbeats 4000000 in
theorem draws_any (len cap b0 o0 : Nat) (w : World) : Calls Try.prog 30 [.slice (some ⟨b0, o0, none⟩) len cap].toArray w fun e w' => ∃ s : Nat × Nat, True ∧ e = .returned (.func (.func 72) #[] [.pointer (some ⟨s.1, 0, none⟩), .pointer (some ⟨s.2, 0, none⟩)].toArray) ∧
    Tr w w' [] [(s.1, Obj.cells [.int .i64 ((0 : Nat) : Int)].toArray 3 (0, 0)), (s.2, Obj.cells [.slice (some ⟨b0, o0, none⟩) len cap].toArray 45 (0, 0))] := by
  refine enter (n := 5) Try.func30 rfl rfl rfl (by repeat (first | exact Fill.nil | apply Fill.cons)) ?_
  refine cw_seq ?_
  refine cw_region ?_
  refine lstep rfl rfl rfl (run_box1 (.tmp rfl) rfl) ?_
  intro b1 _
  refine lstepB rfl rfl rfl (run_assign .const) ?_
  refine lnil ?_
  refine xw_then ?_
  refine cw_seq ?_
  refine cw_region ?_
  refine lstep rfl rfl rfl (run_alloc zr3) ?_
  intro b3 _
  refine lstep0 rfl rfl (run_store1 (.tmp rfl) .const rfl sz3 (by repeat (first | exact Upd.here | apply Upd.there)) (by repeat (first | exact Put.done | apply Put.put | apply Put.skip))) ?_
  refine lnil ?_
  refine xw_then ?_
  refine cw_seq ?_
  refine cw_region ?_
  refine lstepB rfl rfl rfl (run_makeFunc .nil (.cons (.tmp rfl) (.cons (.tmp rfl) .nil))) ?_
  refine lstepB rfl rfl rfl (run_assign (.tmp rfl)) ?_
  refine lnil ?_
  refine xw_then ?_
  refine cw_ret ?_
  refine xw_ret1 Try.results30 rfl (fun w' hS => ⟨(b3, b1), trivial, rfl, hS.toTr (fun k hk => hk.elim) (fun z hz => ?_) (fun z hz => ?_) ?_⟩)
  · simpa using hz
  · refine .inr ((hS.own z (by simpa using hz)).2.resolve_right fun h => h)
  · exact hS.apart
end Go.Proofs.Ytkjciobphbcknaa
namespace Go.Proofs.Ytkjciobphbcknaa
open Go.RowKit En

set_option maxRecDepth 100000 in
set_option maxHeartbeats 4000000 in
theorem true_any (len cap b0 o0 : Nat) (h0 : 0 < len) (hm : len ≤ 9223372036854775807) (w : World) (hby : ByIn w b0 o0 len) :
    Calls Try.prog 6 [.slice (some ⟨b0, o0, none⟩) len cap].toArray w fun e w' => e = .returned (.bool true) ∧ Below w.heap.size w w' := by
  refine enter (n := 229) Try.func6 rfl rfl rfl (by repeat (first | exact Fill.nil | apply Fill.cons)) ?_
  refine cw_seq ?_
  refine cw_region ?_
  refine lstepB rfl rfl rfl (run_assign .const) ?_
  refine lnil ?_
  refine xw_then ?_
  refine cw_seq ?_
  refine cw_seq ?_
  refine cw_region ?_
  refine lstepB rfl rfl rfl (run_move (.tmp rfl)) ?_
  refine lstepB rfl rfl rfl (run_len (.tmp rfl) sl45) ?_
  refine lstepB rfl rfl rfl (run_eql (.tmp rfl) .const (by first | exact decide_eq_true (by omega) | exact decide_eq_false (by omega) | exact rfl)) ?_
  refine lnil ?_
  refine xw_then ?_
  refine cw_cond_false (.tmp rfl) ?_
  refine cw_skip ?_
  refine xw_then ?_
  refine cw_seq ?_
  refine cw_region ?_
  refine lstepB rfl rfl rfl (run_move (.tmp rfl)) ?_
  refine lstep rfl rfl rfl (LR.runs (R := []) (A := []) (lr_call cb30 (.cons (.tmp rfl) .nil) (fun w2 _ _ => draws_any len cap b0 o0 w2)) (by repeat (first | exact Pick.nil | (apply Pick.cons; focus (repeat (first | exact Del.here | apply Del.there))))) (by repeat (first | exact Dels.nil | (apply Dels.cons; focus (repeat (first | exact Del.here | apply Del.there)))))) ?_
  intro ⟨cb, yb⟩ _
  refine lcall_base (F := MadeF) (r := fun s => .tuple #[.agg #[.int .i64 s.p.side, .slice s.pa s.p.ps.length s.pc, .slice s.la s.p.ls.length s.lc], .slice s.qa s.qs.length s.qc, .int .i64 s.m]) rfl rfl cb29 (.cons (.tmp rfl) .nil) (fun w2 hS => ?_) ?_
  · have hcb := hS.own (cb, _) (List.Mem.head _)
    have hyb := hS.own (yb, _) (List.Mem.tail _ (List.Mem.head _))
    have hb0 := hby.block h0
    have g1 : w.heap.size ≤ cb := hcb.2.resolve_right fun h => h
    have g2 : w.heap.size ≤ yb := hyb.2.resolve_right fun h => h
    have hne : cb ≠ yb := (List.pairwise_cons.1 hS.apart).1 (yb, _) (List.Mem.head _)
    refine (made_any len cap b0 o0 cb yb h0 hm hne (by omega) (by omega) w2 hcb.1 hyb.1 (hby.old hS (fun h => h))).mono ?_
    rintro e w' ⟨s, h1, h2, a', h3⟩
    exact ⟨s, h1, h2, made_base hS.kept h3 (fun x hx => by rw [List.mem_singleton] at hx; subst hx; exact g1)⟩
  intro s w1 hMade hBelow
  obtain ⟨p, qs, m, pa, la, qa, pc, lc, qc⟩ := s
  have hD : MadeD p qs m := ⟨hMade.2.2.1, hMade.2.2.2.1, hMade.2.2.2.2.1, hMade.2.2.2.2.2.1, hMade.2.2.2.2.2.2.1, hMade.2.2.2.2.2.2.2⟩
  have hp : PegsIn w1 p pa la := hMade.1
  have hq : QlsIn w1 qa qs := hMade.2.1
  clear hMade
  dsimp only
  have hlen := hD.good.len
  have hn3 := hD.n3
  have hs4 := hD.s4
  have hs8 := hD.s8
  obtain ⟨S, bb, hmv, hS8, hmb, hmS⟩ := hD.moved
  refine lstepB rfl rfl rfl (run_move (.tmp rfl)) ?_
  refine lstepB rfl rfl rfl (run_extract (.tmp rfl) rfl) ?_
  refine lstepB rfl rfl rfl (run_extract (.tmp rfl) rfl) ?_
  refine lstepB rfl rfl rfl (run_extract (.tmp rfl) rfl) ?_
  refine lstep rfl rfl rfl (run_alloc zr25) ?_
  intro b3 _
  refine lstep0 rfl rfl (run_storeN (.tmp rfl) (.tmp rfl) rfl sz25 rfl (by repeat (first | exact Upd.here | apply Upd.there)) (by repeat (first | exact Put.done | apply Put.put | apply Put.skip))) ?_
  refine lstepB rfl rfl rfl (run_assign (.tmp rfl)) ?_
  refine lstepB rfl rfl rfl (run_assign (.tmp rfl)) ?_
  refine lnil ?_
  refine xw_then ?_
  refine cw_seq ?_
  refine cw_region ?_
  refine lstepB rfl rfl rfl (run_loadN (.tmp rfl) kd25 sz25 (by repeat (first | exact List.Mem.head _ | apply List.Mem.tail)) (by repeat (first | exact Sub.done | apply Sub.take | apply Sub.skip))) ?_
  refine lstepB rfl rfl rfl (run_call1 cb13 (.cons (.tmp rfl) .nil) (fun w hS => movedK hD hp hS.kept hmv)) ?_
  refine lstepB rfl rfl rfl (run_move (.tmp rfl)) ?_
  refine lstepB rfl rfl rfl (run_extract (.tmp rfl) rfl) ?_
  refine lstepB rfl rfl rfl (run_extract (.tmp rfl) rfl) ?_
  refine lstepB rfl rfl rfl (run_extract (.tmp rfl) rfl) ?_
  refine lstepB rfl rfl rfl (run_assign (.tmp rfl)) ?_
  refine lstepB rfl rfl rfl (run_assign (.tmp rfl)) ?_
  refine lstepB rfl rfl rfl (run_assign (.tmp rfl)) ?_
  refine lnil ?_
  refine xw_then ?_
  refine cw_meet (S := Unit) (fun z => []) [(3, _), (4, _), (5, _)] (fun z => [(b3, Obj.cells [.int .i64 p.side, .slice pa p.ps.length pc, .slice la p.ls.length lc].toArray 25 (0, 0))]) (fun z => True) (by repeat (first | exact Less.nil | refine Less.cons rfl ?_)) ?_ ?_
  ·
    by_cases hm1 : m = -1
    ·
      have hbb := hmb hm1
      subst hbb
      refine cw_seq ?_
      refine cw_region ?_
      refine lstepB rfl rfl rfl (run_move (.tmp rfl)) ?_
      refine lstepB rfl rfl rfl (run_neq (.tmp rfl) .const (by first | exact decide_eq_true (by omega) | exact decide_eq_false (by omega) | exact rfl)) ?_
      refine lstepB rfl rfl rfl (run_move (.tmp rfl)) ?_
      refine lyes rfl rfl rfl rfl ?_
      refine gstepB rfl rfl (run_move (.tmp rfl)) ?_
      refine lyes rfl rfl rfl rfl ?_
      refine gstepB rfl rfl (run_eql (.tmp rfl) .const (by first | exact decide_eq_true (by omega) | exact decide_eq_false (by omega) | exact rfl)) ?_
      refine lyes rfl rfl rfl rfl ?_
      refine gstepB rfl rfl (run_move (.tmp rfl)) ?_
      refine lyes rfl rfl rfl rfl ?_
      refine gstepB rfl rfl (run_move (.tmp rfl)) ?_
      refine lyes rfl rfl rfl rfl ?_
      refine gstepB rfl rfl (run_not (.tmp rfl) (by first | exact Bool.not_true | exact Bool.not_false | exact rfl)) ?_
      refine lyes rfl rfl rfl rfl ?_
      refine gstepB rfl rfl (by first | exact run_pick_true (.tmp rfl) (.tmp rfl) | exact run_pick_false (.tmp rfl) .const) ?_
      refine lstepB rfl rfl rfl (by first | exact run_pick_true (.tmp rfl) .const | exact run_pick_false (.tmp rfl) (.tmp rfl)) ?_
      refine lstepB rfl rfl rfl (run_move (.tmp rfl)) ?_
      refine lyes rfl rfl rfl rfl ?_
      refine gstepB rfl rfl (run_move (.tmp rfl)) ?_
      refine lyes rfl rfl rfl rfl ?_
      refine gstepB rfl rfl (run_neq (.tmp rfl) .const (by first | exact decide_eq_true (by omega) | exact decide_eq_false (by omega) | exact rfl)) ?_
      refine lyes rfl rfl rfl rfl ?_
      refine gstepB rfl rfl (run_move (.tmp rfl)) ?_
      refine lskip rfl rfl rfl rfl rfl rfl rfl ?_
      refine lskip rfl rfl rfl rfl rfl rfl rfl ?_
      refine lskip rfl rfl rfl rfl rfl rfl rfl ?_
      refine lskip rfl rfl rfl rfl rfl rfl rfl ?_
      refine lskip rfl rfl rfl rfl rfl rfl rfl ?_
      refine lyes rfl rfl rfl rfl ?_
      refine gstepB rfl rfl (by first | exact run_pick_true (.tmp rfl) (.tmp rfl) | exact run_pick_false (.tmp rfl) .const) ?_
      refine lstepB rfl rfl rfl (by first | exact run_pick_true (.tmp rfl) .const | exact run_pick_false (.tmp rfl) (.tmp rfl)) ?_
      refine lnil ?_
      refine xw_then ?_
      refine cw_cond_false (.tmp rfl) ?_
      refine cw_skip ?_
      exact xw_meet () trivial (by repeat (first | exact Less.nil | refine Less.cons rfl ?_)) (by repeat (first | exact Pick.nil | (apply Pick.cons; focus (repeat (first | exact Del.here | apply Del.there)))))
    ·
      obtain ⟨mk, rfl⟩ : ∃ k : Nat, m = (k : Int) := ⟨m.toNat, by have := hD.good.m0; omega⟩
      have hmk : mk < 3 := by have := hD.good.m1; omega
      have hbit := testBit_div (hmS hm1)
      simp only [Int.toNat_natCast] at hbit
      have hS8' : S / 2 ^ mk < 8 := Nat.lt_of_le_of_lt (Nat.div_le_self _ _) hS8
      refine cw_seq ?_
      refine cw_region ?_
      refine lstepB rfl rfl rfl (run_move (.tmp rfl)) ?_
      refine lstepB rfl rfl rfl (run_neq (.tmp rfl) .const (by first | exact decide_eq_true (by omega) | exact decide_eq_false (by omega) | exact rfl)) ?_
      refine lstepB rfl rfl rfl (run_move (.tmp rfl)) ?_
      refine lyes rfl rfl rfl rfl ?_
      refine gstepB rfl rfl (run_move (.tmp rfl)) ?_
      refine lyes rfl rfl rfl rfl ?_
      refine gstepB rfl rfl (run_eql (.tmp rfl) .const (by first | exact decide_eq_true (by omega) | exact decide_eq_false (by omega) | exact rfl)) ?_
      refine lyes rfl rfl rfl rfl ?_
      refine gstepB rfl rfl (run_move (.tmp rfl)) ?_
      refine lskip rfl rfl rfl rfl rfl rfl rfl ?_
      refine lskip rfl rfl rfl rfl rfl rfl rfl ?_
      refine lyes rfl rfl rfl rfl ?_
      refine gstepB rfl rfl (by first | exact run_pick_true (.tmp rfl) (.tmp rfl) | exact run_pick_false (.tmp rfl) .const) ?_
      refine lstepB rfl rfl rfl (by first | exact run_pick_true (.tmp rfl) .const | exact run_pick_false (.tmp rfl) (.tmp rfl)) ?_
      refine lstepB rfl rfl rfl (run_move (.tmp rfl)) ?_
      refine lyes rfl rfl rfl rfl ?_
      refine gstepB rfl rfl (run_move (.tmp rfl)) ?_
      refine lyes rfl rfl rfl rfl ?_
      refine gstepB rfl rfl (run_neq (.tmp rfl) .const (by first | exact decide_eq_true (by omega) | exact decide_eq_false (by omega) | exact rfl)) ?_
      refine lyes rfl rfl rfl rfl ?_
      refine gstepB rfl rfl (run_move (.tmp rfl)) ?_
      refine lyes rfl rfl rfl rfl ?_
      refine gstepB rfl rfl (run_move (.tmp rfl)) ?_
      refine lyes rfl rfl rfl rfl ?_
      refine gstepB rfl rfl (run_move (.tmp rfl)) ?_
      refine lyes rfl rfl rfl rfl ?_
      refine gstepB rfl rfl (run_shr_small (.tmp rfl) (.tmp rfl) hS8 hmk) ?_
      refine lyes rfl rfl rfl rfl ?_
      refine gstepB rfl rfl (run_and_bit (.tmp rfl) .const hS8' hbit) ?_
      refine lyes rfl rfl rfl rfl ?_
      refine gstepB rfl rfl (run_eql (.tmp rfl) .const (by first | exact decide_eq_true (by omega) | exact decide_eq_false (by omega) | exact rfl)) ?_
      refine lyes rfl rfl rfl rfl ?_
      refine gstepB rfl rfl (by first | exact run_pick_true (.tmp rfl) (.tmp rfl) | exact run_pick_false (.tmp rfl) .const) ?_
      refine lstepB rfl rfl rfl (by first | exact run_pick_true (.tmp rfl) .const | exact run_pick_false (.tmp rfl) (.tmp rfl)) ?_
      refine lnil ?_
      refine xw_then ?_
      refine cw_cond_false (.tmp rfl) ?_
      refine cw_skip ?_
      exact xw_meet () trivial (by repeat (first | exact Less.nil | refine Less.cons rfl ?_)) (by repeat (first | exact Pick.nil | (apply Pick.cons; focus (repeat (first | exact Del.here | apply Del.there)))))
  ·
    intro z _
    refine cw_seq ?_
    refine cw_seq ?_
    refine cw_region ?_
    refine lstepB rfl rfl rfl (run_move (.tmp rfl)) ?_
    refine lstepB rfl rfl rfl (run_len (.tmp rfl) sl46) ?_
    refine lstepB rfl rfl rfl (run_move .const) ?_
    refine lnil ?_
    refine xw_then ?_
    refine cw_block ?_
    refine cw_loop (S := Nat) (fun i => [(66, .int .i64 (i : Int))]) [(3, _), (4, _), (5, _), (64, _), (65, _)] (fun i => [(b3, Obj.cells [.int .i64 p.side, .slice pa p.ps.length pc, .slice la p.ls.length lc].toArray 25 (0, 0))]) (fun i => i ≤ qs.length) (fun i => qs.length - i) 0 (Nat.zero_le _) (by repeat (first | exact Less.nil | refine Less.cons rfl ?_)) (by repeat (first | exact Pick.nil | (apply Pick.cons; focus (repeat (first | exact Del.here | apply Del.there))))) ?_
    intro i hi
    try dsimp only
    refine cw_seq ?_
    refine cw_region ?_
    refine lstepB rfl rfl rfl (run_lss (.tmp rfl) (.tmp rfl) (by first | exact decide_eq_true (by omega) | exact decide_eq_false (by omega) | exact rfl)) ?_
    refine lnil ?_
    refine xw_then ?_
    refine cw_seq ?_
    refine cw_cond_p (.tmp rfl) (fun hlt => ?_) (fun hge => ?_)
    ·
      have hlt2 : i < qs.length := Int.ofNat_lt.1 hlt
      obtain ⟨s, hs⟩ : ∃ s, qs[i]? = some s := ⟨_, List.getElem?_eq_getElem hlt2⟩
      obtain ⟨qb, qo, hqa, hqb, hql⟩ := hq.at_ (by omega)
      subst hqa
      have hpl : i < p.ps.length := hD.lt hs
      have hf := hD.good.field hs
      obtain ⟨xa, xb, ya, yb', n, hwh, hpn, x1, x2, y1, y2, c1, c2, c3, c4, n1, n2⟩ := hD.where_ hs
      have hprod := mulBd (x := xb - xa + 1) (y := yb' - ya + 1) (m := 9) (by omega) (by omega) (by omega) (by omega)
      obtain ⟨ba, bb', bn, hb1, hb2, hb3⟩ := hD.backAny i
      refine cw_skip ?_
      refine xw_then ?_
      refine cw_seq ?_
      refine cw_block ?_
      refine cw_seq ?_
      refine cw_region ?_
      refine lstepB rfl rfl rfl (run_move (.tmp rfl)) ?_
      refine lstepB rfl rfl rfl (run_indexAddr (.tmp rfl) (.tmp rfl) el46 (by omega) rfl) ?_
      refine lstepB rfl rfl rfl (run_loadN_at (l := [.int .i64 s.x, .int .i64 s.y]) (.tmp rfl) kd52 sz52 rfl (fun w hS jj v hj => hS.old_cell (fun h => h) (hql i s hs jj v hj))) ?_
      refine lstep rfl rfl rfl (run_alloc zr52) ?_
      intro b10 _
      refine lstepB rfl rfl rfl (run_assign (.tmp rfl)) ?_
      refine lstep0 rfl rfl (run_storeN (.tmp rfl) (.tmp rfl) rfl sz52 rfl (by repeat (first | exact Upd.here | apply Upd.there)) (by repeat (first | exact Put.done | apply Put.put | apply Put.skip))) ?_
      refine lnil ?_
      refine xw_then ?_
      refine cw_seq ?_
      refine cw_region ?_
      refine lstepB rfl rfl rfl (run_loadN (.tmp rfl) kd25 sz25 (by repeat (first | exact List.Mem.head _ | apply List.Mem.tail)) (by repeat (first | exact Sub.done | apply Sub.take | apply Sub.skip))) ?_
      refine lstepB rfl rfl rfl (run_move (.tmp rfl)) ?_
      refine lstepB rfl rfl rfl (run_call1 cb15 (.cons (.tmp rfl) (.cons (.tmp rfl) .nil)) (fun w hS => whereK hD hp hS.kept hwh)) ?_
      refine lstepB rfl rfl rfl (run_move (.tmp rfl)) ?_
      refine lstepB rfl rfl rfl (run_extract (.tmp rfl) rfl) ?_
      refine lstepB rfl rfl rfl (run_extract (.tmp rfl) rfl) ?_
      refine lstepB rfl rfl rfl (run_extract (.tmp rfl) rfl) ?_
      refine lstep rfl rfl rfl (run_alloc zr32) ?_
      intro b11 _
      refine lstep rfl rfl rfl (run_alloc zr32) ?_
      intro b12 _
      refine lstep0 rfl rfl (run_storeN (.tmp rfl) (.tmp rfl) rfl sz32 rfl (by repeat (first | exact Upd.here | apply Upd.there)) (by repeat (first | exact Put.done | apply Put.put | apply Put.skip))) ?_
      refine lstep0 rfl rfl (run_storeN (.tmp rfl) (.tmp rfl) rfl sz32 rfl (by repeat (first | exact Upd.here | apply Upd.there)) (by repeat (first | exact Put.done | apply Put.put | apply Put.skip))) ?_
      refine lstepB rfl rfl rfl (run_assign (.tmp rfl)) ?_
      refine lnil ?_
      refine xw_then ?_
      refine cw_seq ?_
      refine cw_region ?_
      refine lstepB rfl rfl rfl (run_loadN (.tmp rfl) kd25 sz25 (by repeat (first | exact List.Mem.head _ | apply List.Mem.tail)) (by repeat (first | exact Sub.done | apply Sub.take | apply Sub.skip))) ?_
      refine lstepB rfl rfl rfl (run_move (.tmp rfl)) ?_
      refine lstepB rfl rfl rfl (run_call1 cb17 (.cons (.tmp rfl) (.cons (.tmp rfl) .nil)) (fun w hS => placesK hD hp hS.kept hpn)) ?_
      refine lstepB rfl rfl rfl (run_move (.tmp rfl)) ?_
      refine lstepB rfl rfl rfl (run_extract (.tmp rfl) rfl) ?_
      refine lstepB rfl rfl rfl (run_extract (.tmp rfl) rfl) ?_
      refine lstepB rfl rfl rfl (run_assign (.tmp rfl)) ?_
      refine lstepB rfl rfl rfl (run_assign (.tmp rfl)) ?_
      refine lnil ?_
      refine xw_then ?_
      refine cw_seq ?_
      refine cw_seq ?_
      refine cw_region ?_
      refine lstepB rfl rfl rfl (run_move (.tmp rfl)) ?_
      refine lstepB rfl rfl rfl (run_neq (.tmp rfl) .const (by first | exact decide_eq_true (by omega) | exact decide_eq_false (by omega) | exact rfl)) ?_
      refine lstepB rfl rfl rfl (run_move (.tmp rfl)) ?_
      refine lyes rfl rfl rfl rfl ?_
      refine gstepB rfl rfl (run_fieldAddr (.tmp rfl) fa52_0 (by first | exact Nat.zero_add _ | exact rfl)) ?_
      refine lyes rfl rfl rfl rfl ?_
      refine gstepB rfl rfl (run_load1 (.tmp rfl) kd3 (by repeat (first | exact List.Mem.head _ | apply List.Mem.tail)) (by exact rfl)) ?_
      refine lyes rfl rfl rfl rfl ?_
      refine gstepB rfl rfl (run_loadN (.tmp rfl) kd32 sz32 (by repeat (first | exact List.Mem.head _ | apply List.Mem.tail)) (by repeat (first | exact Sub.done | apply Sub.take | apply Sub.skip))) ?_
      refine lyes rfl rfl rfl rfl ?_
      refine gstepB rfl rfl (run_call1 cb31 (.cons (.tmp rfl) (.cons (.tmp rfl) .nil)) (fun w _ => inK ⟨x1, x2⟩ w)) ?_
      refine lyes rfl rfl rfl rfl ?_
      refine gstepB rfl rfl (run_not (.tmp rfl) (by first | exact Bool.not_true | exact Bool.not_false | exact rfl)) ?_
      refine lstepB rfl rfl rfl (by first | exact run_pick_true (.tmp rfl) .const | exact run_pick_false (.tmp rfl) (.tmp rfl)) ?_
      refine lstepB rfl rfl rfl (run_move (.tmp rfl)) ?_
      refine lyes rfl rfl rfl rfl ?_
      refine gstepB rfl rfl (run_fieldAddr (.tmp rfl) fa52_1 (by first | exact Nat.zero_add _ | exact rfl)) ?_
      refine lyes rfl rfl rfl rfl ?_
      refine gstepB rfl rfl (run_load1 (.tmp rfl) kd3 (by repeat (first | exact List.Mem.head _ | apply List.Mem.tail)) (by exact rfl)) ?_
      refine lyes rfl rfl rfl rfl ?_
      refine gstepB rfl rfl (run_loadN (.tmp rfl) kd32 sz32 (by repeat (first | exact List.Mem.head _ | apply List.Mem.tail)) (by repeat (first | exact Sub.done | apply Sub.take | apply Sub.skip))) ?_
      refine lyes rfl rfl rfl rfl ?_
      refine gstepB rfl rfl (run_call1 cb31 (.cons (.tmp rfl) (.cons (.tmp rfl) .nil)) (fun w _ => inK ⟨y1, y2⟩ w)) ?_
      refine lyes rfl rfl rfl rfl ?_
      refine gstepB rfl rfl (run_not (.tmp rfl) (by first | exact Bool.not_true | exact Bool.not_false | exact rfl)) ?_
      refine lstepB rfl rfl rfl (by first | exact run_pick_true (.tmp rfl) .const | exact run_pick_false (.tmp rfl) (.tmp rfl)) ?_
      refine lstepB rfl rfl rfl (run_move (.tmp rfl)) ?_
      refine lyes rfl rfl rfl rfl ?_
      refine gstepB rfl rfl (run_move (.tmp rfl)) ?_
      refine lyes rfl rfl rfl rfl ?_
      refine gstepB rfl rfl (run_neq (.tmp rfl) .const (by first | exact decide_eq_true (by omega) | exact decide_eq_false (by omega) | exact rfl)) ?_
      refine lstepB rfl rfl rfl (by first | exact run_pick_true (.tmp rfl) .const | exact run_pick_false (.tmp rfl) (.tmp rfl)) ?_
      refine lstepB rfl rfl rfl (run_move (.tmp rfl)) ?_
      refine lyes rfl rfl rfl rfl ?_
      refine gstepB rfl rfl (run_move (.tmp rfl)) ?_
      refine lyes rfl rfl rfl rfl ?_
      refine gstepB rfl rfl (run_lss (.tmp rfl) .const (by first | exact decide_eq_true (by omega) | exact decide_eq_false (by omega) | exact rfl)) ?_
      refine lstepB rfl rfl rfl (by first | exact run_pick_true (.tmp rfl) .const | exact run_pick_false (.tmp rfl) (.tmp rfl)) ?_
      refine lstepB rfl rfl rfl (run_move (.tmp rfl)) ?_
      refine lyes rfl rfl rfl rfl ?_
      refine gstepB rfl rfl (run_move (.tmp rfl)) ?_
      refine lyes rfl rfl rfl rfl ?_
      refine gstepB rfl rfl (run_fieldAddr (.tmp rfl) fa32_1 (by first | exact Nat.zero_add _ | exact rfl)) ?_
      refine lyes rfl rfl rfl rfl ?_
      refine gstepB rfl rfl (run_load1 (.tmp rfl) kd3 (by repeat (first | exact List.Mem.head _ | apply List.Mem.tail)) (by exact rfl)) ?_
      refine lyes rfl rfl rfl rfl ?_
      refine gstepB rfl rfl (run_fieldAddr (.tmp rfl) fa32_0 (by first | exact Nat.zero_add _ | exact rfl)) ?_
      refine lyes rfl rfl rfl rfl ?_
      refine gstepB rfl rfl (run_load1 (.tmp rfl) kd3 (by repeat (first | exact List.Mem.head _ | apply List.Mem.tail)) (by exact rfl)) ?_
      refine lyes rfl rfl rfl rfl ?_
      refine gstepB rfl rfl (run_sub (.tmp rfl) (.tmp rfl) (by first | exact IntWalk.i64_in _ (by omega) | exact rfl)) ?_
      refine lyes rfl rfl rfl rfl ?_
      refine gstepB rfl rfl (run_add (.tmp rfl) .const (by first | exact IntWalk.i64_in _ (by omega) | exact rfl)) ?_
      refine lyes rfl rfl rfl rfl ?_
      refine gstepB rfl rfl (run_fieldAddr (.tmp rfl) fa32_1 (by first | exact Nat.zero_add _ | exact rfl)) ?_
      refine lyes rfl rfl rfl rfl ?_
      refine gstepB rfl rfl (run_load1 (.tmp rfl) kd3 (by repeat (first | exact List.Mem.head _ | apply List.Mem.tail)) (by exact rfl)) ?_
      refine lyes rfl rfl rfl rfl ?_
      refine gstepB rfl rfl (run_fieldAddr (.tmp rfl) fa32_0 (by first | exact Nat.zero_add _ | exact rfl)) ?_
      refine lyes rfl rfl rfl rfl ?_
      refine gstepB rfl rfl (run_load1 (.tmp rfl) kd3 (by repeat (first | exact List.Mem.head _ | apply List.Mem.tail)) (by exact rfl)) ?_
      refine lyes rfl rfl rfl rfl ?_
      refine gstepB rfl rfl (run_sub (.tmp rfl) (.tmp rfl) (by first | exact IntWalk.i64_in _ (by omega) | exact rfl)) ?_
      refine lyes rfl rfl rfl rfl ?_
      refine gstepB rfl rfl (run_add (.tmp rfl) .const (by first | exact IntWalk.i64_in _ (by omega) | exact rfl)) ?_
      refine lyes rfl rfl rfl rfl ?_
      refine gstepB rfl rfl (run_mul (.tmp rfl) (.tmp rfl) (by first | exact IntWalk.i64_in _ (by omega) | exact rfl)) ?_
      refine lyes rfl rfl rfl rfl ?_
      refine gstepB rfl rfl (run_gtr (.tmp rfl) (.tmp rfl) (by first | exact decide_eq_true (by omega) | exact decide_eq_false (by omega) | exact rfl)) ?_
      refine lstepB rfl rfl rfl (by first | exact run_pick_true (.tmp rfl) .const | exact run_pick_false (.tmp rfl) (.tmp rfl)) ?_
      refine lnil ?_
      refine xw_then ?_
      refine cw_cond_false (.tmp rfl) ?_
      refine cw_skip ?_
      refine xw_then ?_
      refine cw_seq ?_
      refine cw_region ?_
      refine lstepB rfl rfl rfl (run_loadN (.tmp rfl) kd25 sz25 (by repeat (first | exact List.Mem.head _ | apply List.Mem.tail)) (by repeat (first | exact Sub.done | apply Sub.take | apply Sub.skip))) ?_
      refine lstepB rfl rfl rfl (run_move (.tmp rfl)) ?_
      refine lstepB rfl rfl rfl (run_call1 cb19 (.cons (.tmp rfl) (.cons (.tmp rfl) .nil)) (fun w hS => backK hD hp hS.kept hb1 hb2)) ?_
      refine lstepB rfl rfl rfl (run_move (.tmp rfl)) ?_
      refine lstepB rfl rfl rfl (run_extract (.tmp rfl) rfl) ?_
      refine lstepB rfl rfl rfl (run_extract (.tmp rfl) rfl) ?_
      refine lstep rfl rfl rfl (run_alloc zr32) ?_
      intro b16 _
      refine lstep0 rfl rfl (run_storeN (.tmp rfl) (.tmp rfl) rfl sz32 rfl (by repeat (first | exact Upd.here | apply Upd.there)) (by repeat (first | exact Put.done | apply Put.put | apply Put.skip))) ?_
      refine lstepB rfl rfl rfl (run_assign (.tmp rfl)) ?_
      refine lnil ?_
      refine xw_then ?_
      refine cw_meet (S := Unit) (fun z => []) [(3, _), (4, _), (5, _), (9, _), (10, _), (64, _), (65, _), (66, _)] (fun z => [(b3, Obj.cells [.int .i64 p.side, .slice pa p.ps.length pc, .slice la p.ls.length lc].toArray 25 (0, 0)), (b10, Obj.cells [.int .i64 s.x, .int .i64 s.y].toArray 52 (0, 0))]) (fun z => True) (by repeat (first | exact Less.nil | refine Less.cons rfl ?_)) ?_ ?_
      ·
        refine cw_seq ?_
        by_cases him : (i : Int) = m
        ·
          obtain ⟨q, hq2⟩ : ∃ q, p.ps[i]? = some q := ⟨_, List.getElem?_eq_getElem hpl⟩
          obtain ⟨e0, e1, e2⟩ := hb3 him s q hs hq2
          subst e0
          obtain ⟨pb, po, hpa, hpb, hpq⟩ := postsIn_at hp.1 (by omega)
          subst hpa
          have hqB := (hD.good.each i q s hq2 hs).1
          simp only [postB, narrowB, withinB, Bool.and_eq_true, decide_eq_true_eq] at hqB
          refine cw_chain2 (σ := [0, 1, 2, 3, 4, 5, 6, 7, 8, 9, 10, 11, 12, 13, 14, 15, 16, 17, 18]) [⟨0, [], [], [], 0⟩, ⟨0, [], [], [], 0⟩, ⟨0, [], [], [], 3⟩, ⟨0, [], [], [], 7⟩, ⟨0, [], [], [], 15⟩, ⟨0, [], [], [], 31⟩, ⟨0, [], [], [], 63⟩, ⟨0, [3], [], [], 127⟩, ⟨0, [], [], [], 127⟩, ⟨0, [4], [], [], 383⟩, ⟨0, [], [], [], 127⟩, ⟨0, [], [], [], 1919⟩, ⟨0, [], [], [], 3967⟩, ⟨0, [], [], [], 8191⟩, ⟨0, [0], [], [], 127⟩, ⟨0, [], [], [], 32767⟩, ⟨0, [], [], [], 65535⟩, ⟨0, [], [], [], 131071⟩, ⟨0, [], [], [], 262143⟩] [(0, _), (1, _), (2, _), (3, _), (4, _)] (by kernel_rfl) (by kernel_rfl) rfl ?_
          refine .det (B := []) rfl rfl (.inl rfl) .nil .nil rfl (RunB.lr (run_move (.tmp rfl))) ?_
          refine .det (B := []) rfl rfl (.inl rfl) .nil .nil rfl (RunB.lr (run_move (.tmp rfl))) ?_
          refine .det (B := []) rfl rfl (.inl rfl) .nil .nil rfl (RunB.lr (run_eql (.tmp rfl) (.tmp rfl) (by first | exact decide_eq_true (by omega) | exact decide_eq_false (by omega) | exact rfl))) ?_
          refine .det (B := []) rfl rfl (.inl rfl) .nil .nil rfl (RunB.lr (run_move (.tmp rfl))) ?_
          refine .det (B := []) rfl rfl (.inr ⟨_, _, _, rfl, rfl, rfl⟩) .nil .nil rfl (RunB.lr (run_move (.tmp rfl))) ?_
          refine .det (B := []) rfl rfl (.inr ⟨_, _, _, rfl, rfl, rfl⟩) .nil .nil rfl (RunB.lr (run_neq (.tmp rfl) .const (by first | exact decide_eq_true (by omega) | exact decide_eq_false (by omega) | exact rfl))) ?_
          refine .det (B := []) rfl rfl (.inr ⟨_, _, _, rfl, rfl, rfl⟩) .nil .nil rfl (RunB.lr (run_move (.tmp rfl))) ?_
          refine .det (B := []) rfl rfl (.inr ⟨_, _, _, rfl, rfl, rfl⟩) (.cons rfl .nil) .nil rfl (RunB.lr (run_loadN (.tmp rfl) kd52 sz52 (by repeat (first | exact List.Mem.head _ | apply List.Mem.tail)) (by repeat (first | exact Sub.done | apply Sub.take | apply Sub.skip)))) ?_
          refine .det (B := []) rfl rfl (.inr ⟨_, _, _, rfl, rfl, rfl⟩) .nil .nil rfl (RunB.lr (run_fieldAddr (.tmp rfl) fa25_1 (by first | exact Nat.zero_add _ | exact rfl))) ?_
          refine .det (B := []) rfl rfl (.inr ⟨_, _, _, rfl, rfl, rfl⟩) (.cons rfl .nil) .nil rfl (RunB.lr (run_load1 (.tmp rfl) kd22 (by repeat (first | exact List.Mem.head _ | apply List.Mem.tail)) (by exact rfl))) ?_
          refine .det (B := []) rfl rfl (.inr ⟨_, _, _, rfl, rfl, rfl⟩) .nil .nil rfl (RunB.lr (run_move (.tmp rfl))) ?_
          refine .det (B := []) rfl rfl (.inr ⟨_, _, _, rfl, rfl, rfl⟩) .nil .nil rfl (RunB.lr (run_indexAddr (.tmp rfl) (.tmp rfl) el22 (by omega) rfl)) ?_
          refine .det (B := []) rfl rfl (.inr ⟨_, _, _, rfl, rfl, rfl⟩) .nil .nil rfl (RunB.lr (run_loadN_at (l := [.int .i64 q.xlo, .int .i64 q.xhi, .int .i64 q.ylo, .int .i64 q.yhi]) (.tmp rfl) kd56 sz56 rfl (fun w hS j v hj => hS.old_cell (fun h => h) (hpq i q hq2 j v hj)))) ?_
          refine .det (B := []) rfl rfl (.inr ⟨_, _, _, rfl, rfl, rfl⟩) .nil .nil rfl (RunB.lr (run_call1 cb32 (.cons (.tmp rfl) (.cons (.tmp rfl) .nil)) (fun w _ => far_any s q (by omega) (by omega) (by omega) (by omega) w))) ?_
          refine .det (B := []) rfl rfl (.inr ⟨_, _, _, rfl, rfl, rfl⟩) (.cons rfl .nil) .nil rfl (RunB.lr (run_loadN (.tmp rfl) kd32 sz32 (by repeat (first | exact List.Mem.head _ | apply List.Mem.tail)) (by repeat (first | exact Sub.done | apply Sub.take | apply Sub.skip)))) ?_
          refine .det (B := []) rfl rfl (.inr ⟨_, _, _, rfl, rfl, rfl⟩) .nil .nil rfl (RunB.lr (run_call1 cb31 (.cons (.tmp rfl) (.cons (.tmp rfl) .nil)) (fun w _ => inK ⟨e1, e2⟩ w))) ?_
          refine .det (B := []) rfl rfl (.inr ⟨_, _, _, rfl, rfl, rfl⟩) .nil .nil rfl (RunB.lr (run_not (.tmp rfl) (by first | exact Bool.not_true | exact Bool.not_false | exact rfl))) ?_
          refine .det (B := []) rfl rfl (.inr ⟨_, _, _, rfl, rfl, rfl⟩) .nil .nil rfl (RunB.lr (by first | exact run_pick_true (.tmp rfl) .const | exact run_pick_false (.tmp rfl) (.tmp rfl))) ?_
          refine .det (B := []) rfl rfl (.inl rfl) .nil .nil rfl (RunB.lr (by first | exact run_pick_true (.tmp rfl) (.tmp rfl) | exact run_pick_false (.tmp rfl) .const)) ?_
          refine chain_nil (ts := [0, 1, 2, 3, 4]) (.cons rfl (.cons rfl (.cons rfl (.cons rfl (.cons rfl .nil))))) (by decide) ?_
          refine xw_then ?_
          refine cw_cond_false (.tmp rfl) ?_
          refine cw_skip ?_
          exact xw_meet () trivial (by repeat (first | exact Less.nil | refine Less.cons rfl ?_)) (by repeat (first | exact Pick.nil | (apply Pick.cons; focus (repeat (first | exact Del.here | apply Del.there)))))
        ·
          refine cw_chain2 (σ := [0, 1, 2, 3, 4, 5, 6, 7, 8, 9, 10, 11, 12, 13, 14, 15, 16, 17, 18]) [⟨0, [], [], [], 0⟩, ⟨0, [], [], [], 0⟩, ⟨0, [], [], [], 3⟩, ⟨0, [], [], [], 7⟩, ⟨0, [], [], [], 15⟩, ⟨0, [], [], [], 31⟩, ⟨0, [], [], [], 63⟩, ⟨0, [3], [], [], 127⟩, ⟨0, [], [], [], 127⟩, ⟨0, [4], [], [], 383⟩, ⟨0, [], [], [], 127⟩, ⟨0, [], [], [], 1919⟩, ⟨0, [], [], [], 3967⟩, ⟨0, [], [], [], 8191⟩, ⟨0, [0], [], [], 127⟩, ⟨0, [], [], [], 32767⟩, ⟨0, [], [], [], 65535⟩, ⟨0, [], [], [], 131071⟩, ⟨0, [], [], [], 262143⟩] [(0, _), (1, _), (2, _), (3, _), (4, _)] (by kernel_rfl) (by kernel_rfl) rfl ?_
          refine .det (B := []) rfl rfl (.inl rfl) .nil .nil rfl (RunB.lr (run_move (.tmp rfl))) ?_
          refine .det (B := []) rfl rfl (.inl rfl) .nil .nil rfl (RunB.lr (run_move (.tmp rfl))) ?_
          refine .det (B := []) rfl rfl (.inl rfl) .nil .nil rfl (RunB.lr (run_eql (.tmp rfl) (.tmp rfl) (by first | exact decide_eq_true (by omega) | exact decide_eq_false (by omega) | exact rfl))) ?_
          refine .det (B := []) rfl rfl (.inl rfl) .nil .nil rfl (RunB.lr (run_move (.tmp rfl))) ?_
          refine .skip rfl rfl ⟨_, _, _, _, rfl, rfl, rfl, rfl⟩ rfl ?_
          refine .skip rfl rfl ⟨_, _, _, _, rfl, rfl, rfl, rfl⟩ rfl ?_
          refine .skip rfl rfl ⟨_, _, _, _, rfl, rfl, rfl, rfl⟩ rfl ?_
          refine .skip rfl rfl ⟨_, _, _, _, rfl, rfl, rfl, rfl⟩ rfl ?_
          refine .skip rfl rfl ⟨_, _, _, _, rfl, rfl, rfl, rfl⟩ rfl ?_
          refine .skip rfl rfl ⟨_, _, _, _, rfl, rfl, rfl, rfl⟩ rfl ?_
          refine .skip rfl rfl ⟨_, _, _, _, rfl, rfl, rfl, rfl⟩ rfl ?_
          refine .skip rfl rfl ⟨_, _, _, _, rfl, rfl, rfl, rfl⟩ rfl ?_
          refine .skip rfl rfl ⟨_, _, _, _, rfl, rfl, rfl, rfl⟩ rfl ?_
          refine .skip rfl rfl ⟨_, _, _, _, rfl, rfl, rfl, rfl⟩ rfl ?_
          refine .skip rfl rfl ⟨_, _, _, _, rfl, rfl, rfl, rfl⟩ rfl ?_
          refine .skip rfl rfl ⟨_, _, _, _, rfl, rfl, rfl, rfl⟩ rfl ?_
          refine .skip rfl rfl ⟨_, _, _, _, rfl, rfl, rfl, rfl⟩ rfl ?_
          refine .skip rfl rfl ⟨_, _, _, _, rfl, rfl, rfl, rfl⟩ rfl ?_
          refine .det (B := []) rfl rfl (.inl rfl) .nil .nil rfl (RunB.lr (by first | exact run_pick_true (.tmp rfl) (.tmp rfl) | exact run_pick_false (.tmp rfl) .const)) ?_
          refine chain_nil (ts := [0, 1, 2, 3, 4]) (.cons rfl (.cons rfl (.cons rfl (.cons rfl (.cons rfl .nil))))) (by decide) ?_
          refine xw_then ?_
          refine cw_cond_false (.tmp rfl) ?_
          refine cw_skip ?_
          exact xw_meet () trivial (by repeat (first | exact Less.nil | refine Less.cons rfl ?_)) (by repeat (first | exact Pick.nil | (apply Pick.cons; focus (repeat (first | exact Del.here | apply Del.there)))))
      ·
        intro z _
        obtain ⟨px, pn, hp1, hp2, hp3⟩ := hD.proofAny hpl
        refine cw_meet (S := Unit) (fun z => []) [(3, _), (4, _), (5, _), (9, _), (10, _), (64, _), (65, _), (66, _)] (fun z => [(b3, Obj.cells [.int .i64 p.side, .slice pa p.ps.length pc, .slice la p.ls.length lc].toArray 25 (0, 0)), (b10, Obj.cells [.int .i64 s.x, .int .i64 s.y].toArray 52 (0, 0))]) (fun z => True) (by repeat (first | exact Less.nil | refine Less.cons rfl ?_)) ?_ ?_
        ·
          rcases hp3 with ⟨e1, e2⟩ | ⟨e1, him⟩
          ·
            subst e1
            subst e2
            refine cw_seq ?_
            refine cw_region ?_
            refine lstepB rfl rfl rfl (run_loadN (.tmp rfl) kd25 sz25 (by repeat (first | exact List.Mem.head _ | apply List.Mem.tail)) (by repeat (first | exact Sub.done | apply Sub.take | apply Sub.skip))) ?_
            refine lstepB rfl rfl rfl (run_move (.tmp rfl)) ?_
            refine lstepB rfl rfl rfl (run_call1 cb25 (.cons (.tmp rfl) (.cons (.tmp rfl) .nil)) (fun w hS => proofK hD hp hS.kept hp1 hp2)) ?_
            refine lstepB rfl rfl rfl (run_move (.tmp rfl)) ?_
            refine lstepB rfl rfl rfl (run_extract (.tmp rfl) rfl) ?_
            refine lstepB rfl rfl rfl (run_extract (.tmp rfl) rfl) ?_
            refine lstepB rfl rfl rfl (run_assign (.tmp rfl)) ?_
            refine lstepB rfl rfl rfl (run_assign (.tmp rfl)) ?_
            refine lnil ?_
            refine xw_then ?_
            refine cw_seq ?_
            refine cw_region ?_
            refine lstepB rfl rfl rfl (run_move (.tmp rfl)) ?_
            refine lstepB rfl rfl rfl (run_eql (.tmp rfl) .const (by first | exact decide_eq_true (by omega) | exact decide_eq_false (by omega) | exact rfl)) ?_
            refine lstepB rfl rfl rfl (run_move (.tmp rfl)) ?_
            refine lskip rfl rfl rfl rfl rfl rfl rfl ?_
            refine lskip rfl rfl rfl rfl rfl rfl rfl ?_
            refine lskip rfl rfl rfl rfl rfl rfl rfl ?_
            refine lstepB rfl rfl rfl (by first | exact run_pick_true (.tmp rfl) (.tmp rfl) | exact run_pick_false (.tmp rfl) .const) ?_
            refine lstepB rfl rfl rfl (run_move (.tmp rfl)) ?_
            refine lyes rfl rfl rfl rfl ?_
            refine gstepB rfl rfl (run_move (.tmp rfl)) ?_
            refine lyes rfl rfl rfl rfl ?_
            refine gstepB rfl rfl (run_neq (.tmp rfl) .const (by first | exact decide_eq_true (by omega) | exact decide_eq_false (by omega) | exact rfl)) ?_
            refine lyes rfl rfl rfl rfl ?_
            refine gstepB rfl rfl (run_move (.tmp rfl)) ?_
            refine lyes rfl rfl rfl rfl ?_
            refine gstepB rfl rfl (run_move (.tmp rfl)) ?_
            refine lyes rfl rfl rfl rfl ?_
            refine gstepB rfl rfl (run_neq (.tmp rfl) .const (by first | exact decide_eq_true (by omega) | exact decide_eq_false (by omega) | exact rfl)) ?_
            refine lyes rfl rfl rfl rfl ?_
            refine gstepB rfl rfl (run_move (.tmp rfl)) ?_
            refine lyes rfl rfl rfl rfl ?_
            refine gstepB rfl rfl (run_move (.tmp rfl)) ?_
            refine lyes rfl rfl rfl rfl ?_
            refine gstepB rfl rfl (run_neq (.tmp rfl) .const (by first | exact decide_eq_true (by omega) | exact decide_eq_false (by omega) | exact rfl)) ?_
            refine lyes rfl rfl rfl rfl ?_
            refine gstepB rfl rfl (by first | exact run_pick_true (.tmp rfl) .const | exact run_pick_false (.tmp rfl) (.tmp rfl)) ?_
            refine lyes rfl rfl rfl rfl ?_
            refine gstepB rfl rfl (by first | exact run_pick_true (.tmp rfl) (.tmp rfl) | exact run_pick_false (.tmp rfl) .const) ?_
            refine lstepB rfl rfl rfl (by first | exact run_pick_true (.tmp rfl) .const | exact run_pick_false (.tmp rfl) (.tmp rfl)) ?_
            refine lnil ?_
            refine xw_then ?_
            refine cw_cond_false (.tmp rfl) ?_
            refine cw_skip ?_
            exact xw_meet () trivial (by repeat (first | exact Less.nil | refine Less.cons rfl ?_)) (by repeat (first | exact Pick.nil | (apply Pick.cons; focus (repeat (first | exact Del.here | apply Del.there)))))
          ·
            subst e1
            refine cw_seq ?_
            refine cw_region ?_
            refine lstepB rfl rfl rfl (run_loadN (.tmp rfl) kd25 sz25 (by repeat (first | exact List.Mem.head _ | apply List.Mem.tail)) (by repeat (first | exact Sub.done | apply Sub.take | apply Sub.skip))) ?_
            refine lstepB rfl rfl rfl (run_move (.tmp rfl)) ?_
            refine lstepB rfl rfl rfl (run_call1 cb25 (.cons (.tmp rfl) (.cons (.tmp rfl) .nil)) (fun w hS => proofK hD hp hS.kept hp1 hp2)) ?_
            refine lstepB rfl rfl rfl (run_move (.tmp rfl)) ?_
            refine lstepB rfl rfl rfl (run_extract (.tmp rfl) rfl) ?_
            refine lstepB rfl rfl rfl (run_extract (.tmp rfl) rfl) ?_
            refine lstepB rfl rfl rfl (run_assign (.tmp rfl)) ?_
            refine lstepB rfl rfl rfl (run_assign (.tmp rfl)) ?_
            refine lnil ?_
            refine xw_then ?_
            refine cw_seq ?_
            refine cw_region ?_
            refine lstepB rfl rfl rfl (run_move (.tmp rfl)) ?_
            refine lstepB rfl rfl rfl (run_eql (.tmp rfl) .const (by first | exact decide_eq_true (by omega) | exact decide_eq_false (by omega) | exact rfl)) ?_
            refine lstepB rfl rfl rfl (run_move (.tmp rfl)) ?_
            refine lyes rfl rfl rfl rfl ?_
            refine gstepB rfl rfl (run_move (.tmp rfl)) ?_
            refine lyes rfl rfl rfl rfl ?_
            refine gstepB rfl rfl (run_move (.tmp rfl)) ?_
            refine lyes rfl rfl rfl rfl ?_
            refine gstepB rfl rfl (run_neq (.tmp rfl) (.tmp rfl) (by first | exact decide_eq_true (by omega) | exact decide_eq_false (by omega) | exact rfl)) ?_
            refine lstepB rfl rfl rfl (by first | exact run_pick_true (.tmp rfl) (.tmp rfl) | exact run_pick_false (.tmp rfl) .const) ?_
            refine lstepB rfl rfl rfl (run_move (.tmp rfl)) ?_
            refine lyes rfl rfl rfl rfl ?_
            refine gstepB rfl rfl (run_move (.tmp rfl)) ?_
            refine lyes rfl rfl rfl rfl ?_
            refine gstepB rfl rfl (run_neq (.tmp rfl) .const (by first | exact decide_eq_true (by omega) | exact decide_eq_false (by omega) | exact rfl)) ?_
            refine lyes rfl rfl rfl rfl ?_
            refine gstepB rfl rfl (run_move (.tmp rfl)) ?_
            refine lskip rfl rfl rfl rfl rfl rfl rfl ?_
            refine lskip rfl rfl rfl rfl rfl rfl rfl ?_
            refine lskip rfl rfl rfl rfl rfl rfl rfl ?_
            refine lskip rfl rfl rfl rfl rfl rfl rfl ?_
            refine lskip rfl rfl rfl rfl rfl rfl rfl ?_
            refine lskip rfl rfl rfl rfl rfl rfl rfl ?_
            refine lyes rfl rfl rfl rfl ?_
            refine gstepB rfl rfl (by first | exact run_pick_true (.tmp rfl) (.tmp rfl) | exact run_pick_false (.tmp rfl) .const) ?_
            refine lstepB rfl rfl rfl (by first | exact run_pick_true (.tmp rfl) .const | exact run_pick_false (.tmp rfl) (.tmp rfl)) ?_
            refine lnil ?_
            refine xw_then ?_
            refine cw_cond_false (.tmp rfl) ?_
            refine cw_skip ?_
            exact xw_meet () trivial (by repeat (first | exact Less.nil | refine Less.cons rfl ?_)) (by repeat (first | exact Pick.nil | (apply Pick.cons; focus (repeat (first | exact Del.here | apply Del.there)))))
        ·
          intro z _
          refine cw_seq ?_
          refine cw_region ?_
          refine lstepB rfl rfl rfl (run_move (.tmp rfl)) ?_
          refine lstepB rfl rfl rfl (run_len (.tmp rfl) sl46) ?_
          refine lstepB rfl rfl rfl (run_move .const) ?_
          refine lnil ?_
          refine xw_then ?_
          refine cw_block ?_
          refine cw_loop (S := Nat) (fun j => [(177, .int .i64 (j : Int))]) [(3, _), (4, _), (5, _), (9, _), (10, _), (64, _), (65, _), (66, _), (175, _), (176, _)] (fun j => [(b3, Obj.cells [.int .i64 p.side, .slice pa p.ps.length pc, .slice la p.ls.length lc].toArray 25 (0, 0)), (b10, Obj.cells [.int .i64 s.x, .int .i64 s.y].toArray 52 (0, 0))]) (fun j => j ≤ qs.length) (fun j => qs.length - j) 0 (Nat.zero_le _) (by repeat (first | exact Less.nil | refine Less.cons rfl ?_)) (by repeat (first | exact Pick.nil | (apply Pick.cons; focus (repeat (first | exact Del.here | apply Del.there))))) ?_
          intro j hj
          try dsimp only
          refine cw_seq ?_
          refine cw_region ?_
          refine lstepB rfl rfl rfl (run_lss (.tmp rfl) (.tmp rfl) (by first | exact decide_eq_true (by omega) | exact decide_eq_false (by omega) | exact rfl)) ?_
          refine lnil ?_
          refine xw_then ?_
          refine cw_seq ?_
          refine cw_cond_p (.tmp rfl) (fun hlt3 => ?_) (fun hge3 => ?_)
          ·
            have hlt4 : j < qs.length := Int.ofNat_lt.1 hlt3
            obtain ⟨s2, hs2⟩ : ∃ s, qs[j]? = some s := ⟨_, List.getElem?_eq_getElem hlt4⟩
            have hf2 := hD.good.field hs2
            obtain ⟨da, db, had, d1, d2⟩ := hD.apart hs hs2
            refine cw_skip ?_
            refine xw_then ?_
            refine cw_seq ?_
            refine cw_block ?_
            refine cw_seq ?_
            refine cw_region ?_
            refine lstepB rfl rfl rfl (run_move (.tmp rfl)) ?_
            refine lstepB rfl rfl rfl (run_indexAddr (.tmp rfl) (.tmp rfl) el46 (by omega) rfl) ?_
            refine lstepB rfl rfl rfl (run_loadN_at (l := [.int .i64 s2.x, .int .i64 s2.y]) (.tmp rfl) kd52 sz52 rfl (fun w hS jj v hj => hS.old_cell (fun h => h) (hql j s2 hs2 jj v hj))) ?_
            refine lstep rfl rfl rfl (run_alloc zr52) ?_
            intro b21 _
            refine lstepB rfl rfl rfl (run_assign (.tmp rfl)) ?_
            refine lstep0 rfl rfl (run_storeN (.tmp rfl) (.tmp rfl) rfl sz52 rfl (by repeat (first | exact Upd.here | apply Upd.there)) (by repeat (first | exact Put.done | apply Put.put | apply Put.skip))) ?_
            refine lnil ?_
            refine xw_then ?_
            refine cw_seq ?_
            refine cw_region ?_
            refine lstepB rfl rfl rfl (run_loadN (.tmp rfl) kd25 sz25 (by repeat (first | exact List.Mem.head _ | apply List.Mem.tail)) (by repeat (first | exact Sub.done | apply Sub.take | apply Sub.skip))) ?_
            refine lstepB rfl rfl rfl (run_move (.tmp rfl)) ?_
            refine lstepB rfl rfl rfl (run_move (.tmp rfl)) ?_
            refine lstepB rfl rfl rfl (run_call1 cb21 (.cons (.tmp rfl) (.cons (.tmp rfl) (.cons (.tmp rfl) .nil))) (fun w hS => apartK hD hp hS.kept had)) ?_
            refine lstepB rfl rfl rfl (run_move (.tmp rfl)) ?_
            refine lstepB rfl rfl rfl (run_extract (.tmp rfl) rfl) ?_
            refine lstepB rfl rfl rfl (run_extract (.tmp rfl) rfl) ?_
            refine lstep rfl rfl rfl (run_alloc zr32) ?_
            intro b22 _
            refine lstep0 rfl rfl (run_storeN (.tmp rfl) (.tmp rfl) rfl sz32 rfl (by repeat (first | exact Upd.here | apply Upd.there)) (by repeat (first | exact Put.done | apply Put.put | apply Put.skip))) ?_
            refine lstepB rfl rfl rfl (run_assign (.tmp rfl)) ?_
            refine lnil ?_
            refine xw_then ?_
            refine cw_seq ?_
            refine cw_chain2 (σ := [0, 1, 2, 3, 4, 5, 6, 7, 8, 9]) [⟨0, [], [], [], 0⟩, ⟨0, [], [], [], 1⟩, ⟨0, [], [], [], 3⟩, ⟨0, [3], [], [], 7⟩, ⟨0, [1], [], [], 7⟩, ⟨0, [], [], [], 31⟩, ⟨0, [0], [], [], 7⟩, ⟨0, [], [], [], 127⟩, ⟨0, [], [], [], 255⟩, ⟨0, [], [], [], 511⟩] [(0, _), (1, _), (2, _), (3, _)] (by kernel_rfl) (by kernel_rfl) rfl ?_
            refine .det (B := []) rfl rfl (.inl rfl) .nil .nil rfl (RunB.lr (run_move (.tmp rfl))) ?_
            refine .det (B := []) rfl rfl (.inl rfl) .nil .nil rfl (RunB.lr (run_neq (.tmp rfl) .const (by first | exact decide_eq_true (by omega) | exact decide_eq_false (by omega) | exact rfl))) ?_
            refine .det (B := []) rfl rfl (.inl rfl) .nil .nil rfl (RunB.lr (run_move (.tmp rfl))) ?_
            refine .det (B := []) rfl rfl (.inr ⟨_, _, _, rfl, rfl, rfl⟩) (.cons rfl .nil) .nil rfl (RunB.lr (run_loadN (.tmp rfl) kd52 sz52 (by repeat (first | exact List.Mem.head _ | apply List.Mem.tail)) (by repeat (first | exact Sub.done | apply Sub.take | apply Sub.skip)))) ?_
            refine .det (B := []) rfl rfl (.inr ⟨_, _, _, rfl, rfl, rfl⟩) (.cons rfl .nil) .nil rfl (RunB.lr (run_loadN (.tmp rfl) kd52 sz52 (by repeat (first | exact List.Mem.head _ | apply List.Mem.tail)) (by repeat (first | exact Sub.done | apply Sub.take | apply Sub.skip)))) ?_
            refine .det (B := []) rfl rfl (.inr ⟨_, _, _, rfl, rfl, rfl⟩) .nil .nil rfl (RunB.lr (run_call1 cb33 (.cons (.tmp rfl) (.cons (.tmp rfl) .nil)) (fun w _ => square_any _ _ _ _ (by omega) (by omega) (by omega) (by omega) w))) ?_
            refine .det (B := []) rfl rfl (.inr ⟨_, _, _, rfl, rfl, rfl⟩) (.cons rfl .nil) .nil rfl (RunB.lr (run_loadN (.tmp rfl) kd32 sz32 (by repeat (first | exact List.Mem.head _ | apply List.Mem.tail)) (by repeat (first | exact Sub.done | apply Sub.take | apply Sub.skip)))) ?_
            refine .det (B := []) rfl rfl (.inr ⟨_, _, _, rfl, rfl, rfl⟩) .nil .nil rfl (RunB.lr (run_call1 cb31 (.cons (.tmp rfl) (.cons (.tmp rfl) .nil)) (fun w _ => inK ⟨d1, d2⟩ w))) ?_
            refine .det (B := []) rfl rfl (.inr ⟨_, _, _, rfl, rfl, rfl⟩) .nil .nil rfl (RunB.lr (run_not (.tmp rfl) (by first | exact Bool.not_true | exact Bool.not_false | exact rfl))) ?_
            refine .det (B := []) rfl rfl (.inl rfl) .nil .nil rfl (RunB.lr (by first | exact run_pick_true (.tmp rfl) .const | exact run_pick_false (.tmp rfl) (.tmp rfl))) ?_
            refine chain_nil (ts := [0, 1, 2, 3]) (.cons rfl (.cons rfl (.cons rfl (.cons rfl .nil)))) (by decide) ?_
            refine xw_then ?_
            refine cw_cond_false (.tmp rfl) ?_
            refine cw_skip ?_
            refine xw_in ?_
            refine xw_then ?_
            refine cw_region ?_
            refine lstepB rfl rfl rfl (run_add (.tmp rfl) .const (by first | exact IntWalk.i64_in _ (by omega) | exact rfl)) ?_
            refine lstepB rfl rfl rfl (run_move (.tmp rfl)) ?_
            refine lnil ?_
            exact xw_round (j + 1) (by omega) (by omega) (by repeat (first | exact Less.nil | refine Less.cons rfl ?_)) (by repeat (first | exact Pick.nil | (apply Pick.cons; focus (repeat (first | exact Del.here | apply Del.there)))))
          ·
            refine cw_exit ?_
            refine xw_then_exit ?_
            refine xw_then_exit ?_
            refine xw_in_exit ?_
            refine xw_in ?_
            refine xw_then ?_
            refine cw_region ?_
            refine lstepB rfl rfl rfl (run_add (.tmp rfl) .const (by first | exact IntWalk.i64_in _ (by omega) | exact rfl)) ?_
            refine lstepB rfl rfl rfl (run_move (.tmp rfl)) ?_
            refine lnil ?_
            exact xw_round (i + 1) (by omega) (by omega) (by repeat (first | exact Less.nil | refine Less.cons rfl ?_)) (by repeat (first | exact Pick.nil | (apply Pick.cons; focus (repeat (first | exact Del.here | apply Del.there)))))
    ·
      refine cw_exit ?_
      refine xw_then_exit ?_
      refine xw_then_exit ?_
      refine xw_in_exit ?_
      refine xw_then ?_
      refine cw_seq ?_
      refine cw_seq ?_
      refine cw_region ?_
      refine lstepB rfl rfl rfl (run_move (.tmp rfl)) ?_
      refine lstepB rfl rfl rfl (run_len (.tmp rfl) sl46) ?_
      refine lstepB rfl rfl rfl (run_eql (.tmp rfl) .const (by first | exact decide_eq_true (by omega) | exact decide_eq_false (by omega) | exact rfl)) ?_
      refine lnil ?_
      refine xw_then ?_
      refine cw_cond_p (.tmp rfl) (fun h3 => ?_) (fun h3 => ?_)
      ·
        have hq3 : qs.length = 3 := by have h : (qs.length : Int) = 3 := h3; omega
        obtain ⟨qb, qo, hqa, hqb, hql⟩ := hq.at_ (by omega)
        subst hqa
        obtain ⟨r, hr⟩ : ∃ s, qs[0]? = some s := ⟨_, List.getElem?_eq_getElem (by omega)⟩
        obtain ⟨s, hs⟩ : ∃ s, qs[1]? = some s := ⟨_, List.getElem?_eq_getElem (by omega)⟩
        obtain ⟨t, ht⟩ : ∃ s, qs[2]? = some s := ⟨_, List.getElem?_eq_getElem (by omega)⟩
        have hfr := hD.good.field hr
        have hfs := hD.good.field hs
        have hft := hD.good.field ht
        obtain ⟨aa, ab, har, a1, a2⟩ := hD.area hr hs ht
        refine cw_seq ?_
        refine cw_region ?_
        refine lstepB rfl rfl rfl (run_loadN (.tmp rfl) kd25 sz25 (by repeat (first | exact List.Mem.head _ | apply List.Mem.tail)) (by repeat (first | exact Sub.done | apply Sub.take | apply Sub.skip))) ?_
        refine lstepB rfl rfl rfl (run_call1 cb23 (.cons (.tmp rfl) (.cons .const (.cons .const (.cons .const .nil)))) (fun w hS => areaK hD hp hS.kept har)) ?_
        refine lstepB rfl rfl rfl (run_move (.tmp rfl)) ?_
        refine lstepB rfl rfl rfl (run_extract (.tmp rfl) rfl) ?_
        refine lstepB rfl rfl rfl (run_extract (.tmp rfl) rfl) ?_
        refine lstep rfl rfl rfl (run_alloc zr32) ?_
        intro b24 _
        refine lstep0 rfl rfl (run_storeN (.tmp rfl) (.tmp rfl) rfl sz32 rfl (by repeat (first | exact Upd.here | apply Upd.there)) (by repeat (first | exact Put.done | apply Put.put | apply Put.skip))) ?_
        refine lstepB rfl rfl rfl (run_assign (.tmp rfl)) ?_
        refine lnil ?_
        refine xw_then ?_
        refine cw_seq ?_
        refine cw_chain2 (σ := [0, 1, 2, 3, 4, 5, 6, 7, 8, 9, 10, 11, 12, 13, 14, 15, 16, 17, 18, 19]) [⟨0, [], [], [], 0⟩, ⟨0, [], [], [], 1⟩, ⟨0, [], [], [], 3⟩, ⟨0, [], [], [], 7⟩, ⟨0, [], [], [], 15⟩, ⟨0, [], [], [], 31⟩, ⟨0, [], [], [], 7⟩, ⟨0, [], [], [], 71⟩, ⟨0, [], [], [], 199⟩, ⟨0, [], [], [], 7⟩, ⟨0, [], [], [], 519⟩, ⟨0, [], [], [], 1543⟩, ⟨0, [], [], [], 4095⟩, ⟨0, [0], [], [], 7⟩, ⟨0, [], [], [], 16383⟩, ⟨0, [], [], [], 32767⟩, ⟨0, [], [], [], 65535⟩, ⟨0, [], [], [], 131071⟩, ⟨0, [], [], [], 262143⟩, ⟨0, [], [], [], 524287⟩] [(0, _), (1, _)] (by kernel_rfl) (by kernel_rfl) rfl ?_
        refine .det (B := []) rfl rfl (.inl rfl) .nil .nil rfl (RunB.lr (run_move (.tmp rfl))) ?_
        refine .det (B := []) rfl rfl (.inl rfl) .nil .nil rfl (RunB.lr (run_eql (.tmp rfl) .const (by first | exact decide_eq_true (by omega) | exact decide_eq_false (by omega) | exact rfl))) ?_
        refine .det (B := []) rfl rfl (.inl rfl) .nil .nil rfl (RunB.lr (run_move (.tmp rfl))) ?_
        refine .det (B := []) rfl rfl (.inr ⟨_, _, _, rfl, rfl, rfl⟩) .nil .nil rfl (RunB.lr (run_move (.tmp rfl))) ?_
        refine .det (B := []) rfl rfl (.inr ⟨_, _, _, rfl, rfl, rfl⟩) .nil .nil rfl (RunB.lr (run_indexAddr (i := 0) (.tmp rfl) .const el46 (by omega) rfl)) ?_
        refine .det (B := []) rfl rfl (.inr ⟨_, _, _, rfl, rfl, rfl⟩) .nil .nil rfl (RunB.lr (run_loadN_at (l := [.int .i64 r.x, .int .i64 r.y]) (.tmp rfl) kd52 sz52 rfl (fun w hS jj v hj => hS.old_cell (fun h => h) (hql 0 r hr jj v hj)))) ?_
        refine .det (B := []) rfl rfl (.inr ⟨_, _, _, rfl, rfl, rfl⟩) .nil .nil rfl (RunB.lr (run_move (.tmp rfl))) ?_
        refine .det (B := []) rfl rfl (.inr ⟨_, _, _, rfl, rfl, rfl⟩) .nil .nil rfl (RunB.lr (run_indexAddr (i := 1) (.tmp rfl) .const el46 (by omega) rfl)) ?_
        refine .det (B := []) rfl rfl (.inr ⟨_, _, _, rfl, rfl, rfl⟩) .nil .nil rfl (RunB.lr (run_loadN_at (l := [.int .i64 s.x, .int .i64 s.y]) (.tmp rfl) kd52 sz52 rfl (fun w hS jj v hj => hS.old_cell (fun h => h) (hql 1 s hs jj v hj)))) ?_
        refine .det (B := []) rfl rfl (.inr ⟨_, _, _, rfl, rfl, rfl⟩) .nil .nil rfl (RunB.lr (run_move (.tmp rfl))) ?_
        refine .det (B := []) rfl rfl (.inr ⟨_, _, _, rfl, rfl, rfl⟩) .nil .nil rfl (RunB.lr (run_indexAddr (i := 2) (.tmp rfl) .const el46 (by omega) rfl)) ?_
        refine .det (B := []) rfl rfl (.inr ⟨_, _, _, rfl, rfl, rfl⟩) .nil .nil rfl (RunB.lr (run_loadN_at (l := [.int .i64 t.x, .int .i64 t.y]) (.tmp rfl) kd52 sz52 rfl (fun w hS jj v hj => hS.old_cell (fun h => h) (hql 2 t ht jj v hj)))) ?_
        refine .det (B := []) rfl rfl (.inr ⟨_, _, _, rfl, rfl, rfl⟩) .nil .nil rfl (RunB.lr (run_call1 cb34 (.cons (.tmp rfl) (.cons (.tmp rfl) (.cons (.tmp rfl) .nil))) (fun w _ => twice_any r s t (by unfold smallP; omega) (by unfold smallP; omega) (by unfold smallP; omega) w))) ?_
        refine .det (B := []) rfl rfl (.inr ⟨_, _, _, rfl, rfl, rfl⟩) (.cons rfl .nil) .nil rfl (RunB.lr (run_loadN (.tmp rfl) kd32 sz32 (by repeat (first | exact List.Mem.head _ | apply List.Mem.tail)) (by repeat (first | exact Sub.done | apply Sub.take | apply Sub.skip)))) ?_
        refine .det (B := []) rfl rfl (.inr ⟨_, _, _, rfl, rfl, rfl⟩) .nil .nil rfl (RunB.lr (run_call1 cb31 (.cons (.tmp rfl) (.cons (.tmp rfl) .nil)) (fun w _ => inK ⟨a1, a2⟩ w))) ?_
        refine .det (B := []) rfl rfl (.inl rfl) .nil .nil rfl (RunB.lr (by first | exact run_pick_true (.tmp rfl) (.tmp rfl) | exact run_pick_false (.tmp rfl) .const)) ?_
        refine .det (B := []) rfl rfl (.inl rfl) .nil .nil rfl (RunB.lr (run_move (.tmp rfl))) ?_
        refine .det (B := []) rfl rfl (.inr ⟨_, _, _, rfl, rfl, rfl⟩) .nil .nil rfl (RunB.lr (run_call1 cb12 .nil (fun w _ => aliveK w))) ?_
        refine .det (B := []) rfl rfl (.inl rfl) .nil .nil rfl (RunB.lr (by first | exact run_pick_true (.tmp rfl) (.tmp rfl) | exact run_pick_false (.tmp rfl) .const)) ?_
        refine .det (B := []) rfl rfl (.inl rfl) .nil .nil rfl (RunB.lr (run_assign (.tmp rfl))) ?_
        refine chain_nil (ts := [0, 1]) (.cons rfl (.cons rfl .nil)) (by decide) ?_
        refine xw_then ?_
        refine cw_ret ?_
        refine xw_then_ret ?_
        refine xw_ret1 Try.results6 rfl (fun w2 hS => ⟨rfl, below_two hBelow hS.kept⟩)
      ·
        refine cw_skip ?_
        refine xw_then ?_
        refine cw_seq ?_
        refine cw_region ?_
        refine lstepB rfl rfl rfl (run_call1 cb12 .nil (fun w _ => aliveK w)) ?_
        refine lstepB rfl rfl rfl (run_assign (.tmp rfl)) ?_
        refine lnil ?_
        refine xw_then ?_
        refine cw_ret ?_
        refine xw_ret1 Try.results6 rfl (fun w2 hS => ⟨rfl, below_two hBelow hS.kept⟩)
set_option maxRecDepth 100000 in
set_option maxHeartbeats 4000000 in
theorem true_none (pa : Option Addr) (cap : Nat) (w : World) :
    Calls Try.prog 6 [.slice pa 0 cap].toArray w fun e w' => e = .returned (.bool true) ∧ Below w.heap.size w w' := by
  refine enter (n := 229) Try.func6 rfl rfl rfl (by repeat (first | exact Fill.nil | apply Fill.cons)) ?_
  refine cw_seq ?_
  refine cw_region ?_
  refine lstepB rfl rfl rfl (run_assign .const) ?_
  refine lnil ?_
  refine xw_then ?_
  refine cw_seq ?_
  refine cw_seq ?_
  refine cw_region ?_
  refine lstepB rfl rfl rfl (run_move (.tmp rfl)) ?_
  refine lstepB rfl rfl rfl (run_len (.tmp rfl) sl45) ?_
  refine lstepB rfl rfl rfl (run_eql (.tmp rfl) .const (by first | exact decide_eq_true (by omega) | exact decide_eq_false (by omega) | exact rfl)) ?_
  refine lnil ?_
  refine xw_then ?_
  refine cw_cond_true (.tmp rfl) ?_
  refine cw_seq ?_
  refine cw_region ?_
  refine lstepB rfl rfl rfl (run_call1 cb12 .nil (fun w _ => aliveK w)) ?_
  refine lstepB rfl rfl rfl (run_assign (.tmp rfl)) ?_
  refine lnil ?_
  refine xw_then ?_
  refine cw_ret ?_
  refine xw_then_ret ?_
  refine xw_ret1 Try.results6 rfl (fun w2 hS => ⟨rfl, hS.kept⟩)
end Go.Proofs.Ytkjciobphbcknaa
