/- PegTurned: what its walk calls, by the engine. -/
import Derived.Test.YtkjciobphbcknaaTN
import Derived.Test.YtkjciobphbcknaaEZ
import Derived.Test.YtkjciobphbcknaaTT
import Derived.Test.YtkjciobphbcknaaBB
namespace Go.Proofs.Ytkjciobphbcknaa
open Go.RowKit En

def Seen (q : Post) (x y u v : Int) : Prop := q.xlo ≤ u ∧ u ≤ q.xhi ∧ q.ylo ≤ v ∧ v ≤ q.yhi ∧ (u < x ∨ u = x ∧ v < y)
structure FarI (D : Int → Int → Int) (q : Post) (x y b : Int) : Prop where
  lo : -1 ≤ b
  none : b < 0 → ∀ u v, ¬ Seen q x y u v
  low : ∀ u v, Seen q x y u v → b ≤ D u v
  is : 0 ≤ b → ∃ u v, Seen q x y u v ∧ b = D u v
theorem FarI.start (D : Int → Int → Int) (q : Post) : FarI D q q.xlo q.ylo (-1) :=
  ⟨by omega, fun _ u v h => by unfold Seen at h; omega, fun u v h => by unfold Seen at h; omega, fun h => by omega⟩
theorem FarI.same {D : Int → Int → Int} {q : Post} {x y x' y' b : Int} (h : FarI D q x y b) (hs : ∀ u v, Seen q x' y' u v ↔ Seen q x y u v) : FarI D q x' y' b :=
  ⟨h.lo, fun hb u v hv => h.none hb u v ((hs u v).1 hv), fun u v hv => h.low u v ((hs u v).1 hv), fun hb => by obtain ⟨u, v, h1, h2⟩ := h.is hb; exact ⟨u, v, (hs u v).2 h1, h2⟩⟩
theorem FarI.col {D : Int → Int → Int} {q : Post} {x y b : Int} (h : FarI D q x y b) (hy : ¬ y ≤ q.yhi) : FarI D q (x + 1) q.ylo b := h.same fun u v => by unfold Seen; omega
theorem FarI.stepD {D : Int → Int → Int} {q : Post} {x y b : Int} (h : FarI D q x y b) (h0 : 0 ≤ D x y) (hx : q.xlo ≤ x ∧ x ≤ q.xhi) (hy : q.ylo ≤ y ∧ y ≤ q.yhi) (hb : b < 0 ∨ D x y < b) : FarI D q x (y + 1) (D x y) :=
  ⟨by omega, fun hn => by omega, fun u v hv => by
    by_cases e : u = x ∧ v = y
    · rw [e.1, e.2]; exact Int.le_refl _
    · have hs : Seen q x y u v := by unfold Seen at hv ⊢; omega
      rcases hb with hb | hb
      · exact absurd hs (h.none hb u v)
      · have := h.low u v hs; omega, fun _ => ⟨x, y, by unfold Seen; omega, rfl⟩⟩
theorem FarI.stepN {D : Int → Int → Int} {q : Post} {x y b : Int} (h : FarI D q x y b) (hb : 0 ≤ b) (hd : ¬ D x y < b) : FarI D q x (y + 1) b :=
  ⟨h.lo, fun hn => by omega, fun u v hv => by
    by_cases e : u = x ∧ v = y
    · rw [e.1, e.2]; omega
    · exact h.low u v (by unfold Seen at hv ⊢; omega), fun _ => by obtain ⟨u, v, h1, h2⟩ := h.is hb; exact ⟨u, v, by unfold Seen at h1 ⊢; omega, h2⟩⟩
theorem sq_monoF {a x : Int} (h0 : 0 ≤ a) (h : a ≤ x ∨ a ≤ -x) : a * a ≤ x * x := by
  rcases h with h | h
  · exact Int.mul_le_mul h h h0 (by omega)
  · have := Int.mul_le_mul h h h0 (by omega); rwa [Int.neg_mul_neg] at this
theorem beyond_sq {n lo hi u : Int} (h : lo ≤ u ∧ u ≤ hi) : beyondI n lo hi * beyondI n lo hi ≤ (n - u) * (n - u) := sq_monoF (by unfold beyondI; omega) (by unfold beyondI; omega)
theorem beyond_at {n lo hi : Int} (h : lo ≤ hi) : ∃ u, lo ≤ u ∧ u ≤ hi ∧ (n - u) * (n - u) = beyondI n lo hi * beyondI n lo hi := by
  by_cases h1 : n < lo
  · exact ⟨lo, by omega, h, by rw [show beyondI n lo hi = -(n - lo) by unfold beyondI; omega, Int.neg_mul_neg]⟩
  · by_cases h2 : hi < n
    · exact ⟨hi, h, by omega, by rw [show beyondI n lo hi = n - hi by unfold beyondI; omega]⟩
    · exact ⟨n, by omega, by omega, by rw [show beyondI n lo hi = n - n by unfold beyondI; omega]⟩
theorem FarI.done {s : Pl} {q : Post} {x b : Int} (h : FarI (fun u v => sqI s.x s.y u v) q x q.ylo b) (hx : ¬ x ≤ q.xhi) (h1 : q.xlo ≤ q.xhi) (h2 : q.ylo ≤ q.yhi) : b = backI s q := by
  obtain ⟨u, a1, a2, a3⟩ := beyond_at (n := s.x) h1
  obtain ⟨v, b1, b2, b3⟩ := beyond_at (n := s.y) h2
  have hs : Seen q x q.ylo u v := by unfold Seen; omega
  have e := h.low u v hs
  have hb : 0 ≤ b := by
    by_cases hb : 0 ≤ b
    · exact hb
    · exact absurd hs (h.none (by omega) u v)
  obtain ⟨u', v', c1, c2⟩ := h.is hb
  unfold Seen at c1
  have d1 := beyond_sq (n := s.x) (lo := q.xlo) (hi := q.xhi) (u := u') (by omega)
  have d2 := beyond_sq (n := s.y) (lo := q.ylo) (hi := q.yhi) (u := v') (by omega)
  simp only [sqI, a3, b3] at e
  simp only [sqI] at c2
  unfold backI
  omega
structure LF where
  x : Int
  b : Int
theorem sqI_nonneg (a b c d : Int) : 0 ≤ sqI a b c d := by
  have e : ∀ u : Int, 0 ≤ u * u := fun u => by
    rcases Int.le_total 0 u with h | h
    · exact Int.mul_nonneg h h
    · have := Int.mul_nonneg (show 0 ≤ -u by omega) (show 0 ≤ -u by omega); rwa [Int.neg_mul_neg] at this
  have := e (a - c); have := e (b - d); unfold sqI; omega
set_option maxRecDepth 100000 in
set_option maxHeartbeats 4000000 in
theorem far_any (s : Pl) (q : Post) (hs : 0 ≤ s.x ∧ s.x ≤ 15 ∧ 0 ≤ s.y ∧ s.y ≤ 15) (hq1 : q.xlo ≤ q.xhi) (hq2 : q.ylo ≤ q.yhi) (hq3 : 0 ≤ q.xlo ∧ q.xhi ≤ 15 ∧ 0 ≤ q.ylo ∧ q.yhi ≤ 15) (w : World) : Gives Try.prog 32 [.agg [.int .i64 s.x, .int .i64 s.y].toArray, .agg [.int .i64 q.xlo, .int .i64 q.xhi, .int .i64 q.ylo, .int .i64 q.yhi].toArray] w (.int .i64 (backI s q)) := by
  refine .mk <| enter (n := 43) Try.func32 rfl rfl rfl (by repeat (first | exact Fill.nil | apply Fill.cons)) ?_
  refine cw_seq ?_
  refine cw_region ?_
  refine lstep rfl rfl rfl (run_boxN (.tmp rfl)) ?_
  intro b2 _
  refine lstep rfl rfl rfl (run_boxN (.tmp rfl)) ?_
  intro b3 _
  refine lstepB rfl rfl rfl (run_assign .const) ?_
  refine lnil ?_
  refine xw_then ?_
  refine cw_seq ?_
  refine cw_region ?_
  refine lstepB rfl rfl rfl (run_assign .const) ?_
  refine lnil ?_
  refine xw_then ?_
  refine cw_seq ?_
  refine cw_seq ?_
  refine cw_region ?_
  refine lstepB rfl rfl rfl (run_fieldAddr (.tmp rfl) fa56_0 (by first | exact Nat.zero_add _ | exact rfl)) ?_
  refine lstepB rfl rfl rfl (run_fieldAddr (.tmp rfl) fa32_0 (by first | exact Nat.zero_add _ | exact rfl)) ?_
  refine lstepB rfl rfl rfl (run_load1 (.tmp rfl) kd3 (by repeat (first | exact List.Mem.head _ | apply List.Mem.tail)) (by exact rfl)) ?_
  refine lstepB rfl rfl rfl (run_assign (.tmp rfl)) ?_
  refine lnil ?_
  refine xw_then ?_
  refine cw_block ?_
  refine cw_loop (S := LF) (fun z => [(6, .int .i64 z.x), (5, .int .i64 z.b)]) [(2, _), (3, _), (4, _)] (fun z => [(b3, Obj.cells [.int .i64 q.xlo, .int .i64 q.xhi, .int .i64 q.ylo, .int .i64 q.yhi].toArray 56 (0, 0)), (b2, Obj.cells [.int .i64 s.x, .int .i64 s.y].toArray 52 (0, 0))]) (fun z => FarI (fun u v => sqI s.x s.y u v) q z.x q.ylo z.b ∧ q.xlo ≤ z.x ∧ z.x ≤ q.xhi + 1) (fun z => (q.xhi + 1 - z.x).toNat) ⟨q.xlo, -1⟩ ⟨FarI.start _ q, Int.le_refl _, by simp only; omega⟩ (by repeat (first | exact Less.nil | refine Less.cons rfl ?_)) (by repeat (first | exact Pick.nil | (apply Pick.cons; focus (repeat (first | exact Del.here | apply Del.there))))) ?_
  intro z hz
  obtain ⟨x, b⟩ := z
  obtain ⟨hI, hx, hx2⟩ := hz
  simp only at hI hx hx2
  dsimp only
  refine cw_seq ?_
  refine cw_seq ?_
  refine cw_region ?_
  refine lstepB rfl rfl rfl (run_move (.tmp rfl)) ?_
  refine lstepB rfl rfl rfl (run_fieldAddr (.tmp rfl) fa56_0 (by first | exact Nat.zero_add _ | exact rfl)) ?_
  refine lstepB rfl rfl rfl (run_fieldAddr (.tmp rfl) fa32_1 (by first | exact Nat.zero_add _ | exact rfl)) ?_
  refine lstepB rfl rfl rfl (run_load1 (.tmp rfl) kd3 (by repeat (first | exact List.Mem.head _ | apply List.Mem.tail)) (by exact rfl)) ?_
  refine lstepB rfl rfl rfl (run_leq (.tmp rfl) (.tmp rfl) (by first | exact decide_eq_true (by omega) | exact decide_eq_false (by omega) | exact rfl)) ?_
  refine lnil ?_
  refine xw_then ?_
  refine cw_cond_p (.tmp rfl) (fun hle => ?_) (fun hgt => ?_)
  ·
    refine cw_skip ?_
    refine xw_then ?_
    refine cw_seq ?_
    refine cw_block ?_
    refine cw_seq ?_
    refine cw_region ?_
    refine lstepB rfl rfl rfl (run_fieldAddr (.tmp rfl) fa56_1 (by first | exact Nat.zero_add _ | exact rfl)) ?_
    refine lstepB rfl rfl rfl (run_fieldAddr (.tmp rfl) fa32_0 (by first | exact Nat.zero_add _ | exact rfl)) ?_
    refine lstepB rfl rfl rfl (run_load1 (.tmp rfl) kd3 (by repeat (first | exact List.Mem.head _ | apply List.Mem.tail)) (by exact rfl)) ?_
    refine lstepB rfl rfl rfl (run_assign (.tmp rfl)) ?_
    refine lnil ?_
    refine xw_then ?_
    refine cw_block ?_
    refine cw_loop (S := LF) (fun z => [(7, .int .i64 z.x), (5, .int .i64 z.b)]) [(2, _), (3, _), (4, _), (6, _)] (fun z => [(b3, Obj.cells [.int .i64 q.xlo, .int .i64 q.xhi, .int .i64 q.ylo, .int .i64 q.yhi].toArray 56 (0, 0)), (b2, Obj.cells [.int .i64 s.x, .int .i64 s.y].toArray 52 (0, 0))]) (fun z => FarI (fun u v => sqI s.x s.y u v) q x z.x z.b ∧ q.ylo ≤ z.x ∧ z.x ≤ q.yhi + 1) (fun z => (q.yhi + 1 - z.x).toNat) ⟨q.ylo, b⟩ ⟨hI, Int.le_refl _, by simp only; omega⟩ (by repeat (first | exact Less.nil | refine Less.cons rfl ?_)) (by repeat (first | exact Pick.nil | (apply Pick.cons; focus (repeat (first | exact Del.here | apply Del.there))))) ?_
    intro z hz
    obtain ⟨y, c⟩ := z
    obtain ⟨hJ, hy, hy2⟩ := hz
    simp only at hJ hy hy2
    dsimp only
    refine cw_seq ?_
    refine cw_seq ?_
    refine cw_region ?_
    refine lstepB rfl rfl rfl (run_move (.tmp rfl)) ?_
    refine lstepB rfl rfl rfl (run_fieldAddr (.tmp rfl) fa56_1 (by first | exact Nat.zero_add _ | exact rfl)) ?_
    refine lstepB rfl rfl rfl (run_fieldAddr (.tmp rfl) fa32_1 (by first | exact Nat.zero_add _ | exact rfl)) ?_
    refine lstepB rfl rfl rfl (run_load1 (.tmp rfl) kd3 (by repeat (first | exact List.Mem.head _ | apply List.Mem.tail)) (by exact rfl)) ?_
    refine lstepB rfl rfl rfl (run_leq (.tmp rfl) (.tmp rfl) (by first | exact decide_eq_true (by omega) | exact decide_eq_false (by omega) | exact rfl)) ?_
    refine lnil ?_
    refine xw_then ?_
    refine cw_cond_p (.tmp rfl) (fun hle2 => ?_) (fun hgt2 => ?_)
    ·
      have hle3 : y ≤ q.yhi := hle2
      have hle4 : x ≤ q.xhi := hle
      have h0 := sqI_nonneg s.x s.y x y
      by_cases hc : c < 0
      ·
        refine cw_skip ?_
        refine xw_then ?_
        refine cw_seq ?_
        refine cw_block ?_
        refine cw_seq ?_
        refine cw_region ?_
        refine lstepB rfl rfl rfl (run_loadN (.tmp rfl) kd52 sz52 (by repeat (first | exact List.Mem.head _ | apply List.Mem.tail)) (by repeat (first | exact Sub.done | apply Sub.take | apply Sub.skip))) ?_
        refine lstepB rfl rfl rfl (run_move (.tmp rfl)) ?_
        refine lstepB rfl rfl rfl (run_move (.tmp rfl)) ?_
        refine lstepB rfl rfl rfl (run_build_at (.cons (.tmp rfl) (.cons (.tmp rfl) .nil)) (fun w => bd52_0_1 w)) ?_
        refine lstepB rfl rfl rfl (run_call1 cb33 (.cons (.tmp rfl) (.cons (.tmp rfl) .nil)) (fun w _ => square_any _ _ _ _ (by omega) (by omega) (by omega) (by omega) w)) ?_
        refine lstepB rfl rfl rfl (run_assign (.tmp rfl)) ?_
        refine lnil ?_
        refine xw_then ?_
        refine cw_seq ?_
        refine cw_region ?_
        refine lstepB rfl rfl rfl (run_move (.tmp rfl)) ?_
        refine lstepB rfl rfl rfl (run_lss (.tmp rfl) .const (by first | exact decide_eq_true (by omega) | exact decide_eq_false (by omega) | exact rfl)) ?_
        refine lstepB rfl rfl rfl (run_move (.tmp rfl)) ?_
        refine lskip rfl rfl rfl rfl rfl rfl rfl ?_
        refine lskip rfl rfl rfl rfl rfl rfl rfl ?_
        refine lskip rfl rfl rfl rfl rfl rfl rfl ?_
        refine lstepB rfl rfl rfl (by first | exact run_pick_true (.tmp rfl) .const | exact run_pick_false (.tmp rfl) (.tmp rfl)) ?_
        refine lnil ?_
        refine xw_then ?_
        refine cw_cond_true (.tmp rfl) ?_
        refine cw_region ?_
        refine lstepB rfl rfl rfl (run_move (.tmp rfl)) ?_
        refine lstepB rfl rfl rfl (run_assign (.tmp rfl)) ?_
        refine lnil ?_
        refine xw_in ?_
        refine xw_then ?_
        refine cw_region ?_
        refine lstepB rfl rfl rfl (run_move (.tmp rfl)) ?_
        refine lstepB rfl rfl rfl (run_add (.tmp rfl) .const (by first | exact IntWalk.i64_in _ (by omega) | exact rfl)) ?_
        refine lstepB rfl rfl rfl (run_assign (.tmp rfl)) ?_
        refine lnil ?_
        exact xw_round ⟨y + 1, _⟩ ⟨hJ.stepD h0 ⟨hx, hle4⟩ ⟨hy, hle3⟩ (.inl hc), by simp only; omega, by simp only; omega⟩ (by simp only; omega) (by repeat (first | exact Less.nil | refine Less.cons rfl ?_)) (by repeat (first | exact Pick.nil | (apply Pick.cons; focus (repeat (first | exact Del.here | apply Del.there)))))
      ·
        refine cw_skip ?_
        refine xw_then ?_
        refine cw_seq ?_
        refine cw_block ?_
        refine cw_seq ?_
        refine cw_region ?_
        refine lstepB rfl rfl rfl (run_loadN (.tmp rfl) kd52 sz52 (by repeat (first | exact List.Mem.head _ | apply List.Mem.tail)) (by repeat (first | exact Sub.done | apply Sub.take | apply Sub.skip))) ?_
        refine lstepB rfl rfl rfl (run_move (.tmp rfl)) ?_
        refine lstepB rfl rfl rfl (run_move (.tmp rfl)) ?_
        refine lstepB rfl rfl rfl (run_build_at (.cons (.tmp rfl) (.cons (.tmp rfl) .nil)) (fun w => bd52_0_1 w)) ?_
        refine lstepB rfl rfl rfl (run_call1 cb33 (.cons (.tmp rfl) (.cons (.tmp rfl) .nil)) (fun w _ => square_any _ _ _ _ (by omega) (by omega) (by omega) (by omega) w)) ?_
        refine lstepB rfl rfl rfl (run_assign (.tmp rfl)) ?_
        refine lnil ?_
        refine xw_then ?_
        refine cw_seq ?_
        refine cw_region ?_
        refine lstepB rfl rfl rfl (run_move (.tmp rfl)) ?_
        refine lstepB rfl rfl rfl (run_lss (.tmp rfl) .const (by first | exact decide_eq_true (by omega) | exact decide_eq_false (by omega) | exact rfl)) ?_
        refine lstepB rfl rfl rfl (run_move (.tmp rfl)) ?_
        refine lyes rfl rfl rfl rfl ?_
        refine gstepB rfl rfl (run_move (.tmp rfl)) ?_
        refine lyes rfl rfl rfl rfl ?_
        refine gstepB rfl rfl (run_move (.tmp rfl)) ?_
        refine lyes rfl rfl rfl rfl ?_
        refine gstepB rfl rfl (run_lss (.tmp rfl) (.tmp rfl) (by first | exact decide_eq_true (by omega) | exact decide_eq_false (by omega) | exact rfl)) ?_
        refine lstepB rfl rfl rfl (by first | exact run_pick_true (.tmp rfl) .const | exact run_pick_false (.tmp rfl) (.tmp rfl)) ?_
        refine lnil ?_
        refine xw_then ?_
        refine cw_cond_p (.tmp rfl) (fun hlt => ?_) (fun hlt => ?_)
        ·
          refine cw_region ?_
          refine lstepB rfl rfl rfl (run_move (.tmp rfl)) ?_
          refine lstepB rfl rfl rfl (run_assign (.tmp rfl)) ?_
          refine lnil ?_
          refine xw_in ?_
          refine xw_then ?_
          refine cw_region ?_
          refine lstepB rfl rfl rfl (run_move (.tmp rfl)) ?_
          refine lstepB rfl rfl rfl (run_add (.tmp rfl) .const (by first | exact IntWalk.i64_in _ (by omega) | exact rfl)) ?_
          refine lstepB rfl rfl rfl (run_assign (.tmp rfl)) ?_
          refine lnil ?_
          exact xw_round ⟨y + 1, _⟩ ⟨hJ.stepD h0 ⟨hx, hle4⟩ ⟨hy, hle3⟩ (.inr hlt), by simp only; omega, by simp only; omega⟩ (by simp only; omega) (by repeat (first | exact Less.nil | refine Less.cons rfl ?_)) (by repeat (first | exact Pick.nil | (apply Pick.cons; focus (repeat (first | exact Del.here | apply Del.there)))))
        ·
          refine cw_skip ?_
          refine xw_in ?_
          refine xw_then ?_
          refine cw_region ?_
          refine lstepB rfl rfl rfl (run_move (.tmp rfl)) ?_
          refine lstepB rfl rfl rfl (run_add (.tmp rfl) .const (by first | exact IntWalk.i64_in _ (by omega) | exact rfl)) ?_
          refine lstepB rfl rfl rfl (run_assign (.tmp rfl)) ?_
          refine lnil ?_
          exact xw_round ⟨y + 1, c⟩ ⟨hJ.stepN (by omega) hlt, by simp only; omega, by simp only; omega⟩ (by simp only; omega) (by repeat (first | exact Less.nil | refine Less.cons rfl ?_)) (by repeat (first | exact Pick.nil | (apply Pick.cons; focus (repeat (first | exact Del.here | apply Del.there)))))
    ·
      refine cw_exit ?_
      refine xw_then_exit ?_
      refine xw_then_exit ?_
      refine xw_in_exit ?_
      refine xw_in ?_
      refine xw_then ?_
      refine cw_region ?_
      refine lstepB rfl rfl rfl (run_move (.tmp rfl)) ?_
      refine lstepB rfl rfl rfl (run_add (.tmp rfl) .const (by first | exact IntWalk.i64_in _ (by omega) | exact rfl)) ?_
      refine lstepB rfl rfl rfl (run_assign (.tmp rfl)) ?_
      refine lnil ?_
      exact xw_round ⟨x + 1, c⟩ ⟨hJ.col (by first | exact hgt2 | omega), by simp only; omega, by simp only; omega⟩ (by simp only; omega) (by repeat (first | exact Less.nil | refine Less.cons rfl ?_)) (by repeat (first | exact Pick.nil | (apply Pick.cons; focus (repeat (first | exact Del.here | apply Del.there)))))
  ·
    refine cw_exit ?_
    refine xw_then_exit ?_
    refine xw_then_exit ?_
    refine xw_in_exit ?_
    refine xw_then ?_
    refine cw_seq ?_
    refine cw_region ?_
    refine lstepB rfl rfl rfl (run_move (.tmp rfl)) ?_
    refine lstepB rfl rfl rfl (run_assign (.tmp rfl)) ?_
    refine lnil ?_
    refine xw_then ?_
    refine cw_ret ?_
    refine xw_ret1 Try.results32 rfl (fun w hS => ⟨?_, hS.kept⟩)
    rw [hI.done (by first | exact hgt | omega) hq1 hq2]
end Go.Proofs.Ytkjciobphbcknaa
namespace Go.Proofs.Ytkjciobphbcknaa
open Go.RowKit En

section
variable {P : Program} {T : Nat → Prop} {H : Heap} {E : Env} {w0 : World} {x y : Operand} {d : Option Tmp} {tx ty tyy : TypeId} {pos : String} {af : Array Edge} {g : Option (Nat × Bool)}
theorem run_shr_small {S m : Nat} (hx : Ev E x (.int .i64 (S : Int))) (hy : Ev E y (.int .i64 (m : Int))) (hS : S < 8) (hm : m < 3) : RunB P E w0 T H ⟨d, .binOp .shr tx x y tyy, ty, pos, af, g⟩ (.int .i64 ((S / 2 ^ m : Nat) : Int)) := fun ρ w hρ _ => by
  have e := hρ x _ (by simp [Op.operands]) hx
  have e' := hρ y _ (by simp [Op.operands]) hy
  have h1 : ¬ ((m : Int) < 0) := by omega
  have h2 : min m 64 = m := by omega
  have h3 : Int.fdiv (S : Int) (2 ^ m) = ((S / 2 ^ m : Nat) : Int) := by
    have := (by decide +kernel : ∀ a : Fin 8, ∀ b : Fin 3, Int.fdiv (a.1 : Int) (2 ^ b.1) = ((a.1 / 2 ^ b.1 : Nat) : Int)) ⟨S, hS⟩ ⟨m, hm⟩
    exact this
  simp only [execOp, e, e', Done, go_sem, eqGuard, binOp, Op.shift, h1, if_false, Int.toNat_natCast, IntKind.bits, h2, h3]
  exact ⟨rfl, Below.refl _ _⟩
theorem run_and_one {a : Nat} (hx : Ev E x (.int .i64 (a : Int))) (hy : Ev E y (.int .i64 1)) (ha : a < 8) : RunB P E w0 T H ⟨d, .binOp .and tx x y tyy, ty, pos, af, g⟩ (.int .i64 ((a % 2 : Nat) : Int)) := fun ρ w hρ _ => by
  have e := hρ x _ (by simp [Op.operands]) hx
  have e' := hρ y _ (by simp [Op.operands]) hy
  have h3 : bits .and .i64 (a : Int) 1 = ((a % 2 : Nat) : Int) := by
    have := (by decide +kernel : ∀ b : Fin 8, bits .and .i64 (b.1 : Int) 1 = ((b.1 % 2 : Nat) : Int)) ⟨a, ha⟩
    exact this
  simp [execOp, e, e', Done, go_sem, Below.refl, eqGuard, binOp, h3]
theorem run_and_bit {a : Nat} (hx : Ev E x (.int .i64 (a : Int))) (hy : Ev E y (.int .i64 1)) (ha : a < 8) (h : a % 2 = 1) : RunB P E w0 T H ⟨d, .binOp .and tx x y tyy, ty, pos, af, g⟩ (.int .i64 1) := by
  have := run_and_one (P := P) (w0 := w0) (T := T) (H := H) (d := d) (tx := tx) (tyy := tyy) (ty := ty) (pos := pos) (af := af) (g := g) hx hy ha
  rw [h] at this; exact this
end
theorem aliveK (w : World) : Gives Try.prog 12 [] w (.bool true) := ⟨alive_any w⟩
section
variable {p : PegsD} {qs : List Pl} {m : Int} {pa la : Option Addr} {pc lc : Nat} {w1 w : World} (hD : MadeD p qs m) (hp : PegsIn w1 p pa la) (hb : Below w1.heap.size w1 w)
include hD hp hb
theorem movedK {S u : Int} {b : Bool} (h : movedR p = .ok (u, S, b)) : Gives Try.prog 13 [.agg [.int .i64 p.side, .slice pa p.ps.length pc, .slice la p.ls.length lc].toArray] w (.tuple [.int .i64 S, .bool b, .int .i64 0].toArray) :=
  ⟨(moved_any p pa la pc lc w (by have := hD.n3; omega) (by have := hD.l6; omega) (hp.kept hb)).mono fun e w' ⟨h1, k⟩ => ⟨by rw [h1, h]; rfl, k⟩⟩
theorem whereK {i a b c d : Int} (h : whereR p i = .ok ((a, b), (c, d))) : Gives Try.prog 15 [.agg [.int .i64 p.side, .slice pa p.ps.length pc, .slice la p.ls.length lc].toArray, .int .i64 i] w (.tuple [.agg [.int .i64 a, .int .i64 b].toArray, .agg [.int .i64 c, .int .i64 d].toArray, .int .i64 0].toArray) :=
  ⟨(where_any p i pa la pc lc w (by have := hD.n3; omega) (by have := hD.l6; omega) (hp.kept hb)).mono fun e w' ⟨h1, k⟩ => ⟨by rw [h1, h]; rfl, k⟩⟩
theorem placesK {i n : Int} (h : placesR p i = .ok n) : Gives Try.prog 17 [.agg [.int .i64 p.side, .slice pa p.ps.length pc, .slice la p.ls.length lc].toArray, .int .i64 i] w (.tuple [.int .i64 n, .int .i64 0].toArray) :=
  ⟨(places_any p i pa la pc lc w (by have := hD.n3; omega) (by have := hD.l6; omega) (hp.kept hb)).mono fun e w' ⟨h1, k⟩ => ⟨by rw [h1, h]; rfl, k⟩⟩
theorem backK {i a b n : Int} (h : valOf (0, 0) (backR p i) = (a, b)) (h2 : errOf (backR p i) = n) : Gives Try.prog 19 [.agg [.int .i64 p.side, .slice pa p.ps.length pc, .slice la p.ls.length lc].toArray, .int .i64 i] w (.tuple [.agg [.int .i64 a, .int .i64 b].toArray, .int .i64 n].toArray) :=
  ⟨(back_any p i pa la pc lc w (by have := hD.n3; omega) (by have := hD.l6; omega) (hp.kept hb)).mono fun e w' ⟨h1, k⟩ => ⟨by rw [h1, h, h2]; rfl, k⟩⟩
theorem proofK {i x n : Int} (h : valOf 0 (proofR p i) = x) (h2 : errOf (proofR p i) = n) : Gives Try.prog 25 [.agg [.int .i64 p.side, .slice pa p.ps.length pc, .slice la p.ls.length lc].toArray, .int .i64 i] w (.tuple [.int .i64 x, .int .i64 n].toArray) :=
  ⟨(proof_any p i pa la pc lc w (by have := hD.n3; omega) (by have := hD.l6; omega) (hp.kept hb)).mono fun e w' ⟨h1, k⟩ => ⟨by rw [h1, h, h2], k⟩⟩
theorem apartK {i j a b : Int} (h : apartR p i j = .ok (a, b)) : Gives Try.prog 21 [.agg [.int .i64 p.side, .slice pa p.ps.length pc, .slice la p.ls.length lc].toArray, .int .i64 i, .int .i64 j] w (.tuple [.agg [.int .i64 a, .int .i64 b].toArray, .int .i64 0].toArray) :=
  ⟨(apartF_any p i j pa la pc lc w (by have := hD.n3; omega) (by have := hD.l6; omega) (hp.kept hb)).mono fun e w' ⟨h1, k⟩ => ⟨by rw [h1, h]; rfl, k⟩⟩
theorem areaK {i j k a b : Int} (h : areaR p i j k = .ok (a, b)) : Gives Try.prog 23 [.agg [.int .i64 p.side, .slice pa p.ps.length pc, .slice la p.ls.length lc].toArray, .int .i64 i, .int .i64 j, .int .i64 k] w (.tuple [.agg [.int .i64 a, .int .i64 b].toArray, .int .i64 0].toArray) :=
  ⟨(areaF_any p i j k pa la pc lc w (by have := hD.n3; omega) (by have := hD.l6; omega) (hp.kept hb)).mono fun e w' ⟨h1, k⟩ => ⟨by rw [h1, h]; rfl, k⟩⟩
end
section
variable {p : PegsD} {qs : List Pl} {m : Int} (h : MadeD p qs m)
include h
theorem MadeD.backAny (i : Nat) : ∃ a b n : Int, valOf (0, 0) (backR p i) = (a, b) ∧ errOf (backR p i) = n ∧ ((i : Int) = m → ∀ s q, qs[i]? = some s → p.ps[i]? = some q → n = 0 ∧ a ≤ backI s q ∧ backI s q ≤ b) := by
  by_cases hi : (i : Int) = m ∧ i < qs.length
  · obtain ⟨hi, hlt⟩ := hi
    have hlen := h.good.len
    obtain ⟨s, hs⟩ : ∃ s, qs[i]? = some s := ⟨_, List.getElem?_eq_getElem hlt⟩
    obtain ⟨q, hq⟩ : ∃ q, p.ps[i]? = some q := ⟨_, List.getElem?_eq_getElem (by omega)⟩
    obtain ⟨a, b, h1, h2, h3⟩ := h.back hi hs hq
    refine ⟨a, b, 0, by rw [h1]; rfl, by rw [h1]; rfl, fun _ s' q' hs' hq' => ?_⟩
    rw [hs] at hs'; rw [hq] at hq'; cases hs'; cases hq'
    exact ⟨rfl, h2, h3⟩
  · exact ⟨_, _, _, rfl, rfl, fun e s q hs _ => absurd ⟨e, (List.getElem?_eq_some_iff.1 hs).1⟩ hi⟩
theorem MadeD.proofAny {i : Nat} (hi : i < p.ps.length) : ∃ x n : Int, valOf 0 (proofR p i) = x ∧ errOf (proofR p i) = n ∧ (n = 4 ∧ x = 0 ∨ n = 0 ∧ (i : Int) = m) := by
  rcases h.proof hi with e | ⟨x, e, hm⟩
  · exact ⟨0, 4, by rw [e]; rfl, by rw [e]; rfl, .inl ⟨rfl, rfl⟩⟩
  · exact ⟨x, 0, by rw [e]; rfl, by rw [e]; rfl, .inr ⟨rfl, hm⟩⟩
end
theorem testBit_div {S k : Nat} (h : S.testBit k = true) : S / 2 ^ k % 2 = 1 := by
  rw [Nat.testBit_eq_decide_div_mod_eq] at h; simpa using h
/-- Places at a block that is known. -/
def QlsAt (w : World) (b o : Nat) (L : List Pl) : Prop := ∀ i s, L[i]? = some s → ∀ j v, [Value.int .i64 s.x, .int .i64 s.y][j]? = some v → w.cell? ⟨b, o + i * 2 + j, none⟩ = some v
theorem QlsIn.at_ {w : World} {pa : Option Addr} {L : List Pl} (h : QlsIn w pa L) (hne : 0 < L.length) : ∃ b o, pa = some ⟨b, o, none⟩ ∧ b < w.heap.size ∧ QlsAt w b o L := by
  obtain ⟨b, o, rfl, hb, _, _⟩ := h 0 _ (List.getElem?_eq_getElem hne)
  refine ⟨b, o, rfl, hb, fun i s hs j v hj => ?_⟩
  obtain ⟨b', o', e, _, c1, c2⟩ := h i s hs
  simp only [Option.some.injEq, Addr.mk.injEq] at e
  obtain ⟨rfl, rfl, _⟩ := e
  match j, hj with
  | 0, hj => simp only [List.getElem?_cons_zero] at hj; rw [← hj]; exact c1
  | 1, hj => simp only [List.getElem?_cons_succ, List.getElem?_cons_zero] at hj; rw [← hj]; exact c2
  | j + 2, hj => simp at hj
def PsAt (w : World) (b o : Nat) (L : List Post) : Prop := ∀ i s, L[i]? = some s → ∀ j v, [Value.int .i64 s.xlo, .int .i64 s.xhi, .int .i64 s.ylo, .int .i64 s.yhi][j]? = some v → w.cell? ⟨b, o + i * 4 + j, none⟩ = some v
theorem postsIn_at {w : World} {pa : Option Addr} {L : List Post} (h : PostsIn w pa L) (hne : 0 < L.length) : ∃ b o, pa = some ⟨b, o, none⟩ ∧ b < w.heap.size ∧ PsAt w b o L := by
  obtain ⟨b, o, rfl, hb, _, _⟩ := h 0 _ (List.getElem?_eq_getElem hne)
  refine ⟨b, o, rfl, hb, fun i s hs j v hj => ?_⟩
  obtain ⟨b', o', e, _, c1, c2, c3, c4⟩ := h i s hs
  simp only [Option.some.injEq, Addr.mk.injEq] at e
  obtain ⟨rfl, rfl, _⟩ := e
  match j, hj with
  | 0, hj => simp only [List.getElem?_cons_zero] at hj; rw [← hj]; exact c1
  | 1, hj => simp only [List.getElem?_cons_succ, List.getElem?_cons_zero] at hj; rw [← hj]; exact c2
  | 2, hj => simp only [List.getElem?_cons_succ, List.getElem?_cons_zero] at hj; rw [← hj]; exact c3
  | 3, hj => simp only [List.getElem?_cons_succ, List.getElem?_cons_zero] at hj; rw [← hj]; exact c4
  | j + 4, hj => simp at hj
theorem made_base {w0 w2 w' : World} {A B : Heap} (hS : Below w0.heap.size w0 w2) (h : Tr w2 w' A B) (hA : ∀ x, x ∈ A → w0.heap.size ≤ x.1) : Below w0.heap.size w0 w' :=
  ⟨h.os.trans hS.os, h.tape.trans hS.tape, h.output.trans hS.output, Nat.le_trans hS.size h.size, fun k hk => (h.rest k (Nat.lt_of_lt_of_le hk hS.size) (fun x hx e => absurd (hA x hx) (by omega))).trans (hS.block k hk)⟩
theorem below_two {w w1 w2 : World} (h : Below w.heap.size w w1) (k : Below w1.heap.size w1 w2) : Below w.heap.size w w2 :=
  ⟨k.os.trans h.os, k.tape.trans h.tape, k.output.trans h.output, Nat.le_trans h.size k.size, fun i hi => (k.block i (Nat.lt_of_lt_of_le hi h.size)).trans (h.block i hi)⟩
theorem ByIn.block {w : World} {b0 o0 len : Nat} (h : ByIn w b0 o0 len) (h0 : 0 < len) : b0 < w.heap.size := by
  obtain ⟨x, _, _, hx⟩ := h 0 h0
  by_cases hb : b0 < w.heap.size
  · exact hb
  · exfalso
    have : w.heap[b0]? = none := Array.getElem?_eq_none (by omega)
    simp [World.cell?, this] at hx
theorem inK {n lo hi : Int} (h : lo ≤ n ∧ n ≤ hi) (w : World) : Gives Try.prog 31 [.int .i64 n, .agg [.int .i64 lo, .int .i64 hi].toArray] w (.bool true) := (inside_any n lo hi w).as (congrArg Value.bool (inB_true h))
set_option maxRecDepth 100000 in
set_option maxHeartbeats 4000000 in
theorem draws_any (len cap b0 o0 : Nat) (w : World) : Calls Try.prog 30 [.slice (some ⟨b0, o0, none⟩) len cap].toArray w fun e w' => ∃ s : Nat × Nat, True ∧ e = .returned (.func (.func 72) #[] [.pointer (some ⟨s.1, 0, none⟩), .pointer (some ⟨s.2, 0, none⟩)].toArray) ∧
    Tr w w' [] [(s.1, Obj.cells [.int .i64 ((0 : Nat) : Int)].toArray 3 (0, 0)), (s.2, Obj.cells [.slice (some ⟨b0, o0, none⟩) len cap].toArray 45 (0, 0))] := by
  refine enter (n := 5) Try.func30 rfl rfl rfl (by repeat (first | exact Fill.nil | apply Fill.cons)) ?_
  refine cw_seq ?_
  refine cw_region ?_
  refine lstep rfl rfl rfl (run_box1 (.tmp rfl) rfl) ?_
  intro b1 _
  refine lstepB rfl rfl rfl (run_assign .const) ?_
  refine lnil ?_
  refine xw_then ?_
  refine cw_seq ?_
  refine cw_region ?_
  refine lstep rfl rfl rfl (run_alloc zr3) ?_
  intro b3 _
  refine lstep0 rfl rfl (run_store1 (.tmp rfl) .const rfl sz3 (by repeat (first | exact Upd.here | apply Upd.there)) (by repeat (first | exact Put.done | apply Put.put | apply Put.skip))) ?_
  refine lnil ?_
  refine xw_then ?_
  refine cw_seq ?_
  refine cw_region ?_
  refine lstepB rfl rfl rfl (run_makeFunc .nil (.cons (.tmp rfl) (.cons (.tmp rfl) .nil))) ?_
  refine lstepB rfl rfl rfl (run_assign (.tmp rfl)) ?_
  refine lnil ?_
  refine xw_then ?_
  refine cw_ret ?_
  refine xw_ret1 Try.results30 rfl (fun w' hS => ⟨(b3, b1), trivial, rfl, hS.toTr (fun k hk => hk.elim) (fun z hz => ?_) (fun z hz => ?_) ?_⟩)
  · simpa using hz
  · refine .inr ((hS.own z (by simpa using hz)).2.resolve_right fun h => h)
  · exact hS.apart
end Go.Proofs.Ytkjciobphbcknaa
namespace Go.Proofs.Ytkjciobphbcknaa
open Go.RowKit En

section
variable {w0 : World} {T : Nat → Prop} {R : Heap} {E : Env} {x y : Operand} {d : Option Tmp} {ty : TypeId} {pos : String} {af : Array Edge} {g : Option (Nat × Bool)}
set_option maxRecDepth 100000 in
theorem lr_makePosts {n : Nat} (hx : Ev E x (.int .i64 (n : Int))) (hy : Ev E y (.int .i64 (n : Int))) (hn : n ≤ 4) : LR Try.prog E w0 T R [] ⟨d, .makeSlice 22 x y, ty, pos, af, g⟩ (fun _ : Nat => True) (fun b => .slice (some ⟨b, 0, none⟩) n n) (fun b => [(b, Obj.cells (postCells (List.replicate n zeroPost)).toArray 56 (0, 0))]) := fun ρ w hρ _ _ _ _ _ => by
  have e1 := hρ x _ (by simp [Op.operands]) hx
  have e2 := hρ y _ (by simp [Op.operands]) hy
  obtain ⟨w', h1, h2, h3⟩ := make_posts hn w
  have h4 : (execOp ρ ⟨d, .makeSlice 22 x y, ty, pos, af, g⟩).run Try.prog w = .ok (.value (.slice (some ⟨w.heap.size, 0, none⟩) n n)) w' := by
    simp only [execOp, e1, e2]
    simp [h1]
  rw [h4]
  refine ⟨w.heap.size, trivial, rfl, h3.os, h3.tape, h3.output, h3.size, fun k hk _ => h3.block k hk, fun z hz => ?_, fun z hz => ?_, List.pairwise_singleton _ _⟩
  · rw [List.mem_singleton] at hz; subst hz
    obtain ⟨_, ⟨e, _⟩ | ⟨g, cap, cur, e, _, hg, _, _, hc, ht⟩⟩ := h2
    · cases e
    · simp only [Value.slice.injEq, Option.some.injEq, Addr.mk.injEq] at e
      obtain ⟨⟨rfl, _⟩, _, rfl⟩ := e
      simp only
      rw [hg, ← ht, List.length_replicate, List.take_of_length_le (by simp [hc])]
  · rw [List.mem_singleton] at hz; subst hz; exact .inr (Nat.le_refl _)
end
theorem numberK {n c : Nat} {i : Int} {b b2 : Nat} {w : World} (hn : 0 < n) (hn2 : n ≤ 4) (hc : c < 256) (c1 : w.cell? ⟨b, 0, none⟩ = some (.int .i64 n)) (c2 : w.cell? ⟨b2, 0, none⟩ = some (.int .u8 c)) :
    Gives Try.prog 41 [.int .i64 i, .pointer (some ⟨b, 0, none⟩), .pointer (some ⟨b2, 0, none⟩)] w (.int .i64 (fI (up n c) n i)) :=
  ⟨(number_any n c i b b2 w hn hn2 hc c1 c2).mono fun e w' ⟨h, k⟩ => ⟨h, k ▸ Below.refl _ _⟩⟩
theorem fI_up {n c j : Nat} (h : j < n) : fI (up n c) n (j : Int) = ((up n c j : Nat) : Int) := by
  rw [fI, if_pos (by omega), Int.toNat_natCast]
theorem leftK {n a d : Int} {b : Nat} {w : World} (hn : 0 ≤ n ∧ n ≤ 15) (ha : 0 ≤ a ∧ a ≤ 15) (hd : 0 ≤ d ∧ d ≤ 15) (c1 : w.cell? ⟨b, 0, none⟩ = some (.int .i64 n)) :
    Gives Try.prog 42 [.agg [.int .i64 a, .int .i64 d].toArray, .pointer (some ⟨b, 0, none⟩)] w (.agg [.int .i64 (n - d), .int .i64 (n - a)].toArray) :=
  ⟨left_any n a d b w hn ha hd c1⟩
theorem put_post : ∀ (L : List Post) (k : Nat) (q : Post), k < L.length → Put (postCells L) (k * 4) [.int .i64 q.xlo, .int .i64 q.xhi, .int .i64 q.ylo, .int .i64 q.yhi] (postCells (L.set k q))
  | [], k, q, h => by simp at h
  | a :: r, 0, q, _ => by simp only [postCells, List.flatMap_cons, List.set_cons_zero, Nat.zero_mul]; exact .put (.put (.put (.put .done)))
  | a :: r, k + 1, q, h => by
    have ih := put_post r k q (by simpa using h)
    simp only [postCells, List.flatMap_cons, List.set_cons_succ] at *
    rw [show (k + 1) * 4 = k * 4 + 1 + 1 + 1 + 1 by omega]
    exact .skip (.skip (.skip (.skip ih)))
theorem put_turned {p : PegsD} {c j : Nat} {q : Post} (hq : p.ps[j]? = some q) : Put (postCells (turnedTo p c j)) (0 + up p.ps.length c j * 4) [.int .i64 q.xlo, .int .i64 q.xhi, .int .i64 q.ylo, .int .i64 q.yhi] (postCells (turnedTo p c (j + 1))) := by
  rw [Nat.zero_add, ← turnedTo_step p c j q hq]
  exact put_post _ _ _ (by rw [turnedTo_len]; exact up_lt (List.getElem?_eq_some_iff.1 hq).1)
theorem heavyK {p : PegsD} {a b : Int} {pa la : Option Addr} {pc lc : Nat} {w1 w : World} {r : Bool} (hm : p.ps.length ≤ 9223372036854775807) (hm2 : p.ls.length ≤ 9223372036854775807) (hp : PegsIn w1 p pa la) (hb : Below w1.heap.size w1 w) (h : heavyB p a b = r) :
    Gives Try.prog 11 [.agg [.int .i64 p.side, .slice pa p.ps.length pc, .slice la p.ls.length lc].toArray, .int .i64 a, .int .i64 b] w (.bool r) := ⟨(heavy_any p a b pa la pc lc w hm hm2 (hp.kept hb)).mono fun e w' ⟨h1, k⟩ => ⟨by rw [h1, h], k⟩⟩
theorem validK {p : PegsD} {pa la : Option Addr} {pc lc : Nat} {w1 w : World} {r : Bool} (hm : p.ps.length ≤ 9223372036854775807) (hm2 : p.ls.length ≤ 9223372036854775807) (hp : PegsIn w1 p pa la) (hb : Below w1.heap.size w1 w) (h : validB p = r) :
    Gives Try.prog 35 [.agg [.int .i64 p.side, .slice pa p.ps.length pc, .slice la p.ls.length lc].toArray] w (.bool r) := ⟨(rvalid_any p pa la pc lc w hm hm2 (hp.kept hb)).mono fun e w' ⟨h1, k⟩ => ⟨by rw [h1, h], k⟩⟩
structure V1 where
  j : Nat
  o : Option (RowO × RowO)
def V1.y (s : V1) : Option RowO := s.o.map (·.1)
def V1.z (s : V1) : Option RowO := s.o.map (·.2)
def V1.ok (p : PegsD) (s : V1) : Prop := s.j ≤ p.ps.length ∧ (s.o = none → s.j = 0) ∧ rowIs s.y 4 s.j (postCells ((p.ps.take s.j).map (flipPost p.side))) ∧ rowIs s.z 4 s.j (postCells ((p.ps.take s.j).map swapPost))
theorem light {p : PegsD} (hh : heavyB p 3 8 = false) (hv : validB p = true) : p.ps.length ≤ 3 ∧ p.side ≤ 8 := by
  simp [heavyB, hv] at hh; omega
theorem flip_at {p : PegsD} {j : Nat} {q : Post} (hq : p.ps[j]? = some q) : (p.ps.take (j + 1)).map (flipPost p.side) = (p.ps.take j).map (flipPost p.side) ++ [flipPost p.side q] := by
  obtain ⟨h, e⟩ := List.getElem?_eq_some_iff.1 hq
  rw [flip_snoc p j h, e]
theorem swap_at {p : PegsD} {j : Nat} {q : Post} (hq : p.ps[j]? = some q) : (p.ps.take (j + 1)).map swapPost = (p.ps.take j).map swapPost ++ [swapPost q] := by
  obtain ⟨h, e⟩ := List.getElem?_eq_some_iff.1 hq
  rw [swap_snoc p j h, e]
section
variable {P : Program} {w0 : World} {T : Nat → Prop} {R : Heap} {E : Env} {x y : Operand} {d : Option Tmp} {ty t : TypeId} {pos : String} {af : Array Edge} {g : Option (Nat × Bool)}
/-- An append of what lies anywhere, or nowhere. -/
theorem lr_append_in {e sz by_ : Nat} (ht : appB P t e sz by_ = true) {k n cap m c : Nat} {cur xs news : List Value} {A : Option Addr} (hx : Ev E x (.slice (some ⟨k, 0, none⟩) n cap)) (hrow : InRow sz n cap cur xs) (hy : Ev E y (.slice A m c)) (hl : news.length = m * sz) (hsz : 0 < sz) (hp : news.all plainV = true)
    (hmax : (n + m) * by_ ≤ 140737488355328) (hmx : n + m ≤ maxLen) (hnews : ∀ w, St w0 T R w → CellsIn w A news) :
    LR P E w0 T R [(k, Obj.cells cur.toArray e (0, 0))] ⟨d, .call ⟨.builtin .append, [x, y].toArray, [t, t].toArray⟩, ty, pos, af, g⟩ (fun q : Nat × Nat × List Value => InRow sz (n + m) q.2.1 q.2.2 (xs ++ news)) (fun q => .slice (some ⟨q.1, 0, none⟩) (n + m) q.2.1) (fun q => [(q.1, Obj.cells q.2.2.toArray e (0, 0))]) := fun ρ w hρ h4 h5 hA hR h7 => by
  by_cases hm : m = 0
  · subst hm
    have hn : news = [] := List.eq_nil_of_length_eq_zero (by simpa using hl)
    subst hn
    have e1 := hρ x _ (by simp [Op.operands, Call.operands]) hx
    have e2 := hρ y _ (by simp [Op.operands, Call.operands]) hy
    obtain ⟨hsl, i, z, hi, hz, rfl, rfl, hzs⟩ := appT_of ht
    have hnc := hrow.1
    have hr : (Builtin.append_ #[t, t] ty #[.slice (some ⟨k, 0, none⟩) n cap, .slice A 0 c]).run P w = .ok (.slice (some ⟨k, 0, none⟩) n cap) w := by
      cases A <;> simp [Builtin.append_, run_underlying hsl, sizeOf, typeInfo, hi, Builtin.lenOf, Builtin.firstCells, loadCells, loadCellsFrom, storeCells, hnc]
    rw [done_append e1 e2 hr]
    refine ⟨(k, cap, cur), by simpa using hrow, rfl, rfl, rfl, rfl, Nat.le_refl _, fun _ _ _ => rfl, fun z hz => ?_, fun z hz => ?_, List.pairwise_singleton _ _⟩
    · exact hA z hz
    · exact .inl ⟨z, hz, rfl⟩
  · have h0 : 0 < news.length := by rw [hl]; exact Nat.mul_pos (Nat.pos_of_ne_zero hm) hsz
    obtain ⟨b, o, rfl, _⟩ := hnews w hR 0 _ (List.getElem?_eq_getElem h0)
    exact lr_append_row ht hx hrow hy hl hp hmax hmx (fun w hS j u hj => by
      obtain ⟨b', o', e, hc⟩ := hnews w hS j u hj
      cases e; exact hc) ρ w hρ h4 h5 hA hR h7
end
theorem inRow_none (sz : Nat) : InRow sz 0 0 [] [] := ⟨Nat.le_refl _, Nat.zero_le _, by simp, by simp⟩
theorem postCells_plain (L : List Post) : (postCells L).all plainV = true := by
  simp only [postCells, List.all_eq_true, List.mem_flatMap]
  rintro v ⟨q, _, h⟩
  simp only [List.mem_cons, List.not_mem_nil, or_false] at h
  rcases h with rfl | rfl | rfl | rfl <;> rfl
theorem lenCells_plain (L : List Len) : (lenCells L).all plainV = true := by
  simp only [lenCells, List.all_eq_true, List.mem_flatMap]
  rintro v ⟨q, _, h⟩
  simp only [List.mem_cons, List.not_mem_nil, or_false] at h
  rcases h with rfl | rfl | rfl | rfl <;> rfl
def LsAt (w : World) (b o : Nat) (L : List Len) : Prop := ∀ i s, L[i]? = some s → ∀ j v, [Value.int .i64 s.a, .int .i64 s.b, .int .i64 s.lo, .int .i64 s.hi][j]? = some v → w.cell? ⟨b, o + i * 4 + j, none⟩ = some v
theorem lensIn_at {w : World} {pa : Option Addr} {L : List Len} (h : LensIn w pa L) (hne : 0 < L.length) : ∃ b o, pa = some ⟨b, o, none⟩ ∧ b < w.heap.size ∧ LsAt w b o L := by
  obtain ⟨b, o, rfl, hb, _, _⟩ := h 0 _ (List.getElem?_eq_getElem hne)
  refine ⟨b, o, rfl, hb, fun i s hs j v hj => ?_⟩
  obtain ⟨b', o', e, _, c1, c2, c3, c4⟩ := h i s hs
  simp only [Option.some.injEq, Addr.mk.injEq] at e
  obtain ⟨rfl, rfl, _⟩ := e
  match j, hj with
  | 0, hj => simp only [List.getElem?_cons_zero] at hj; rw [← hj]; exact c1
  | 1, hj => simp only [List.getElem?_cons_succ, List.getElem?_cons_zero] at hj; rw [← hj]; exact c2
  | 2, hj => simp only [List.getElem?_cons_succ, List.getElem?_cons_zero] at hj; rw [← hj]; exact c3
  | 3, hj => simp only [List.getElem?_cons_succ, List.getElem?_cons_zero] at hj; rw [← hj]; exact c4
  | j + 4, hj => simp at hj
structure V2 where
  j : Nat
  o : Option RowO
def V2.ok (p : PegsD) (c : Nat) (s : V2) : Prop := s.j ≤ p.ls.length ∧ (s.o = none → s.j = 0) ∧ rowIs s.o 4 s.j (lenCells ((p.ls.reverse.take s.j).map (turnLen p.ps.length c)))
theorem turn_at {p : PegsD} {c j : Nat} {l : Len} (hj : j < p.ls.length) (hq : p.ls[p.ls.length - 1 - j]? = some l) : (p.ls.reverse.take (j + 1)).map (turnLen p.ps.length c) = (p.ls.reverse.take j).map (turnLen p.ps.length c) ++ [turnLen p.ps.length c l] := by
  obtain ⟨h, e⟩ := List.getElem?_eq_some_iff.1 hq
  rw [turnLen_snoc p c j hj, e]
theorem cw_base2 {P : Program} {n : Nat} {E : Env} {w0 : World} {T : Nat → Prop} {H : Heap} {c : Code} {Q : Exit → Act → World → Prop} (k : ∀ w1, St w0 T H w1 → CW P Q c n E w1 NoT []) : CW P Q c n E w0 T H := fun a w hF hS =>
  k w hS a w hF (St.init w _)
section
variable {p : PegsD} {pa la : Option Addr} {pc lc : Nat} {w1 w : World} (hv : validB p = true) (hp : PegsIn w1 p pa la) (hb : Below w1.heap.size w1 w)
include hv hp hb
theorem movedG {S e : Int} {b : Bool} (h1 : (valOf (0, 0, false) (movedR p)).2.1 = S) (h2 : (valOf (0, 0, false) (movedR p)).2.2 = b) (h3 : errOf (movedR p) = e) : Gives Try.prog 13 [.agg [.int .i64 p.side, .slice pa p.ps.length pc, .slice la p.ls.length lc].toArray] w (.tuple [.int .i64 S, .bool b, .int .i64 e].toArray) :=
  ⟨(moved_any p pa la pc lc w (by have := (fit_of_valid hv).n4; omega) (by have := (fit_of_valid hv).l6; omega) (hp.kept hb)).mono fun e w' ⟨h, k⟩ => ⟨by rw [h, h1, h2, h3], k⟩⟩
theorem whereG {i a b c d e : Int} (h : valOf ((0, 0), (0, 0)) (whereR p i) = ((a, b), (c, d))) (h2 : errOf (whereR p i) = e) : Gives Try.prog 15 [.agg [.int .i64 p.side, .slice pa p.ps.length pc, .slice la p.ls.length lc].toArray, .int .i64 i] w (.tuple [.agg [.int .i64 a, .int .i64 b].toArray, .agg [.int .i64 c, .int .i64 d].toArray, .int .i64 e].toArray) :=
  ⟨(where_any p i pa la pc lc w (by have := (fit_of_valid hv).n4; omega) (by have := (fit_of_valid hv).l6; omega) (hp.kept hb)).mono fun e w' ⟨h1, k⟩ => ⟨by rw [h1, h, h2]; rfl, k⟩⟩
theorem backG {i a b n : Int} (h : valOf (0, 0) (backR p i) = (a, b)) (h2 : errOf (backR p i) = n) : Gives Try.prog 19 [.agg [.int .i64 p.side, .slice pa p.ps.length pc, .slice la p.ls.length lc].toArray, .int .i64 i] w (.tuple [.agg [.int .i64 a, .int .i64 b].toArray, .int .i64 n].toArray) :=
  ⟨(back_any p i pa la pc lc w (by have := (fit_of_valid hv).n4; omega) (by have := (fit_of_valid hv).l6; omega) (hp.kept hb)).mono fun e w' ⟨h1, k⟩ => ⟨by rw [h1, h, h2]; rfl, k⟩⟩
theorem apartG {i j a b n : Int} (h : valOf (0, 0) (apartR p i j) = (a, b)) (h2 : errOf (apartR p i j) = n) : Gives Try.prog 21 [.agg [.int .i64 p.side, .slice pa p.ps.length pc, .slice la p.ls.length lc].toArray, .int .i64 i, .int .i64 j] w (.tuple [.agg [.int .i64 a, .int .i64 b].toArray, .int .i64 n].toArray) :=
  ⟨(apartF_any p i j pa la pc lc w (by have := (fit_of_valid hv).n4; omega) (by have := (fit_of_valid hv).l6; omega) (hp.kept hb)).mono fun e w' ⟨h1, k⟩ => ⟨by rw [h1, h, h2]; rfl, k⟩⟩
theorem areaG {i j l a b n : Int} (h : valOf (0, 0) (areaR p i j l) = (a, b)) (h2 : errOf (areaR p i j l) = n) : Gives Try.prog 23 [.agg [.int .i64 p.side, .slice pa p.ps.length pc, .slice la p.ls.length lc].toArray, .int .i64 i, .int .i64 j, .int .i64 l] w (.tuple [.agg [.int .i64 a, .int .i64 b].toArray, .int .i64 n].toArray) :=
  ⟨(areaF_any p i j l pa la pc lc w (by have := (fit_of_valid hv).n4; omega) (by have := (fit_of_valid hv).l6; omega) (hp.kept hb)).mono fun e w' ⟨h1, k⟩ => ⟨by rw [h1, h, h2]; rfl, k⟩⟩
end
theorem pegs_turned {p : PegsD} {c gX : Nat} {w : World} {o : Option RowO} (hg : w.heap[gX]? = some (Obj.cells (postCells (turnedTo p c p.ps.length)).toArray 56 (0, 0))) (hn : p.ps.length ≤ 4) (hL : ∀ z, z ∈ rowH o 65 → w.heap[z.1]? = some z.2) (hr : rowIs o 4 p.ls.length (lenCells (p.ls.reverse.map (turnLen p.ps.length c)))) :
    PegsIn w ⟨p.side, turnedTo p c p.ps.length, p.ls.reverse.map (turnLen p.ps.length c)⟩ (some ⟨gX, 0, none⟩) (rowA o) := by
  refine ⟨posts_of_row (cap := p.ps.length) hg ⟨by rw [turnedTo_len]; exact Nat.le_refl _, by unfold maxLen; omega, by rw [postCells_length, turnedTo_len], ?_⟩, lens_of_rowO (k := p.ls.length) (by simp) hL hr⟩
  rw [turnedTo_len, List.take_of_length_le (by rw [postCells_length, turnedTo_len]; exact Nat.le_refl _)]
theorem pegs_flip {p : PegsD} {gY cY : Nat} {rY : List Value} {la : Option Addr} {w : World} (hg : w.heap[gY]? = some (Obj.cells rY.toArray 56 (0, 0))) (hr : InRow 4 p.ps.length cY rY (postCells (p.ps.map (flipPost p.side)))) (hl : LensIn w la p.ls) : PegsIn w (flipP p) (some ⟨gY, 0, none⟩) la :=
  ⟨posts_of_row hg (by simpa [flipP] using hr), hl⟩
theorem pegs_swap {p : PegsD} {gZ cZ : Nat} {rZ : List Value} {la : Option Addr} {w : World} (hg : w.heap[gZ]? = some (Obj.cells rZ.toArray 56 (0, 0))) (hr : InRow 4 p.ps.length cZ rZ (postCells (p.ps.map swapPost))) (hl : LensIn w la p.ls) : PegsIn w (swapP p) (some ⟨gZ, 0, none⟩) la :=
  ⟨posts_of_row hg (by simpa [swapP] using hr), hl⟩
section
variable {p : PegsD} {n1 n2 : Nat} {sd : Int} {pa la : Option Addr} {pc lc : Nat} {w1 w : World} (hv : validB p = true) (hp : PegsIn w1 p pa la) (e0 : p.side = sd) (e1 : p.ps.length = n1) (e2 : p.ls.length = n2) (hb : Below w1.heap.size w1 w)
include hv hp e0 e1 e2 hb
theorem movedH {S e : Int} {b : Bool} (h1 : (valOf (0, 0, false) (movedR p)).2.1 = S) (h2 : (valOf (0, 0, false) (movedR p)).2.2 = b) (h3 : errOf (movedR p) = e) : Gives Try.prog 13 [.agg [.int .i64 sd, .slice pa n1 pc, .slice la n2 lc].toArray] w (.tuple [.int .i64 S, .bool b, .int .i64 e].toArray) := by
  subst e0 e1 e2; exact movedG hv hp hb h1 h2 h3
theorem whereH {i a b c d e : Int} (h : valOf ((0, 0), (0, 0)) (whereR p i) = ((a, b), (c, d))) (h2 : errOf (whereR p i) = e) : Gives Try.prog 15 [.agg [.int .i64 sd, .slice pa n1 pc, .slice la n2 lc].toArray, .int .i64 i] w (.tuple [.agg [.int .i64 a, .int .i64 b].toArray, .agg [.int .i64 c, .int .i64 d].toArray, .int .i64 e].toArray) := by
  subst e0 e1 e2; exact whereG hv hp hb h h2
theorem backH {i a b n : Int} (h : valOf (0, 0) (backR p i) = (a, b)) (h2 : errOf (backR p i) = n) : Gives Try.prog 19 [.agg [.int .i64 sd, .slice pa n1 pc, .slice la n2 lc].toArray, .int .i64 i] w (.tuple [.agg [.int .i64 a, .int .i64 b].toArray, .int .i64 n].toArray) := by
  subst e0 e1 e2; exact backG hv hp hb h h2
theorem apartH {i j a b n : Int} (h : valOf (0, 0) (apartR p i j) = (a, b)) (h2 : errOf (apartR p i j) = n) : Gives Try.prog 21 [.agg [.int .i64 sd, .slice pa n1 pc, .slice la n2 lc].toArray, .int .i64 i, .int .i64 j] w (.tuple [.agg [.int .i64 a, .int .i64 b].toArray, .int .i64 n].toArray) := by
  subst e0 e1 e2; exact apartG hv hp hb h h2
theorem areaH {i j l a b n : Int} (h : valOf (0, 0) (areaR p i j l) = (a, b)) (h2 : errOf (areaR p i j l) = n) : Gives Try.prog 23 [.agg [.int .i64 sd, .slice pa n1 pc, .slice la n2 lc].toArray, .int .i64 i, .int .i64 j, .int .i64 l] w (.tuple [.agg [.int .i64 a, .int .i64 b].toArray, .int .i64 n].toArray) := by
  subst e0 e1 e2; exact areaG hv hp hb h h2
end
section
variable {P : Program} {T : Nat → Prop} {H : Heap} {E : Env} {w0 : World} {x y : Operand} {d : Option Tmp} {tx ty tyy : TypeId} {pos : String} {af : Array Edge} {g : Option (Nat × Bool)}
theorem run_shr16 {S m : Nat} (hx : Ev E x (.int .i64 (S : Int))) (hy : Ev E y (.int .i64 (m : Int))) (hS : S < 16) (hm : m < 4) : RunB P E w0 T H ⟨d, .binOp .shr tx x y tyy, ty, pos, af, g⟩ (.int .i64 ((S / 2 ^ m : Nat) : Int)) := fun ρ w hρ _ => by
  have e := hρ x _ (by simp [Op.operands]) hx
  have e' := hρ y _ (by simp [Op.operands]) hy
  have h1 : ¬ ((m : Int) < 0) := by omega
  have h2 : min m 64 = m := by omega
  have h3 : Int.fdiv (S : Int) (2 ^ m) = ((S / 2 ^ m : Nat) : Int) := by
    have := (by decide +kernel : ∀ a : Fin 16, ∀ b : Fin 4, Int.fdiv (a.1 : Int) (2 ^ b.1) = ((a.1 / 2 ^ b.1 : Nat) : Int)) ⟨S, hS⟩ ⟨m, hm⟩
    exact this
  simp only [execOp, e, e', Done, go_sem, eqGuard, binOp, Op.shift, h1, if_false, Int.toNat_natCast, IntKind.bits, h2, h3]
  exact ⟨rfl, Below.refl _ _⟩
theorem run_and16 {a : Nat} (hx : Ev E x (.int .i64 (a : Int))) (hy : Ev E y (.int .i64 1)) (ha : a < 16) : RunB P E w0 T H ⟨d, .binOp .and tx x y tyy, ty, pos, af, g⟩ (.int .i64 ((a % 2 : Nat) : Int)) := fun ρ w hρ _ => by
  have e := hρ x _ (by simp [Op.operands]) hx
  have e' := hρ y _ (by simp [Op.operands]) hy
  have h3 : bits .and .i64 (a : Int) 1 = ((a % 2 : Nat) : Int) := by
    have := (by decide +kernel : ∀ b : Fin 16, bits .and .i64 (b.1 : Int) 1 = ((b.1 % 2 : Nat) : Int)) ⟨a, ha⟩
    exact this
  simp [execOp, e, e', Done, go_sem, Below.refl, eqGuard, binOp, h3]
end
theorem bit_same {S S1 j k : Nat} (h : S1.testBit k = S.testBit j) : S / 2 ^ j % 2 = S1 / 2 ^ k % 2 := by
  rw [Nat.testBit_eq_decide_div_mod_eq, Nat.testBit_eq_decide_div_mod_eq] at h
  have h1 := Nat.mod_lt (S / 2 ^ j) (show 0 < 2 by omega)
  have h2 := Nat.mod_lt (S1 / 2 ^ k) (show 0 < 2 by omega)
  have h3 : (S1 / 2 ^ k % 2 = 1) ↔ (S / 2 ^ j % 2 = 1) := by simpa using h
  omega
theorem where_in {p : PegsD} (hv : validB p = true) {i : Int} {a b c d : Int} (h : whereR p i = .ok ((a, b), (c, d))) : 0 ≤ a ∧ a ≤ b ∧ b ≤ p.side ∧ 0 ≤ c ∧ c ≤ d ∧ d ≤ p.side := by
  unfold whereR at h
  split at h
  · cases h
  · rename_i hc
    split at h
    · cases h
    · rename_i hne
      simp only [Except.ok.injEq, Prod.mk.injEq, spanOf] at h
      obtain ⟨⟨rfl, rfl⟩, rfl, rfl⟩ := h
      have hi : i.toNat < p.ps.length := by
        simp only [checkR, hv] at hc
        by_cases hp : isPegB p.ps.length i = true
        · simp [isPegB] at hp; omega
        · simp [hp] at hc
      have hf := fit_of_valid hv
      have hst : standL i.toNat (truthsL p) ≠ [] := by
        obtain ⟨u, r, e⟩ := List.exists_cons_of_ne_nil hne
        have : u ∈ truthsL p := by rw [e]; exact List.mem_cons_self
        exact List.ne_nil_of_mem (mem_standL.2 ⟨u, this, rfl⟩)
      have inF : ∀ s, s ∈ standL i.toNat (truthsL p) → inField p.side s := fun s hs => by
        obtain ⟨t, k, h1, rfl⟩ := (mem_stand hf i.toNat).1 hs
        exact truth_field h1 hi
      obtain ⟨_, x1, ⟨u1, y1, z1⟩, ⟨u2, y2, z2⟩⟩ := endsOn_spec Pl.x _ hst
      obtain ⟨_, x2, ⟨u3, y3, z3⟩, ⟨u4, y4, z4⟩⟩ := endsOn_spec Pl.y _ hst
      have f1 := inF _ y1
      have f2 := inF _ y2
      have f3 := inF _ y3
      have f4 := inF _ y4
      have g1 := x1 _ y1
      have g2 := x2 _ y3
      unfold inField at f1 f2 f3 f4
      omega
theorem valOf_err {α : Type} {z : α} {r : Except Int α} (h : errOf r ≠ 0) : valOf z r = z := by
  cases r with
  | ok v => exact absurd rfl h
  | error e => rfl
theorem rowP_get {n c i : Nat} {r : List Value} {L : List Post} {s : Post} (hQ : InRow 4 n c r ([] ++ postCells L)) (h : L[i]? = some s) : ∀ j v, [Value.int .i64 s.xlo, .int .i64 s.xhi, .int .i64 s.ylo, .int .i64 s.yhi][j]? = some v → r[0 + i * 4 + j]? = some v := fun j v hj => by
  obtain ⟨c1, c2, c3, c4⟩ := postCells_at L i s h
  rw [List.nil_append] at hQ
  rw [Nat.zero_add]
  match j, hj with
  | 0, hj => simp only [List.getElem?_cons_zero] at hj; rw [← hj]; exact hQ.get c1
  | 1, hj => simp only [List.getElem?_cons_succ, List.getElem?_cons_zero] at hj; rw [← hj]; exact hQ.get c2
  | 2, hj => simp only [List.getElem?_cons_succ, List.getElem?_cons_zero] at hj; rw [← hj]; exact hQ.get c3
  | 3, hj => simp only [List.getElem?_cons_succ, List.getElem?_cons_zero] at hj; rw [← hj]; exact hQ.get c4
  | j + 4, hj => simp at hj
theorem rowL_get {n c i : Nat} {r : List Value} {L : List Len} {s : Len} (hQ : InRow 4 n c r ([] ++ lenCells L)) (h : L[i]? = some s) : ∀ j v, [Value.int .i64 s.a, .int .i64 s.b, .int .i64 s.lo, .int .i64 s.hi][j]? = some v → r[0 + i * 4 + j]? = some v := fun j v hj => by
  obtain ⟨c1, c2, c3, c4⟩ := lenCells_at L i s h
  rw [List.nil_append] at hQ
  rw [Nat.zero_add]
  match j, hj with
  | 0, hj => simp only [List.getElem?_cons_zero] at hj; rw [← hj]; exact hQ.get c1
  | 1, hj => simp only [List.getElem?_cons_succ, List.getElem?_cons_zero] at hj; rw [← hj]; exact hQ.get c2
  | 2, hj => simp only [List.getElem?_cons_succ, List.getElem?_cons_zero] at hj; rw [← hj]; exact hQ.get c3
  | 3, hj => simp only [List.getElem?_cons_succ, List.getElem?_cons_zero] at hj; rw [← hj]; exact hQ.get c4
  | j + 4, hj => simp at hj
end Go.Proofs.Ytkjciobphbcknaa
