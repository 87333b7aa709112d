/- PegTrue: how far a place is from a post. -/
import Derived.Test.YtkjciobphbcknaaTN
import Derived.Test.YtkjciobphbcknaaEZ
namespace Go.Proofs.Ytkjciobphbcknaa
open Go.RowKit En

def Seen (q : Post) (x y u v : Int) : Prop := q.xlo ≤ u ∧ u ≤ q.xhi ∧ q.ylo ≤ v ∧ v ≤ q.yhi ∧ (u < x ∨ u = x ∧ v < y)
structure FarI (D : Int → Int → Int) (q : Post) (x y b : Int) : Prop where
  lo : -1 ≤ b
  none : b < 0 → ∀ u v, ¬ Seen q x y u v
  low : ∀ u v, Seen q x y u v → b ≤ D u v
  is : 0 ≤ b → ∃ u v, Seen q x y u v ∧ b = D u v
theorem FarI.start (D : Int → Int → Int) (q : Post) : FarI D q q.xlo q.ylo (-1) :=
  ⟨by omega, fun _ u v h => by unfold Seen at h; omega, fun u v h => by unfold Seen at h; omega, fun h => by omega⟩
theorem FarI.same {D : Int → Int → Int} {q : Post} {x y x' y' b : Int} (h : FarI D q x y b) (hs : ∀ u v, Seen q x' y' u v ↔ Seen q x y u v) : FarI D q x' y' b :=
  ⟨h.lo, fun hb u v hv => h.none hb u v ((hs u v).1 hv), fun u v hv => h.low u v ((hs u v).1 hv), fun hb => by obtain ⟨u, v, h1, h2⟩ := h.is hb; exact ⟨u, v, (hs u v).2 h1, h2⟩⟩
theorem FarI.col {D : Int → Int → Int} {q : Post} {x y b : Int} (h : FarI D q x y b) (hy : ¬ y ≤ q.yhi) : FarI D q (x + 1) q.ylo b := h.same fun u v => by unfold Seen; omega
theorem FarI.stepD {D : Int → Int → Int} {q : Post} {x y b : Int} (h : FarI D q x y b) (h0 : 0 ≤ D x y) (hx : q.xlo ≤ x ∧ x ≤ q.xhi) (hy : q.ylo ≤ y ∧ y ≤ q.yhi) (hb : b < 0 ∨ D x y < b) : FarI D q x (y + 1) (D x y) :=
  ⟨by omega, fun hn => by omega, fun u v hv => by
    by_cases e : u = x ∧ v = y
    · rw [e.1, e.2]; exact Int.le_refl _
    · have hs : Seen q x y u v := by unfold Seen at hv ⊢; omega
      rcases hb with hb | hb
      · exact absurd hs (h.none hb u v)
      · have := h.low u v hs; omega, fun _ => ⟨x, y, by unfold Seen; omega, rfl⟩⟩
theorem FarI.stepN {D : Int → Int → Int} {q : Post} {x y b : Int} (h : FarI D q x y b) (hb : 0 ≤ b) (hd : ¬ D x y < b) : FarI D q x (y + 1) b :=
  ⟨h.lo, fun hn => by omega, fun u v hv => by
    by_cases e : u = x ∧ v = y
    · rw [e.1, e.2]; omega
    · exact h.low u v (by unfold Seen at hv ⊢; omega), fun _ => by obtain ⟨u, v, h1, h2⟩ := h.is hb; exact ⟨u, v, by unfold Seen at h1 ⊢; omega, h2⟩⟩
theorem sq_monoF {a x : Int} (h0 : 0 ≤ a) (h : a ≤ x ∨ a ≤ -x) : a * a ≤ x * x := by
  rcases h with h | h
  · exact Int.mul_le_mul h h h0 (by omega)
  · have := Int.mul_le_mul h h h0 (by omega); rwa [Int.neg_mul_neg] at this
theorem beyond_sq {n lo hi u : Int} (h : lo ≤ u ∧ u ≤ hi) : beyondI n lo hi * beyondI n lo hi ≤ (n - u) * (n - u) := sq_monoF (by unfold beyondI; omega) (by unfold beyondI; omega)
theorem beyond_at {n lo hi : Int} (h : lo ≤ hi) : ∃ u, lo ≤ u ∧ u ≤ hi ∧ (n - u) * (n - u) = beyondI n lo hi * beyondI n lo hi := by
  by_cases h1 : n < lo
  · exact ⟨lo, by omega, h, by rw [show beyondI n lo hi = -(n - lo) by unfold beyondI; omega, Int.neg_mul_neg]⟩
  · by_cases h2 : hi < n
    · exact ⟨hi, h, by omega, by rw [show beyondI n lo hi = n - hi by unfold beyondI; omega]⟩
    · exact ⟨n, by omega, by omega, by rw [show beyondI n lo hi = n - n by unfold beyondI; omega]⟩
theorem FarI.done {s : Pl} {q : Post} {x b : Int} (h : FarI (fun u v => sqI s.x s.y u v) q x q.ylo b) (hx : ¬ x ≤ q.xhi) (h1 : q.xlo ≤ q.xhi) (h2 : q.ylo ≤ q.yhi) : b = backI s q := by
  obtain ⟨u, a1, a2, a3⟩ := beyond_at (n := s.x) h1
  obtain ⟨v, b1, b2, b3⟩ := beyond_at (n := s.y) h2
  have hs : Seen q x q.ylo u v := by unfold Seen; omega
  have e := h.low u v hs
  have hb : 0 ≤ b := by
    by_cases hb : 0 ≤ b
    · exact hb
    · exact absurd hs (h.none (by omega) u v)
  obtain ⟨u', v', c1, c2⟩ := h.is hb
  unfold Seen at c1
  have d1 := beyond_sq (n := s.x) (lo := q.xlo) (hi := q.xhi) (u := u') (by omega)
  have d2 := beyond_sq (n := s.y) (lo := q.ylo) (hi := q.yhi) (u := v') (by omega)
  simp only [sqI, a3, b3] at e
  simp only [sqI] at c2
  unfold backI
  omega
structure LF where
  x : Int
  b : Int
theorem sqI_nonneg (a b c d : Int) : 0 ≤ sqI a b c d := by
  have e : ∀ u : Int, 0 ≤ u * u := fun u => by
    rcases Int.le_total 0 u with h | h
    · exact Int.mul_nonneg h h
    · have := Int.mul_nonneg (show 0 ≤ -u by omega) (show 0 ≤ -u by omega); rwa [Int.neg_mul_neg] at this
  have := e (a - c); have := e (b - d); unfold sqI; omega
set_option maxRecDepth 100000 in
set_option maxHeartbeats 4000000 in
theorem far_any (s : Pl) (q : Post) (hs : 0 ≤ s.x ∧ s.x ≤ 15 ∧ 0 ≤ s.y ∧ s.y ≤ 15) (hq1 : q.xlo ≤ q.xhi) (hq2 : q.ylo ≤ q.yhi) (hq3 : 0 ≤ q.xlo ∧ q.xhi ≤ 15 ∧ 0 ≤ q.ylo ∧ q.yhi ≤ 15) (w : World) : Gives Try.prog 32 [.agg [.int .i64 s.x, .int .i64 s.y].toArray, .agg [.int .i64 q.xlo, .int .i64 q.xhi, .int .i64 q.ylo, .int .i64 q.yhi].toArray] w (.int .i64 (backI s q)) := by
  refine .mk <| enter (n := 43) Try.func32 rfl rfl rfl (by repeat (first | exact Fill.nil | apply Fill.cons)) ?_
  refine cw_seq ?_
  refine cw_region ?_
  refine lstep rfl rfl rfl (run_boxN (.tmp rfl)) ?_
  intro b2 _
  refine lstep rfl rfl rfl (run_boxN (.tmp rfl)) ?_
  intro b3 _
  refine lstepB rfl rfl rfl (run_assign .const) ?_
  refine lnil ?_
  refine xw_then ?_
  refine cw_seq ?_
  refine cw_region ?_
  refine lstepB rfl rfl rfl (run_assign .const) ?_
  refine lnil ?_
  refine xw_then ?_
  refine cw_seq ?_
  refine cw_seq ?_
  refine cw_region ?_
  refine lstepB rfl rfl rfl (run_fieldAddr (.tmp rfl) fa56_0 (by first | exact Nat.zero_add _ | exact rfl)) ?_
  refine lstepB rfl rfl rfl (run_fieldAddr (.tmp rfl) fa32_0 (by first | exact Nat.zero_add _ | exact rfl)) ?_
  refine lstepB rfl rfl rfl (run_load1 (.tmp rfl) kd3 (by repeat (first | exact List.Mem.head _ | apply List.Mem.tail)) (by exact rfl)) ?_
  refine lstepB rfl rfl rfl (run_assign (.tmp rfl)) ?_
  refine lnil ?_
  refine xw_then ?_
  refine cw_block ?_
  refine cw_loop (S := LF) (fun z => [(6, .int .i64 z.x), (5, .int .i64 z.b)]) [(2, _), (3, _), (4, _)] (fun z => [(b3, Obj.cells [.int .i64 q.xlo, .int .i64 q.xhi, .int .i64 q.ylo, .int .i64 q.yhi].toArray 56 (0, 0)), (b2, Obj.cells [.int .i64 s.x, .int .i64 s.y].toArray 52 (0, 0))]) (fun z => FarI (fun u v => sqI s.x s.y u v) q z.x q.ylo z.b ∧ q.xlo ≤ z.x ∧ z.x ≤ q.xhi + 1) (fun z => (q.xhi + 1 - z.x).toNat) ⟨q.xlo, -1⟩ ⟨FarI.start _ q, Int.le_refl _, by simp only; omega⟩ (by repeat (first | exact Less.nil | refine Less.cons rfl ?_)) (by repeat (first | exact Pick.nil | (apply Pick.cons; focus (repeat (first | exact Del.here | apply Del.there))))) ?_
  intro z hz
  obtain ⟨x, b⟩ := z
  obtain ⟨hI, hx, hx2⟩ := hz
  simp only at hI hx hx2
  dsimp only
  refine cw_seq ?_
  refine cw_seq ?_
  refine cw_region ?_
  refine lstepB rfl rfl rfl (run_move (.tmp rfl)) ?_
  refine lstepB rfl rfl rfl (run_fieldAddr (.tmp rfl) fa56_0 (by first | exact Nat.zero_add _ | exact rfl)) ?_
  refine lstepB rfl rfl rfl (run_fieldAddr (.tmp rfl) fa32_1 (by first | exact Nat.zero_add _ | exact rfl)) ?_
  refine lstepB rfl rfl rfl (run_load1 (.tmp rfl) kd3 (by repeat (first | exact List.Mem.head _ | apply List.Mem.tail)) (by exact rfl)) ?_
  refine lstepB rfl rfl rfl (run_leq (.tmp rfl) (.tmp rfl) (by first | exact decide_eq_true (by omega) | exact decide_eq_false (by omega) | exact rfl)) ?_
  refine lnil ?_
  refine xw_then ?_
  refine cw_cond_p (.tmp rfl) (fun hle => ?_) (fun hgt => ?_)
  ·
    refine cw_skip ?_
    refine xw_then ?_
    refine cw_seq ?_
    refine cw_block ?_
    refine cw_seq ?_
    refine cw_region ?_
    refine lstepB rfl rfl rfl (run_fieldAddr (.tmp rfl) fa56_1 (by first | exact Nat.zero_add _ | exact rfl)) ?_
    refine lstepB rfl rfl rfl (run_fieldAddr (.tmp rfl) fa32_0 (by first | exact Nat.zero_add _ | exact rfl)) ?_
    refine lstepB rfl rfl rfl (run_load1 (.tmp rfl) kd3 (by repeat (first | exact List.Mem.head _ | apply List.Mem.tail)) (by exact rfl)) ?_
    refine lstepB rfl rfl rfl (run_assign (.tmp rfl)) ?_
    refine lnil ?_
    refine xw_then ?_
    refine cw_block ?_
    refine cw_loop (S := LF) (fun z => [(7, .int .i64 z.x), (5, .int .i64 z.b)]) [(2, _), (3, _), (4, _), (6, _)] (fun z => [(b3, Obj.cells [.int .i64 q.xlo, .int .i64 q.xhi, .int .i64 q.ylo, .int .i64 q.yhi].toArray 56 (0, 0)), (b2, Obj.cells [.int .i64 s.x, .int .i64 s.y].toArray 52 (0, 0))]) (fun z => FarI (fun u v => sqI s.x s.y u v) q x z.x z.b ∧ q.ylo ≤ z.x ∧ z.x ≤ q.yhi + 1) (fun z => (q.yhi + 1 - z.x).toNat) ⟨q.ylo, b⟩ ⟨hI, Int.le_refl _, by simp only; omega⟩ (by repeat (first | exact Less.nil | refine Less.cons rfl ?_)) (by repeat (first | exact Pick.nil | (apply Pick.cons; focus (repeat (first | exact Del.here | apply Del.there))))) ?_
    intro z hz
    obtain ⟨y, c⟩ := z
    obtain ⟨hJ, hy, hy2⟩ := hz
    simp only at hJ hy hy2
    dsimp only
    refine cw_seq ?_
    refine cw_seq ?_
    refine cw_region ?_
    refine lstepB rfl rfl rfl (run_move (.tmp rfl)) ?_
    refine lstepB rfl rfl rfl (run_fieldAddr (.tmp rfl) fa56_1 (by first | exact Nat.zero_add _ | exact rfl)) ?_
    refine lstepB rfl rfl rfl (run_fieldAddr (.tmp rfl) fa32_1 (by first | exact Nat.zero_add _ | exact rfl)) ?_
    refine lstepB rfl rfl rfl (run_load1 (.tmp rfl) kd3 (by repeat (first | exact List.Mem.head _ | apply List.Mem.tail)) (by exact rfl)) ?_
    refine lstepB rfl rfl rfl (run_leq (.tmp rfl) (.tmp rfl) (by first | exact decide_eq_true (by omega) | exact decide_eq_false (by omega) | exact rfl)) ?_
    refine lnil ?_
    refine xw_then ?_
    refine cw_cond_p (.tmp rfl) (fun hle2 => ?_) (fun hgt2 => ?_)
    ·
      have hle3 : y ≤ q.yhi := hle2
      have hle4 : x ≤ q.xhi := hle
      have h0 := sqI_nonneg s.x s.y x y
      by_cases hc : c < 0
      ·
        refine cw_skip ?_
        refine xw_then ?_
        refine cw_seq ?_
        refine cw_block ?_
        refine cw_seq ?_
        refine cw_region ?_
        refine lstepB rfl rfl rfl (run_loadN (.tmp rfl) kd52 sz52 (by repeat (first | exact List.Mem.head _ | apply List.Mem.tail)) (by repeat (first | exact Sub.done | apply Sub.take | apply Sub.skip))) ?_
        refine lstepB rfl rfl rfl (run_move (.tmp rfl)) ?_
        refine lstepB rfl rfl rfl (run_move (.tmp rfl)) ?_
        refine lstepB rfl rfl rfl (run_build_at (.cons (.tmp rfl) (.cons (.tmp rfl) .nil)) (fun w => bd52_0_1 w)) ?_
        refine lstepB rfl rfl rfl (run_call1 cb33 (.cons (.tmp rfl) (.cons (.tmp rfl) .nil)) (fun w _ => square_any _ _ _ _ (by omega) (by omega) (by omega) (by omega) w)) ?_
        refine lstepB rfl rfl rfl (run_assign (.tmp rfl)) ?_
        refine lnil ?_
        refine xw_then ?_
        refine cw_seq ?_
        refine cw_region ?_
        refine lstepB rfl rfl rfl (run_move (.tmp rfl)) ?_
        refine lstepB rfl rfl rfl (run_lss (.tmp rfl) .const (by first | exact decide_eq_true (by omega) | exact decide_eq_false (by omega) | exact rfl)) ?_
        refine lstepB rfl rfl rfl (run_move (.tmp rfl)) ?_
        refine lskip rfl rfl rfl rfl rfl rfl rfl ?_
        refine lskip rfl rfl rfl rfl rfl rfl rfl ?_
        refine lskip rfl rfl rfl rfl rfl rfl rfl ?_
        refine lstepB rfl rfl rfl (by first | exact run_pick_true (.tmp rfl) .const | exact run_pick_false (.tmp rfl) (.tmp rfl)) ?_
        refine lnil ?_
        refine xw_then ?_
        refine cw_cond_true (.tmp rfl) ?_
        refine cw_region ?_
        refine lstepB rfl rfl rfl (run_move (.tmp rfl)) ?_
        refine lstepB rfl rfl rfl (run_assign (.tmp rfl)) ?_
        refine lnil ?_
        refine xw_in ?_
        refine xw_then ?_
        refine cw_region ?_
        refine lstepB rfl rfl rfl (run_move (.tmp rfl)) ?_
        refine lstepB rfl rfl rfl (run_add (.tmp rfl) .const (by first | exact IntWalk.i64_in _ (by omega) | exact rfl)) ?_
        refine lstepB rfl rfl rfl (run_assign (.tmp rfl)) ?_
        refine lnil ?_
        exact xw_round ⟨y + 1, _⟩ ⟨hJ.stepD h0 ⟨hx, hle4⟩ ⟨hy, hle3⟩ (.inl hc), by simp only; omega, by simp only; omega⟩ (by simp only; omega) (by repeat (first | exact Less.nil | refine Less.cons rfl ?_)) (by repeat (first | exact Pick.nil | (apply Pick.cons; focus (repeat (first | exact Del.here | apply Del.there)))))
      ·
        refine cw_skip ?_
        refine xw_then ?_
        refine cw_seq ?_
        refine cw_block ?_
        refine cw_seq ?_
        refine cw_region ?_
        refine lstepB rfl rfl rfl (run_loadN (.tmp rfl) kd52 sz52 (by repeat (first | exact List.Mem.head _ | apply List.Mem.tail)) (by repeat (first | exact Sub.done | apply Sub.take | apply Sub.skip))) ?_
        refine lstepB rfl rfl rfl (run_move (.tmp rfl)) ?_
        refine lstepB rfl rfl rfl (run_move (.tmp rfl)) ?_
        refine lstepB rfl rfl rfl (run_build_at (.cons (.tmp rfl) (.cons (.tmp rfl) .nil)) (fun w => bd52_0_1 w)) ?_
        refine lstepB rfl rfl rfl (run_call1 cb33 (.cons (.tmp rfl) (.cons (.tmp rfl) .nil)) (fun w _ => square_any _ _ _ _ (by omega) (by omega) (by omega) (by omega) w)) ?_
        refine lstepB rfl rfl rfl (run_assign (.tmp rfl)) ?_
        refine lnil ?_
        refine xw_then ?_
        refine cw_seq ?_
        refine cw_region ?_
        refine lstepB rfl rfl rfl (run_move (.tmp rfl)) ?_
        refine lstepB rfl rfl rfl (run_lss (.tmp rfl) .const (by first | exact decide_eq_true (by omega) | exact decide_eq_false (by omega) | exact rfl)) ?_
        refine lstepB rfl rfl rfl (run_move (.tmp rfl)) ?_
        refine lyes rfl rfl rfl rfl ?_
        refine gstepB rfl rfl (run_move (.tmp rfl)) ?_
        refine lyes rfl rfl rfl rfl ?_
        refine gstepB rfl rfl (run_move (.tmp rfl)) ?_
        refine lyes rfl rfl rfl rfl ?_
        refine gstepB rfl rfl (run_lss (.tmp rfl) (.tmp rfl) (by first | exact decide_eq_true (by omega) | exact decide_eq_false (by omega) | exact rfl)) ?_
        refine lstepB rfl rfl rfl (by first | exact run_pick_true (.tmp rfl) .const | exact run_pick_false (.tmp rfl) (.tmp rfl)) ?_
        refine lnil ?_
        refine xw_then ?_
        refine cw_cond_p (.tmp rfl) (fun hlt => ?_) (fun hlt => ?_)
        ·
          refine cw_region ?_
          refine lstepB rfl rfl rfl (run_move (.tmp rfl)) ?_
          refine lstepB rfl rfl rfl (run_assign (.tmp rfl)) ?_
          refine lnil ?_
          refine xw_in ?_
          refine xw_then ?_
          refine cw_region ?_
          refine lstepB rfl rfl rfl (run_move (.tmp rfl)) ?_
          refine lstepB rfl rfl rfl (run_add (.tmp rfl) .const (by first | exact IntWalk.i64_in _ (by omega) | exact rfl)) ?_
          refine lstepB rfl rfl rfl (run_assign (.tmp rfl)) ?_
          refine lnil ?_
          exact xw_round ⟨y + 1, _⟩ ⟨hJ.stepD h0 ⟨hx, hle4⟩ ⟨hy, hle3⟩ (.inr hlt), by simp only; omega, by simp only; omega⟩ (by simp only; omega) (by repeat (first | exact Less.nil | refine Less.cons rfl ?_)) (by repeat (first | exact Pick.nil | (apply Pick.cons; focus (repeat (first | exact Del.here | apply Del.there)))))
        ·
          refine cw_skip ?_
          refine xw_in ?_
          refine xw_then ?_
          refine cw_region ?_
          refine lstepB rfl rfl rfl (run_move (.tmp rfl)) ?_
          refine lstepB rfl rfl rfl (run_add (.tmp rfl) .const (by first | exact IntWalk.i64_in _ (by omega) | exact rfl)) ?_
          refine lstepB rfl rfl rfl (run_assign (.tmp rfl)) ?_
          refine lnil ?_
          exact xw_round ⟨y + 1, c⟩ ⟨hJ.stepN (by omega) hlt, by simp only; omega, by simp only; omega⟩ (by simp only; omega) (by repeat (first | exact Less.nil | refine Less.cons rfl ?_)) (by repeat (first | exact Pick.nil | (apply Pick.cons; focus (repeat (first | exact Del.here | apply Del.there)))))
    ·
      refine cw_exit ?_
      refine xw_then_exit ?_
      refine xw_then_exit ?_
      refine xw_in_exit ?_
      refine xw_in ?_
      refine xw_then ?_
      refine cw_region ?_
      refine lstepB rfl rfl rfl (run_move (.tmp rfl)) ?_
      refine lstepB rfl rfl rfl (run_add (.tmp rfl) .const (by first | exact IntWalk.i64_in _ (by omega) | exact rfl)) ?_
      refine lstepB rfl rfl rfl (run_assign (.tmp rfl)) ?_
      refine lnil ?_
      exact xw_round ⟨x + 1, c⟩ ⟨hJ.col (by first | exact hgt2 | omega), by simp only; omega, by simp only; omega⟩ (by simp only; omega) (by repeat (first | exact Less.nil | refine Less.cons rfl ?_)) (by repeat (first | exact Pick.nil | (apply Pick.cons; focus (repeat (first | exact Del.here | apply Del.there)))))
  ·
    refine cw_exit ?_
    refine xw_then_exit ?_
    refine xw_then_exit ?_
    refine xw_in_exit ?_
    refine xw_then ?_
    refine cw_seq ?_
    refine cw_region ?_
    refine lstepB rfl rfl rfl (run_move (.tmp rfl)) ?_
    refine lstepB rfl rfl rfl (run_assign (.tmp rfl)) ?_
    refine lnil ?_
    refine xw_then ?_
    refine cw_ret ?_
    refine xw_ret1 Try.results32 rfl (fun w hS => ⟨?_, hS.kept⟩)
    rw [hI.done (by first | exact hgt | omega) hq1 hq2]
end Go.Proofs.Ytkjciobphbcknaa
