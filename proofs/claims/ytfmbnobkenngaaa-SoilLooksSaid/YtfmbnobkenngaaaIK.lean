/- Soil: the document's own Odd and Stretch. -/
import Derived.Test.YtfmbnobkenngaaaIJ
import Derived.Test.YtfmbnobkenngaaaHI
namespace Go.Proofs.Ytfmbnobkenngaaa
open Go.RowKit En

theorem two8 : ∀ k : Fin 8, ∀ v : Fin 256, v.1 < 2 ^ k.1 → v.1 + 2 ^ k.1 = v.1 ||| 2 ^ k.1 := by decide +kernel
theorem odd_step {g : GroundD} {k : Nat} (hk : k < 8) (h : lookOk (withoutG g k) = true) : oddF g (k + 1) = oddF g k + 2 ^ k := by
  have h1 := oddF_lt g k
  have h2 : 2 ^ k ≤ 2 ^ 8 := Nat.pow_le_pow_right (by omega) (by omega)
  have := two8 ⟨k, hk⟩ ⟨oddF g k, by omega⟩ h1
  rw [oddF, if_pos h]
  exact this.symm
theorem odd_same {g : GroundD} {k : Nat} (h : lookOk (withoutG g k) = false) : oddF g (k + 1) = oddF g k := by
  rw [oddF, if_neg (by rw [h]; simp)]
theorem VG.wo {g : GroundD} (h : VG g) (i : Nat) : VG (withoutG g i) := by
  refine ⟨h.v.without i, ?_⟩
  rw [without_pits]
  have h1 := h.ord
  rw [← List.take_append_drop i g.pits, List.pairwise_append] at h1
  rw [List.pairwise_append]
  refine ⟨h1.1, ?_, fun a ha b hb => ?_⟩
  · have : (g.pits.drop (i + 1)).Sublist (g.pits.drop i) := by
      rw [← List.drop_drop]; exact List.drop_sublist ..
    exact h1.2.1.sublist this
  · refine h1.2.2 a ha b ?_
    rw [← List.drop_drop] at hb
    exact List.mem_of_mem_drop hb
theorem oddE_nilv {g : GroundD} : (validB g = false ∧ oddE g = some 1) ∨ (validB g = true ∧ lookOk g = true ∧ oddE g = some 4) ∨ (validB g = true ∧ lookOk g = false ∧ oddE g = none) := by
  unfold oddE checkE
  cases validB g
  · exact .inl ⟨rfl, rfl⟩
  · cases lookOk g
    · exact .inr (.inr ⟨rfl, rfl, by simp⟩)
    · exact .inr (.inl ⟨rfl, rfl, by simp⟩)
set_option maxRecDepth 100000 in
set_option maxHeartbeats 4000000 in
theorem refOddK (g : GroundD) (pa : Option Addr) (pc : Nat) (hgm : g.pits.length ≤ 1000000) (w : World) (hp : PitsAt w pa g.pits) : Gives Try.prog 26 [.agg [.int .i64 g.long, .int .i64 g.rise, .int .i64 g.change, .slice pa g.pits.length pc].toArray] w (.tuple #[.int .i64 ((oddV g : Nat) : Int), .int .i64 (errN (oddE g))]) := by
 rcases oddE_nilv (g := g) with ⟨hv, he⟩ | ⟨hv, ho, he⟩ | ⟨hv, ho, he⟩
 ·
  rw [he]
  have hS0 : oddV g = 0 := by unfold oddV; rw [if_neg (by rw [he]; simp)]
  rw [hS0]
  refine .mk <| enter (n := 27) Try.func26 rfl rfl rfl (by repeat (first | exact Fill.nil | apply Fill.cons)) ?_
  refine cw_seq ?_
  refine cw_region ?_
  refine lstep rfl rfl rfl (run_boxN (.tmp rfl)) ?_
  intro b1 _
  refine lstepB rfl rfl rfl (run_assign .const) ?_
  refine lstepB rfl rfl rfl (run_assign .const) ?_
  refine lnil ?_
  refine xw_then ?_
  refine cw_seq ?_
  refine cw_seq ?_
  refine cw_region ?_
  refine lstepB rfl rfl rfl (run_loadN (.tmp rfl) kd24 sz24 (by repeat (first | exact List.Mem.head _ | apply List.Mem.tail)) (by repeat (first | exact Sub.done | apply Sub.take | apply Sub.skip))) ?_
  refine lstepB rfl rfl rfl (run_call1 cb32 (.cons (.tmp rfl) .nil) (fun w2 hS => (rGroundK g pa pc w2 hgm (hp.kept hS.kept)).as (congrArg Value.bool hv))) ?_
  refine lstepB rfl rfl rfl (run_not (.tmp rfl) (by first | exact Bool.not_true | exact Bool.not_false | exact rfl)) ?_
  refine lnil ?_
  refine xw_then ?_
  refine cw_cond_true (.tmp rfl) ?_
  refine cw_seq ?_
  refine cw_region ?_
  refine lstepB rfl rfl rfl (run_assign .const) ?_
  refine lstepB rfl rfl rfl (run_assign .const) ?_
  refine lnil ?_
  refine xw_then ?_
  refine cw_ret ?_
  refine xw_then_ret ?_
  refine xw_ret2 Try.results26 rfl rfl (fun w hS => ⟨rfl, hS.kept⟩)
 ·
  rw [he]
  have hS0 : oddV g = 0 := by unfold oddV; rw [if_neg (by rw [he]; simp)]
  rw [hS0]
  have vg := VG.of hv
  refine .mk <| enter (n := 27) Try.func26 rfl rfl rfl (by repeat (first | exact Fill.nil | apply Fill.cons)) ?_
  refine cw_seq ?_
  refine cw_region ?_
  refine lstep rfl rfl rfl (run_boxN (.tmp rfl)) ?_
  intro b1 _
  refine lstepB rfl rfl rfl (run_assign .const) ?_
  refine lstepB rfl rfl rfl (run_assign .const) ?_
  refine lnil ?_
  refine xw_then ?_
  refine cw_seq ?_
  refine cw_seq ?_
  refine cw_region ?_
  refine lstepB rfl rfl rfl (run_loadN (.tmp rfl) kd24 sz24 (by repeat (first | exact List.Mem.head _ | apply List.Mem.tail)) (by repeat (first | exact Sub.done | apply Sub.take | apply Sub.skip))) ?_
  refine lstepB rfl rfl rfl (run_call1 cb32 (.cons (.tmp rfl) .nil) (fun w2 hS => (rGroundK g pa pc w2 hgm (hp.kept hS.kept)).as (congrArg Value.bool hv))) ?_
  refine lstepB rfl rfl rfl (run_not (.tmp rfl) (by first | exact Bool.not_true | exact Bool.not_false | exact rfl)) ?_
  refine lnil ?_
  refine xw_then ?_
  refine cw_cond_false (.tmp rfl) ?_
  refine cw_skip ?_
  refine xw_then ?_
  refine cw_seq ?_
  refine cw_seq ?_
  refine cw_region ?_
  refine lstepB rfl rfl rfl (run_loadN (.tmp rfl) kd24 sz24 (by repeat (first | exact List.Mem.head _ | apply List.Mem.tail)) (by repeat (first | exact Sub.done | apply Sub.take | apply Sub.skip))) ?_
  refine lstepB rfl rfl rfl (run_call1 cb71 (.cons (.tmp rfl) .nil) (fun w2 hS => (truthZK g pa pc vg w2 (hp.kept hS.kept)).as (congrArg Value.bool ho))) ?_
  refine lnil ?_
  refine xw_then ?_
  refine cw_cond_true (.tmp rfl) ?_
  refine cw_seq ?_
  refine cw_region ?_
  refine lstepB rfl rfl rfl (run_assign .const) ?_
  refine lstepB rfl rfl rfl (run_assign .const) ?_
  refine lnil ?_
  refine xw_then ?_
  refine cw_ret ?_
  refine xw_then_ret ?_
  refine xw_ret2 Try.results26 rfl rfl (fun w hS => ⟨rfl, hS.kept⟩)
 ·
  rw [he]
  have hS0 : oddV g = oddF g g.pits.length := by unfold oddV; rw [if_pos he]
  rw [hS0]
  have vg := VG.of hv
  have hlen := vg.v.len
  refine .mk <| enter (n := 27) Try.func26 rfl rfl rfl (by repeat (first | exact Fill.nil | apply Fill.cons)) ?_
  refine cw_seq ?_
  refine cw_region ?_
  refine lstep rfl rfl rfl (run_boxN (.tmp rfl)) ?_
  intro b1 _
  refine lstepB rfl rfl rfl (run_assign .const) ?_
  refine lstepB rfl rfl rfl (run_assign .const) ?_
  refine lnil ?_
  refine xw_then ?_
  refine cw_seq ?_
  refine cw_seq ?_
  refine cw_region ?_
  refine lstepB rfl rfl rfl (run_loadN (.tmp rfl) kd24 sz24 (by repeat (first | exact List.Mem.head _ | apply List.Mem.tail)) (by repeat (first | exact Sub.done | apply Sub.take | apply Sub.skip))) ?_
  refine lstepB rfl rfl rfl (run_call1 cb32 (.cons (.tmp rfl) .nil) (fun w2 hS => (rGroundK g pa pc w2 hgm (hp.kept hS.kept)).as (congrArg Value.bool hv))) ?_
  refine lstepB rfl rfl rfl (run_not (.tmp rfl) (by first | exact Bool.not_true | exact Bool.not_false | exact rfl)) ?_
  refine lnil ?_
  refine xw_then ?_
  refine cw_cond_false (.tmp rfl) ?_
  refine cw_skip ?_
  refine xw_then ?_
  refine cw_seq ?_
  refine cw_seq ?_
  refine cw_region ?_
  refine lstepB rfl rfl rfl (run_loadN (.tmp rfl) kd24 sz24 (by repeat (first | exact List.Mem.head _ | apply List.Mem.tail)) (by repeat (first | exact Sub.done | apply Sub.take | apply Sub.skip))) ?_
  refine lstepB rfl rfl rfl (run_call1 cb71 (.cons (.tmp rfl) .nil) (fun w2 hS => (truthZK g pa pc vg w2 (hp.kept hS.kept)).as (congrArg Value.bool ho))) ?_
  refine lnil ?_
  refine xw_then ?_
  refine cw_cond_false (.tmp rfl) ?_
  refine cw_skip ?_
  refine xw_then ?_
  refine cw_seq ?_
  refine cw_region ?_
  refine lstepB rfl rfl rfl (run_assign .const) ?_
  refine lnil ?_
  refine xw_then ?_
  refine cw_seq ?_
  refine cw_seq ?_
  refine cw_region ?_
  refine lstepB rfl rfl rfl (run_assign .const) ?_
  refine lnil ?_
  refine xw_then ?_
  refine cw_block ?_
  refine cw_loop (S := Nat) (fun k => [(5, .int .i64 ((k : Nat) : Int)), (4, .int .i64 ((oddF g k : Nat) : Int))]) [(1, _)] (fun k => [(b1, Obj.cells [.int .i64 g.long, .int .i64 g.rise, .int .i64 g.change, .slice pa g.pits.length pc].toArray 24 (0, 0))]) (fun k => k ≤ g.pits.length) (fun k => g.pits.length - k) 0 (Nat.zero_le _) (by repeat (first | exact Less.nil | refine Less.cons rfl ?_)) (by repeat (first | exact Pick.nil | (apply Pick.cons; focus (repeat (first | exact Del.here | apply Del.there))))) ?_
  intro k hk
  refine cw_seq ?_
  refine cw_seq ?_
  refine cw_region ?_
  refine lstepB rfl rfl rfl (run_move (.tmp rfl)) ?_
  refine lstepB rfl rfl rfl (run_fieldAddr (.tmp rfl) fa24_3 (by first | exact Nat.zero_add _ | exact rfl)) ?_
  refine lstepB rfl rfl rfl (run_load1 (.tmp rfl) kd22 (by repeat (first | exact List.Mem.head _ | apply List.Mem.tail)) (by exact rfl)) ?_
  refine lstepB rfl rfl rfl (run_len (.tmp rfl) sl22) ?_
  refine lstepB rfl rfl rfl (run_lss (.tmp rfl) (.tmp rfl) rfl) ?_
  refine lnil ?_
  refine xw_then ?_
  refine cw_cond_p (.tmp rfl) (fun hl => ?_) (fun hl => ?_)
  ·
   have vw := vg.wo k
   have h1 := oddF_lt g k
   have h2 : 2 ^ k ≤ 2 ^ 8 := Nat.pow_le_pow_right (by omega) (by omega)
   have hwn : (withoutG g k).long = g.long ∧ (withoutG g k).rise = g.rise ∧ (withoutG g k).change = g.change := ⟨rfl, rfl, rfl⟩
   refine cw_skip ?_
   refine xw_then ?_
   refine cw_seq ?_
   refine cw_block ?_
   refine cw_seq ?_
   refine cw_region ?_
   refine lstepB rfl rfl rfl (run_loadN (.tmp rfl) kd24 sz24 (by repeat (first | exact List.Mem.head _ | apply List.Mem.tail)) (by repeat (first | exact Sub.done | apply Sub.take | apply Sub.skip))) ?_
   refine lstepB rfl rfl rfl (run_move (.tmp rfl)) ?_
   refine lstep rfl rfl rfl (LR.runs (R := []) (A := []) (lr_gives cb72 (.cons (.tmp rfl) (.cons (.tmp rfl) .nil)) (fun w2 hS => refWithoutK g k (by omega) pa pc hgm w2 (hp.kept hS.kept))) (by repeat (first | exact Pick.nil | (apply Pick.cons; focus (repeat (first | exact Del.here | apply Del.there))))) (by repeat (first | exact Dels.nil | (apply Dels.cons; focus (repeat (first | exact Del.here | apply Del.there)))))) ?_
   intro q hq
   cases q
   case none =>
    dsimp only at hq ⊢
    cases hlk : lookOk (withoutG g k)
    ·
     refine lstepB rfl rfl rfl (run_call1 cb71 (.cons (.tmp rfl) .nil) (fun w hS => by have := truthZK (withoutG g k) none 0 vw w (by rw [hq]; exact fun i r h => by simp at h); rw [hlk, hq] at this; exact this)) ?_
     refine lnil ?_
     refine xw_then ?_
     refine cw_cond_false (.tmp rfl) ?_
     have hst := odd_same hlk
     rw [← hst]
     refine cw_skip ?_
     refine xw_in ?_
     refine xw_then ?_
     refine cw_region ?_
     refine lstepB rfl rfl rfl (run_move (.tmp rfl)) ?_
     refine lstepB rfl rfl rfl (run_add (.tmp rfl) .const (by first | exact IntWalk.i64_in _ (by omega) | exact rfl)) ?_
     refine lstepB rfl rfl rfl (run_assign (.tmp rfl)) ?_
     refine lnil ?_
     exact xw_round (k + 1) (by show k + 1 ≤ _; omega) (by show g.pits.length - (k + 1) < g.pits.length - k; omega) (by repeat (first | exact Less.nil | refine Less.cons rfl ?_)) (by repeat (first | exact Pick.nil | (apply Pick.cons; focus (repeat (first | exact Del.here | apply Del.there)))))
    ·
     refine lstepB rfl rfl rfl (run_call1 cb71 (.cons (.tmp rfl) .nil) (fun w hS => by have := truthZK (withoutG g k) none 0 vw w (by rw [hq]; exact fun i r h => by simp at h); rw [hlk, hq] at this; exact this)) ?_
     refine lnil ?_
     refine xw_then ?_
     refine cw_cond_true (.tmp rfl) ?_
     have hst := odd_step (by omega) hlk
     refine cw_region ?_
     refine lstepB rfl rfl rfl (run_move (.tmp rfl)) ?_
     refine lstepB rfl rfl rfl (run_move (.tmp rfl)) ?_
     refine lstepB rfl rfl rfl (run_call1 cb64 (.cons (.tmp rfl) .nil) (fun w _ => powerZK k (by omega) w)) ?_
     refine lstepB rfl rfl rfl (run_add (c := ((oddF g (k + 1) : Nat) : Int)) (.tmp rfl) (.tmp rfl) (by rw [hst]; obtain ⟨p, hpw⟩ : ∃ p, 2 ^ k = p := ⟨_, rfl⟩; rw [hpw] at h2 ⊢; rw [IntWalk.i64_in _ (by omega)]; omega)) ?_
     refine lstepB rfl rfl rfl (run_assign (.tmp rfl)) ?_
     refine lnil ?_
     refine xw_in ?_
     refine xw_then ?_
     refine cw_region ?_
     refine lstepB rfl rfl rfl (run_move (.tmp rfl)) ?_
     refine lstepB rfl rfl rfl (run_add (.tmp rfl) .const (by first | exact IntWalk.i64_in _ (by omega) | exact rfl)) ?_
     refine lstepB rfl rfl rfl (run_assign (.tmp rfl)) ?_
     refine lnil ?_
     exact xw_round (k + 1) (by show k + 1 ≤ _; omega) (by show g.pits.length - (k + 1) < g.pits.length - k; omega) (by repeat (first | exact Less.nil | refine Less.cons rfl ?_)) (by repeat (first | exact Pick.nil | (apply Pick.cons; focus (repeat (first | exact Del.here | apply Del.there)))))
   case some q =>
    obtain ⟨gW, cW, rW⟩ := q
    dsimp only at hq ⊢
    cases hlk : lookOk (withoutG g k)
    ·
     refine lstepB rfl rfl rfl (run_call1 cb71 (.cons (.tmp rfl) .nil) (fun w hS => (truthZK (withoutG g k) (some ⟨gW, 0, none⟩) cW vw w (pitsAt_row (hS.mem (by repeat (first | exact List.Mem.head _ | apply List.Mem.tail))) hq)).as (congrArg Value.bool hlk))) ?_
     refine lnil ?_
     refine xw_then ?_
     refine cw_cond_false (.tmp rfl) ?_
     have hst := odd_same hlk
     rw [← hst]
     refine cw_skip ?_
     refine xw_in ?_
     refine xw_then ?_
     refine cw_region ?_
     refine lstepB rfl rfl rfl (run_move (.tmp rfl)) ?_
     refine lstepB rfl rfl rfl (run_add (.tmp rfl) .const (by first | exact IntWalk.i64_in _ (by omega) | exact rfl)) ?_
     refine lstepB rfl rfl rfl (run_assign (.tmp rfl)) ?_
     refine lnil ?_
     exact xw_round (k + 1) (by show k + 1 ≤ _; omega) (by show g.pits.length - (k + 1) < g.pits.length - k; omega) (by repeat (first | exact Less.nil | refine Less.cons rfl ?_)) (by repeat (first | exact Pick.nil | (apply Pick.cons; focus (repeat (first | exact Del.here | apply Del.there)))))
    ·
     refine lstepB rfl rfl rfl (run_call1 cb71 (.cons (.tmp rfl) .nil) (fun w hS => (truthZK (withoutG g k) (some ⟨gW, 0, none⟩) cW vw w (pitsAt_row (hS.mem (by repeat (first | exact List.Mem.head _ | apply List.Mem.tail))) hq)).as (congrArg Value.bool hlk))) ?_
     refine lnil ?_
     refine xw_then ?_
     refine cw_cond_true (.tmp rfl) ?_
     have hst := odd_step (by omega) hlk
     refine cw_region ?_
     refine lstepB rfl rfl rfl (run_move (.tmp rfl)) ?_
     refine lstepB rfl rfl rfl (run_move (.tmp rfl)) ?_
     refine lstepB rfl rfl rfl (run_call1 cb64 (.cons (.tmp rfl) .nil) (fun w _ => powerZK k (by omega) w)) ?_
     refine lstepB rfl rfl rfl (run_add (c := ((oddF g (k + 1) : Nat) : Int)) (.tmp rfl) (.tmp rfl) (by rw [hst]; obtain ⟨p, hpw⟩ : ∃ p, 2 ^ k = p := ⟨_, rfl⟩; rw [hpw] at h2 ⊢; rw [IntWalk.i64_in _ (by omega)]; omega)) ?_
     refine lstepB rfl rfl rfl (run_assign (.tmp rfl)) ?_
     refine lnil ?_
     refine xw_in ?_
     refine xw_then ?_
     refine cw_region ?_
     refine lstepB rfl rfl rfl (run_move (.tmp rfl)) ?_
     refine lstepB rfl rfl rfl (run_add (.tmp rfl) .const (by first | exact IntWalk.i64_in _ (by omega) | exact rfl)) ?_
     refine lstepB rfl rfl rfl (run_assign (.tmp rfl)) ?_
     refine lnil ?_
     exact xw_round (k + 1) (by show k + 1 ≤ _; omega) (by show g.pits.length - (k + 1) < g.pits.length - k; omega) (by repeat (first | exact Less.nil | refine Less.cons rfl ?_)) (by repeat (first | exact Pick.nil | (apply Pick.cons; focus (repeat (first | exact Del.here | apply Del.there)))))
  ·
   obtain rfl : k = g.pits.length := by omega
   refine cw_exit ?_
   refine xw_then_exit ?_
   refine xw_then_exit ?_
   refine xw_in_exit ?_
   refine xw_then ?_
   refine cw_seq ?_
   refine cw_region ?_
   refine lstepB rfl rfl rfl (run_move (.tmp rfl)) ?_
   refine lstepB rfl rfl rfl (run_assign (.tmp rfl)) ?_
   refine lstepB rfl rfl rfl (run_assign .const) ?_
   refine lnil ?_
   refine xw_then ?_
   refine cw_ret ?_
   refine xw_ret2 Try.results26 rfl rfl (fun w hS => ⟨rfl, hS.kept⟩)
theorem chk_str (g : GroundD) (c : Int) : (chkN g (inZ c 0 3) ≠ 0 ∧ stretchE g c = some (chkN g (inZ c 0 3))) ∨ (chkN g (inZ c 0 3) = 0 ∧ validB g = true ∧ (0 ≤ c ∧ c < 4) ∧ lookOk g = true ∧ ((¬ 0 < (longG g c.toNat).2.2 ∧ stretchE g c = some 4) ∨ (0 < (longG g c.toNat).2.2 ∧ stretchE g c = none))) := by
  cases hv : validB g with
  | false =>
    have h1 : checkE g [] = some 1 := by unfold checkE; rw [hv]; rfl
    have h2 : chkN g (inZ c 0 3) = 1 := by unfold chkN; rw [hv]; rfl
    refine .inl ⟨by rw [h2]; decide, ?_⟩
    rcases stretchE_cases g c with ⟨n, q1, q2⟩ | ⟨q1, _⟩ | ⟨q1, _⟩ | ⟨q1, _⟩ | ⟨q1, _⟩ | ⟨q1, _⟩
    · rw [h1] at q1; cases q1; rw [q2, h2]
    all_goals rw [h1] at q1; cases q1
  | true =>
    have h1 : checkE g [] = none := by unfold checkE; rw [hv]; rfl
    rcases stretchE_cases g c with ⟨n, q1, q2⟩ | ⟨q1, q2, q3⟩ | ⟨q1, q2, q3, q4⟩ | ⟨q1, q2, q3, q4⟩ | ⟨q1, q2, q3, q4, q5⟩ | ⟨q1, q2, q3, q4, q5⟩
    · rw [h1] at q1; cases q1
    · have e : inZ c 0 3 = false := by cases hz : inZ c 0 3 with | false => rfl | true => have := inZ_iff.1 hz; omega
      have h2 : chkN g (inZ c 0 3) = 2 := by unfold chkN; rw [hv, e]; rfl
      exact .inl ⟨by rw [h2]; decide, by rw [q3, h2]⟩
    · have e : inZ c 0 3 = false := by cases hz : inZ c 0 3 with | false => rfl | true => have := inZ_iff.1 hz; omega
      have h2 : chkN g (inZ c 0 3) = 2 := by unfold chkN; rw [hv, e]; rfl
      exact .inl ⟨by rw [h2]; decide, by rw [q4, h2]⟩
    · have e : inZ c 0 3 = true := inZ_iff.2 (by omega)
      have h2 : chkN g (inZ c 0 3) = 10 := by unfold chkN; rw [hv, e, q3]; rfl
      exact .inl ⟨by rw [h2]; decide, by rw [q4, h2]⟩
    · have e : inZ c 0 3 = true := inZ_iff.2 (by omega)
      have h2 : chkN g (inZ c 0 3) = 0 := by unfold chkN; rw [hv, e, q3]; rfl
      exact .inr ⟨h2, rfl, q2, q3, .inl ⟨q4, q5⟩⟩
    · have e : inZ c 0 3 = true := inZ_iff.2 (by omega)
      have h2 : chkN g (inZ c 0 3) = 0 := by unfold chkN; rw [hv, e, q3]; rfl
      exact .inr ⟨h2, rfl, q2, q3, .inr ⟨q4, q5⟩⟩
def allT (s : Nat → Bool) (x y : Nat) : Prop := ∀ i, x ≤ i → i ≤ y → s i = true
/-- The best stretch of those that were looked at: P says which. -/
def BestZ (s : Nat → Bool) (n : Nat) (P : Nat → Nat → Prop) (f : Bool) (lo hi : Nat) : Prop :=
  (f = false → (∀ x y, P x y → x ≤ y → y < n → ¬ allT s x y) ∧ lo = 0 ∧ hi = 0) ∧
  (f = true → lo ≤ hi ∧ hi < n ∧ allT s lo hi ∧ ∀ x y, P x y → x ≤ y → y < n → allT s x y → y - x < hi - lo ∨ (y - x = hi - lo ∧ lo ≤ x))
def lexP (l r : Nat) (x y : Nat) : Prop := x < l ∨ (x = l ∧ y < r)
theorem BestZ.mono {s : Nat → Bool} {n : Nat} {P Q : Nat → Nat → Prop} {f : Bool} {lo hi : Nat} (h : BestZ s n P f lo hi) (hq : ∀ x y, Q x y → x ≤ y → y < n → allT s x y → P x y) : BestZ s n Q f lo hi :=
  ⟨fun hf => ⟨fun x y a b c d => (h.1 hf).1 x y (hq x y a b c d) b c d, (h.1 hf).2⟩, fun hf => ⟨(h.2 hf).1, (h.2 hf).2.1, (h.2 hf).2.2.1, fun x y a b c d => (h.2 hf).2.2.2 x y (hq x y a b c d) b c d⟩⟩
theorem BestZ.take {s : Nat → Bool} {n l r lo hi : Nat} {f : Bool} (h : BestZ s n (lexP l r) f lo hi) (hlr : l ≤ r) (hr : r < n) (ha : allT s l r) (hc : f = false ∨ hi - lo < r - l) : BestZ s n (lexP l (r + 1)) true l r := by
  refine ⟨(fun h => by cases h), fun _ => ⟨hlr, hr, ha, fun x y hp hxy hy ht => ?_⟩⟩
  by_cases e : x = l ∧ y = r
  · obtain ⟨rfl, rfl⟩ := e; exact .inr ⟨rfl, Nat.le_refl _⟩
  · have hp2 : lexP l r x y := by unfold lexP at *; omega
    cases f with
    | false => exact absurd ht ((h.1 rfl).1 x y hp2 hxy hy)
    | true =>
      have := (h.2 rfl).2.2.2 x y hp2 hxy hy ht
      have := hc.resolve_left (by simp)
      omega
theorem BestZ.keep {s : Nat → Bool} {n l r lo hi : Nat} (h : BestZ s n (lexP l r) true lo hi) (hc : ¬ hi - lo < r - l) (hlo : lo ≤ l) : BestZ s n (lexP l (r + 1)) true lo hi := by
  refine ⟨(fun h => by cases h), fun _ => ⟨(h.2 rfl).1, (h.2 rfl).2.1, (h.2 rfl).2.2.1, fun x y hp hxy hy ht => ?_⟩⟩
  by_cases e : x = l ∧ y = r
  · obtain ⟨rfl, rfl⟩ := e; omega
  · exact (h.2 rfl).2.2.2 x y (by unfold lexP at *; omega) hxy hy ht
theorem BestZ.next {s : Nat → Bool} {n l r lo hi : Nat} {f : Bool} (h : BestZ s n (lexP l r) f lo hi) (hlr : l ≤ r) (hend : r < n → s r = false) : BestZ s n (lexP (l + 1) (l + 1)) f lo hi :=
  h.mono fun x y hp hxy hy ht => by
    unfold lexP at *
    by_cases e : x = l
    · subst e
      by_cases c : y < r
      · exact .inr ⟨rfl, c⟩
      · have h1 := hend (by omega)
        rw [ht r hlr (by omega)] at h1; cases h1
    · omega
theorem BestZ.done {s : Nat → Bool} {n lo hi l : Nat} {f : Bool} (h : BestZ s n (lexP l l) f lo hi) (hl : n ≤ l) : (f = false ∧ ¬ 0 < (longF s n).2.2) ∨ (f = true ∧ 0 < (longF s n).2.2 ∧ (longF s n).1 = (lo : Int) ∧ (longF s n).2.1 = (hi : Int)) := by
  cases f with
  | false =>
    have h1 := (h.1 rfl).1
    rcases long_spec s n with ⟨a, _⟩ | ⟨_, x, y, _, _, hxy, hy, ht, _⟩
    · exact .inl ⟨rfl, by omega⟩
    · exact absurd ht (h1 x y (by unfold lexP; omega) hxy hy)
  | true =>
    obtain ⟨h1, h2, h3, h4⟩ := h.2 rfl
    rcases long_spec s n with ⟨_, _, a⟩ | ⟨a0, x, y, ex, ey, hxy, hy, ht, _, _, hb⟩
    · have := a lo (by omega)
      rw [h3 lo (Nat.le_refl _) h1] at this; cases this
    · have q1 := hb lo hi h1 h2 h3
      have q2 := h4 x y (by unfold lexP; omega) hxy hy ht
      exact .inr ⟨rfl, a0, by rw [ex]; omega, by rw [ey]; omega⟩
def clsL (g : GroundD) (n : Nat) : List Value := (List.range n).map fun i => .int .i64 ((classesM ((soilsL g).getD i noMix) : Nat) : Int)
theorem clsL_succ (g : GroundD) (n : Nat) : clsL g (n + 1) = clsL g n ++ [.int .i64 ((classesM ((soilsL g).getD n noMix) : Nat) : Int)] := by simp [clsL, List.range_succ]
theorem clsL_at {g : GroundD} {n i : Nat} (h : i < n) : (clsL g n)[i]? = some (.int .i64 ((classesM ((soilsL g).getD i noMix) : Nat) : Int)) := by simp [clsL, h]
theorem nat_eqZ (x y : Nat) : decide (((x : Nat) : Int) = (y : Int)) = decide (x = y) := by
  by_cases h : x = y
  · subst h; simp
  · have : ¬ ((x : Int) = (y : Int)) := by omega
    simp [h, this]
structure StrS where
  l : Nat
  lo : Nat
  hi : Nat
  f : Bool
set_option maxRecDepth 100000 in
set_option maxHeartbeats 4000000 in
theorem refStretchK (g : GroundD) (c : Int) (pa : Option Addr) (pc : Nat) (hgm : g.pits.length ≤ 1000000) (w : World) (hp : PitsAt w pa g.pits) : Gives Try.prog 22 [.agg [.int .i64 g.long, .int .i64 g.rise, .int .i64 g.change, .slice pa g.pits.length pc].toArray, .int .i64 c] w (.tuple #[.int .i64 (stretchS g c).1, .int .i64 (stretchS g c).2, .int .i64 (errN (stretchE g c))]) := by
 rcases chk_str g c with ⟨hck, he⟩ | ⟨hck, hv, hc, hlk, hfin⟩
 ·
  have hS0 : stretchS g c = (0, 0) := by unfold stretchS; rw [if_neg (by rw [he]; simp)]
  rw [hS0, he]
  obtain ⟨m, hm⟩ : ∃ m, chkN g (inZ c 0 3) = m := ⟨_, rfl⟩
  rw [hm] at hck ⊢
  rw [show errN (some m) = m from rfl]
  refine .mk <| enter (n := 73) Try.func22 rfl rfl rfl (by repeat (first | exact Fill.nil | apply Fill.cons)) ?_
  refine cw_seq ?_
  refine cw_region ?_
  refine lstep rfl rfl rfl (run_boxN (.tmp rfl)) ?_
  intro b2 _
  refine lstepB rfl rfl rfl (run_assign .const) ?_
  refine lstepB rfl rfl rfl (run_assign .const) ?_
  refine lstepB rfl rfl rfl (run_assign .const) ?_
  refine lnil ?_
  refine xw_then ?_
  refine cw_seq ?_
  refine cw_chain2 (σ := [0, 1, 2, 3, 4]) [⟨0, [0], [], [], 0⟩, ⟨0, [], [], [], 0⟩, ⟨0, [], [], [], 2⟩, ⟨0, [], [], [], 7⟩, ⟨0, [], [], [], 15⟩] [(0, _)] (by kernel_rfl) (by kernel_rfl) rfl ?_
  refine .det (B := []) rfl rfl (.inl rfl) (.cons rfl .nil) .nil rfl (RunB.lr (run_loadN (.tmp rfl) kd24 sz24 (by repeat (first | exact List.Mem.head _ | apply List.Mem.tail)) (by repeat (first | exact Sub.done | apply Sub.take | apply Sub.skip)))) ?_
  refine .det (B := []) rfl rfl (.inl rfl) .nil .nil rfl (RunB.lr (run_move (.tmp rfl))) ?_
  refine .det (B := []) rfl rfl (.inl rfl) .nil .nil rfl (RunB.lr (run_call1 cb63 (.cons (.tmp rfl) (.cons .const (.cons .const .nil))) (fun w _ => inZK _ _ _ w))) ?_
  refine .det (B := []) rfl rfl (.inl rfl) .nil .nil rfl (RunB.lr (run_call1 cb46 (.cons (.tmp rfl) (.cons (.tmp rfl) .nil)) (fun w hS => (checkZK g _ pa pc hgm w (hp.kept hS.kept)).as (congrArg (Value.int .i64) hm)))) ?_
  refine .det (B := []) rfl rfl (.inl rfl) .nil .nil rfl (RunB.lr (run_assign (.tmp rfl))) ?_
  refine chain_nil (ts := [0]) (.cons rfl .nil) (by decide) ?_
  refine xw_then ?_
  refine cw_seq ?_
  refine cw_seq ?_
  refine cw_region ?_
  refine lstepB rfl rfl rfl (run_move (.tmp rfl)) ?_
  refine lstepB rfl rfl rfl (run_neq (p := true) (.tmp rfl) .const (decide_eq_true hck)) ?_
  refine lnil ?_
  refine xw_then ?_
  refine cw_cond_true (.tmp rfl) ?_
  refine cw_seq ?_
  refine cw_region ?_
  refine lstepB rfl rfl rfl (run_move (.tmp rfl)) ?_
  refine lstepB rfl rfl rfl (run_assign .const) ?_
  refine lstepB rfl rfl rfl (run_assign .const) ?_
  refine lstepB rfl rfl rfl (run_assign (.tmp rfl)) ?_
  refine lnil ?_
  refine xw_then ?_
  refine cw_ret ?_
  refine xw_then_ret ?_
  refine xw_ret3 Try.results22 rfl rfl rfl (fun w hS => ⟨rfl, hS.kept⟩)
 ·
  have vg := VG.of hv
  have hlong := vg.v.long
  have hpl : (placesN g : Int) = g.long + 1 := by unfold placesN; omega
  have hso := lookOk_soils hlk
  obtain ⟨c, rfl⟩ : ∃ n : Nat, c = (n : Int) := ⟨c.toNat, by omega⟩
  rw [Int.toNat_natCast] at hfin
  obtain ⟨s, hs⟩ : ∃ s, sureB (soilsL g) c = s := ⟨_, rfl⟩
  have hs2 : ∀ i, decide (classesM ((soilsL g).getD i noMix) = 2 ^ c) = s i := fun i => by rw [← hs]; rfl
  have hlF : longG g c = longF s (placesN g) := by unfold longG; rw [hs]
  rw [hlF] at hfin
  refine .mk <| enter (n := 73) Try.func22 rfl rfl rfl (by repeat (first | exact Fill.nil | apply Fill.cons)) ?_
  refine cw_seq ?_
  refine cw_region ?_
  refine lstep rfl rfl rfl (run_boxN (.tmp rfl)) ?_
  intro b2 _
  refine lstepB rfl rfl rfl (run_assign .const) ?_
  refine lstepB rfl rfl rfl (run_assign .const) ?_
  refine lstepB rfl rfl rfl (run_assign .const) ?_
  refine lnil ?_
  refine xw_then ?_
  refine cw_seq ?_
  refine cw_chain2 (σ := [0, 1, 2, 3, 4]) [⟨0, [0], [], [], 0⟩, ⟨0, [], [], [], 0⟩, ⟨0, [], [], [], 2⟩, ⟨0, [], [], [], 7⟩, ⟨0, [], [], [], 15⟩] [(0, _)] (by kernel_rfl) (by kernel_rfl) rfl ?_
  refine .det (B := []) rfl rfl (.inl rfl) (.cons rfl .nil) .nil rfl (RunB.lr (run_loadN (.tmp rfl) kd24 sz24 (by repeat (first | exact List.Mem.head _ | apply List.Mem.tail)) (by repeat (first | exact Sub.done | apply Sub.take | apply Sub.skip)))) ?_
  refine .det (B := []) rfl rfl (.inl rfl) .nil .nil rfl (RunB.lr (run_move (.tmp rfl))) ?_
  refine .det (B := []) rfl rfl (.inl rfl) .nil .nil rfl (RunB.lr (run_call1 cb63 (.cons (.tmp rfl) (.cons .const (.cons .const .nil))) (fun w _ => inZK _ _ _ w))) ?_
  refine .det (B := []) rfl rfl (.inl rfl) .nil .nil rfl (RunB.lr (run_call1 cb46 (.cons (.tmp rfl) (.cons (.tmp rfl) .nil)) (fun w hS => (checkZK g _ pa pc hgm w (hp.kept hS.kept)).as (congrArg (Value.int .i64) hck)))) ?_
  refine .det (B := []) rfl rfl (.inl rfl) .nil .nil rfl (RunB.lr (run_assign (.tmp rfl))) ?_
  refine chain_nil (ts := [0]) (.cons rfl .nil) (by decide) ?_
  refine xw_then ?_
  refine cw_seq ?_
  refine cw_seq ?_
  refine cw_region ?_
  refine lstepB rfl rfl rfl (run_move (.tmp rfl)) ?_
  refine lstepB rfl rfl rfl (run_neq (.tmp rfl) .const (by first | exact decide_eq_true (by omega) | exact decide_eq_false (by omega) | exact rfl)) ?_
  refine lnil ?_
  refine xw_then ?_
  refine cw_cond_false (.tmp rfl) ?_
  refine cw_skip ?_
  refine xw_then ?_
  refine cw_seq ?_
  refine cw_region ?_
  refine lstepB rfl rfl rfl (run_assign .const) ?_
  refine lnil ?_
  refine xw_then ?_
  refine cw_seq ?_
  refine cw_seq ?_
  refine cw_region ?_
  refine lstepB rfl rfl rfl (run_assign .const) ?_
  refine lnil ?_
  refine xw_then ?_
  refine cw_block ?_
  refine cw_loop (S := Nat × Option (Nat × Nat × List Value)) (fun s_ => [(9, .int .i64 ((s_.1 : Nat) : Int)), (8, match s_.2 with | none => .slice none 0 0 | some q => .slice (some ⟨q.1, 0, none⟩) s_.1 q.2.1)]) [(1, _), (2, _)] (fun s_ => (match s_.2 with | none => [] | some q => [(q.1, Obj.cells q.2.2.toArray 3 (0, 0))]) ++ [(b2, Obj.cells [.int .i64 g.long, .int .i64 g.rise, .int .i64 g.change, .slice pa g.pits.length pc].toArray 24 (0, 0))]) (fun s_ => s_.1 ≤ placesN g ∧ (match s_.2 with | none => s_.1 = 0 | some q => 1 ≤ s_.1 ∧ InRow 1 s_.1 q.2.1 q.2.2 (clsL g s_.1))) (fun s_ => placesN g - s_.1) (0, none) ⟨Nat.zero_le _, rfl⟩ (by repeat (first | exact Less.nil | refine Less.cons rfl ?_)) (by repeat (first | exact Pick.nil | (apply Pick.cons; focus (repeat (first | exact Del.here | apply Del.there))))) ?_
  intro s_ hs_
  obtain ⟨k, o⟩ := s_
  obtain ⟨hk, ho⟩ := hs_
  dsimp only at hk ho ⊢
  cases o
  case none =>
   dsimp only at ho ⊢
   subst ho
   refine cw_seq ?_
   refine cw_seq ?_
   refine cw_region ?_
   refine lstepB rfl rfl rfl (run_move (.tmp rfl)) ?_
   refine lstepB rfl rfl rfl (run_fieldAddr (.tmp rfl) fa24_0 (by first | exact Nat.zero_add _ | exact rfl)) ?_
   refine lstepB rfl rfl rfl (run_load1 (.tmp rfl) kd3 (by repeat (first | exact List.Mem.head _ | apply List.Mem.tail)) (by exact rfl)) ?_
   refine lstepB rfl rfl rfl (run_leq (.tmp rfl) (.tmp rfl) rfl) ?_
   refine lnil ?_
   refine xw_then ?_
   refine cw_cond_p (.tmp rfl) (fun hl => ?_) (fun hl => ?_)
   ·
    refine cw_skip ?_
    refine xw_then ?_
    refine cw_seq ?_
    refine cw_block ?_
    refine cw_region ?_
    refine lstepB rfl rfl rfl (run_move (.tmp rfl)) ?_
    refine lstepB rfl rfl rfl (run_loadN (.tmp rfl) kd24 sz24 (by repeat (first | exact List.Mem.head _ | apply List.Mem.tail)) (by repeat (first | exact Sub.done | apply Sub.take | apply Sub.skip))) ?_
    refine lstepB rfl rfl rfl (run_move (.tmp rfl)) ?_
    refine lstepB rfl rfl rfl (run_call1 cb57 (.cons (.tmp rfl) (.cons (.tmp rfl) .nil)) (fun w hS => refClassesK g pa pc vg hso 0 (by omega) w (hp.kept hS.kept))) ?_
    refine lstep rfl rfl rfl (LR.runs (lr_buildSlice_at (.cons (.tmp rfl) .nil) (fun w => bs102_1_0 w)) (by repeat (first | exact Pick.nil | (apply Pick.cons; focus (repeat (first | exact Del.here | apply Del.there))))) (by repeat (first | exact Dels.nil | (apply Dels.cons; focus (repeat (first | exact Del.here | apply Del.there)))))) ?_
    intro b32 _
    refine lstep rfl rfl rfl (LR.runs (R := [(b32, _)]) (A := []) (lr_append_nil ap102 (.tmp rfl) (.tmp rfl) (news := [.int .i64 ((classesM ((soilsL g).getD 0 noMix) : Nat) : Int)]) rfl (by omega) (by omega) (by decide) (news_own (by repeat (first | exact List.Mem.head _ | apply List.Mem.tail)))) (by repeat (first | exact Pick.nil | (apply Pick.cons; focus (repeat (first | exact Del.here | apply Del.there))))) (by repeat (first | exact Dels.nil | (apply Dels.cons; focus (repeat (first | exact Del.here | apply Del.there)))))) ?_
    intro ⟨gT, cgT, rgT⟩ hgT
    dsimp only at hgT ⊢
    have hT : InRow 1 (0 + 1) cgT rgT (clsL g (0 + 1)) := by rw [clsL_succ]; exact hgT
    refine lstepB rfl rfl rfl (run_assign (.tmp rfl)) ?_
    refine lnil ?_
    refine xw_in ?_
    refine xw_then ?_
    refine cw_region ?_
    refine lstepB rfl rfl rfl (run_move (.tmp rfl)) ?_
    refine lstepB rfl rfl rfl (run_add (.tmp rfl) .const (by first | exact IntWalk.i64_in _ (by omega) | exact rfl)) ?_
    refine lstepB rfl rfl rfl (run_assign (.tmp rfl)) ?_
    refine lnil ?_
    exact xw_round (0 + 1, some (gT, cgT, rgT)) ⟨by simp only; omega, by simp only; omega, hT⟩ (by show placesN g - (0 + 1) < placesN g - 0; omega) (by repeat (first | exact Less.nil | refine Less.cons rfl ?_)) (by repeat (first | exact Pick.nil | (apply Pick.cons; focus (repeat (first | exact Del.here | apply Del.there)))))
   ·
    exfalso; omega
  case some q =>
   obtain ⟨gX, cX, rX⟩ := q
   dsimp only at ho ⊢
   obtain ⟨hk1, hX⟩ := ho
   refine cw_seq ?_
   refine cw_seq ?_
   refine cw_region ?_
   refine lstepB rfl rfl rfl (run_move (.tmp rfl)) ?_
   refine lstepB rfl rfl rfl (run_fieldAddr (.tmp rfl) fa24_0 (by first | exact Nat.zero_add _ | exact rfl)) ?_
   refine lstepB rfl rfl rfl (run_load1 (.tmp rfl) kd3 (by repeat (first | exact List.Mem.head _ | apply List.Mem.tail)) (by exact rfl)) ?_
   refine lstepB rfl rfl rfl (run_leq (.tmp rfl) (.tmp rfl) rfl) ?_
   refine lnil ?_
   refine xw_then ?_
   refine cw_cond_p (.tmp rfl) (fun hl => ?_) (fun hl => ?_)
   ·
    refine cw_skip ?_
    refine xw_then ?_
    refine cw_seq ?_
    refine cw_block ?_
    refine cw_region ?_
    refine lstepB rfl rfl rfl (run_move (.tmp rfl)) ?_
    refine lstepB rfl rfl rfl (run_loadN (.tmp rfl) kd24 sz24 (by repeat (first | exact List.Mem.head _ | apply List.Mem.tail)) (by repeat (first | exact Sub.done | apply Sub.take | apply Sub.skip))) ?_
    refine lstepB rfl rfl rfl (run_move (.tmp rfl)) ?_
    refine lstepB rfl rfl rfl (run_call1 cb57 (.cons (.tmp rfl) (.cons (.tmp rfl) .nil)) (fun w hS => refClassesK g pa pc vg hso k (by omega) w (hp.kept hS.kept))) ?_
    refine lstep rfl rfl rfl (LR.runs (lr_buildSlice_at (.cons (.tmp rfl) .nil) (fun w => bs102_1_0 w)) (by repeat (first | exact Pick.nil | (apply Pick.cons; focus (repeat (first | exact Del.here | apply Del.there))))) (by repeat (first | exact Dels.nil | (apply Dels.cons; focus (repeat (first | exact Del.here | apply Del.there)))))) ?_
    intro b32 _
    refine lstep rfl rfl rfl (LR.runs (R := [(b32, _)]) (A := [(gX, _)]) (lr_append_row ap102 (.tmp rfl) hX (.tmp rfl) (news := [.int .i64 ((classesM ((soilsL g).getD k noMix) : Nat) : Int)]) rfl rfl (by omega) (by unfold maxLen; omega) (news_own (by repeat (first | exact List.Mem.head _ | apply List.Mem.tail)))) (by repeat (first | exact Pick.nil | (apply Pick.cons; focus (repeat (first | exact Del.here | apply Del.there))))) (by repeat (first | exact Dels.nil | (apply Dels.cons; focus (repeat (first | exact Del.here | apply Del.there)))))) ?_
    intro ⟨gT, cgT, rgT⟩ hgT
    dsimp only at hgT ⊢
    have hT : InRow 1 (k + 1) cgT rgT (clsL g (k + 1)) := by rw [clsL_succ]; exact hgT
    refine lstepB rfl rfl rfl (run_assign (.tmp rfl)) ?_
    refine lnil ?_
    refine xw_in ?_
    refine xw_then ?_
    refine cw_region ?_
    refine lstepB rfl rfl rfl (run_move (.tmp rfl)) ?_
    refine lstepB rfl rfl rfl (run_add (.tmp rfl) .const (by first | exact IntWalk.i64_in _ (by omega) | exact rfl)) ?_
    refine lstepB rfl rfl rfl (run_assign (.tmp rfl)) ?_
    refine lnil ?_
    exact xw_round (k + 1, some (gT, cgT, rgT)) ⟨by simp only; omega, by simp only; omega, hT⟩ (by show placesN g - (k + 1) < placesN g - k; omega) (by repeat (first | exact Less.nil | refine Less.cons rfl ?_)) (by repeat (first | exact Pick.nil | (apply Pick.cons; focus (repeat (first | exact Del.here | apply Del.there)))))
   ·
    obtain rfl : k = placesN g := by omega
    refine cw_exit ?_
    refine xw_then_exit ?_
    refine xw_then_exit ?_
    refine xw_in_exit ?_
    refine xw_then ?_
    refine cw_seq ?_
    refine cw_region ?_
    refine lstepB rfl rfl rfl (run_assign .const) ?_
    refine lstepB rfl rfl rfl (run_assign .const) ?_
    refine lstepB rfl rfl rfl (run_assign .const) ?_
    refine lnil ?_
    refine xw_then ?_
    refine cw_seq ?_
    refine cw_seq ?_
    refine cw_region ?_
    refine lstepB rfl rfl rfl (run_assign .const) ?_
    refine lnil ?_
    refine xw_then ?_
    refine cw_block ?_
    refine cw_loop (S := StrS) (fun t => [(13, .int .i64 ((t.l : Nat) : Int)), (10, .int .i64 ((t.lo : Nat) : Int)), (11, .int .i64 ((t.hi : Nat) : Int)), (12, .bool t.f)]) [(1, _), (2, _), (8, _)] (fun t => ((gX, Obj.cells rX.toArray 3 (0, 0)) :: [(b2, Obj.cells [.int .i64 g.long, .int .i64 g.rise, .int .i64 g.change, .slice pa g.pits.length pc].toArray 24 (0, 0))])) (fun t => t.l ≤ placesN g ∧ t.lo ≤ t.l ∧ BestZ s (placesN g) (lexP t.l t.l) t.f t.lo t.hi) (fun t => placesN g + 1 - t.l) ⟨0, 0, 0, false⟩ ⟨Nat.zero_le _, Nat.le_refl _, fun _ => ⟨fun x y h => absurd h (by simp only [lexP]; omega), rfl, rfl⟩, fun h => (by cases h)⟩ (by repeat (first | exact Less.nil | refine Less.cons rfl ?_)) (by repeat (first | exact Pick.nil | (apply Pick.cons; focus (repeat (first | exact Del.here | apply Del.there))))) ?_
    intro t ht
    obtain ⟨l, lo, hi, f⟩ := t
    obtain ⟨hl1, hll, hB⟩ := ht
    dsimp only at hl1 hll hB ⊢
    refine cw_seq ?_
    refine cw_seq ?_
    refine cw_region ?_
    refine lstepB rfl rfl rfl (run_move (.tmp rfl)) ?_
    refine lstepB rfl rfl rfl (run_fieldAddr (.tmp rfl) fa24_0 (by first | exact Nat.zero_add _ | exact rfl)) ?_
    refine lstepB rfl rfl rfl (run_load1 (.tmp rfl) kd3 (by repeat (first | exact List.Mem.head _ | apply List.Mem.tail)) (by exact rfl)) ?_
    refine lstepB rfl rfl rfl (run_leq (.tmp rfl) (.tmp rfl) rfl) ?_
    refine lnil ?_
    refine xw_then ?_
    refine cw_cond_p (.tmp rfl) (fun hl => ?_) (fun hl => ?_)
    ·
     refine cw_skip ?_
     refine xw_then ?_
     refine cw_seq ?_
     refine cw_block ?_
     refine cw_seq ?_
     refine cw_region ?_
     refine lstepB rfl rfl rfl (run_move (.tmp rfl)) ?_
     refine lstepB rfl rfl rfl (run_assign (.tmp rfl)) ?_
     refine lnil ?_
     refine xw_then ?_
     refine cw_block ?_
     refine cw_loop (S := StrS) (fun t => [(14, .int .i64 ((t.l : Nat) : Int)), (10, .int .i64 ((t.lo : Nat) : Int)), (11, .int .i64 ((t.hi : Nat) : Int)), (12, .bool t.f)]) [(1, _), (2, _), (8, _), (13, _)] (fun t => ((gX, Obj.cells rX.toArray 3 (0, 0)) :: [(b2, Obj.cells [.int .i64 g.long, .int .i64 g.rise, .int .i64 g.change, .slice pa g.pits.length pc].toArray 24 (0, 0))])) (fun t => l ≤ t.l ∧ t.l ≤ placesN g ∧ t.lo ≤ l ∧ BestZ s (placesN g) (lexP l t.l) t.f t.lo t.hi ∧ ∀ i, l ≤ i → i < t.l → s i = true) (fun t => placesN g + 1 - t.l) ⟨l, lo, hi, f⟩ ⟨Nat.le_refl _, by simp only; omega, hll, hB, fun i a b => absurd b (by simp only; omega)⟩ (by repeat (first | exact Less.nil | refine Less.cons rfl ?_)) (by repeat (first | exact Pick.nil | (apply Pick.cons; focus (repeat (first | exact Del.here | apply Del.there))))) ?_
     intro t ht
     obtain ⟨r, lo, hi, f⟩ := t
     obtain ⟨hr1, hr2, hll2, hB2, hat⟩ := ht
     dsimp only at hr1 hr2 hll2 hB2 hat ⊢
     by_cases hrn : r < placesN g
     ·
      have hcx := clsL_at (g := g) hrn
      have hsr := (nat_eqZ _ _).trans (hs2 r)
      have hpw : 2 ^ c ≤ 2 ^ 3 := Nat.pow_le_pow_right (by omega) (by omega)
      cases hsv : s r
      ·
       refine cw_seq ?_
       refine cw_seq ?_
       refine cw_chain2 (σ := [0, 1, 2, 3, 4, 5, 6, 7, 8, 9, 10, 11, 12]) [⟨0, [], [], [], 0⟩, ⟨0, [], [], [], 0⟩, ⟨0, [1], [], [], 2⟩, ⟨0, [], [], [], 7⟩, ⟨0, [], [], [], 15⟩, ⟨0, [], [], [], 31⟩, ⟨0, [], [], [], 31⟩, ⟨0, [], [], [], 127⟩, ⟨0, [0], [], [], 255⟩, ⟨0, [], [], [], 31⟩, ⟨0, [], [], [], 543⟩, ⟨0, [], [], [], 2047⟩, ⟨0, [], [], [], 4095⟩] [(0, _), (1, _)] (by kernel_rfl) (by kernel_rfl) rfl ?_
       refine .det (B := []) rfl rfl (.inl rfl) .nil .nil rfl (RunB.lr (run_move (.tmp rfl))) ?_
       refine .det (B := []) rfl rfl (.inl rfl) .nil .nil rfl (RunB.lr (run_fieldAddr (.tmp rfl) fa24_0 (by first | exact Nat.zero_add _ | exact rfl))) ?_
       refine .det (B := []) rfl rfl (.inl rfl) (.cons rfl .nil) .nil rfl (RunB.lr (run_load1 (.tmp rfl) kd3 (by repeat (first | exact List.Mem.head _ | apply List.Mem.tail)) (by exact rfl))) ?_
       refine .det (B := []) rfl rfl (.inl rfl) .nil .nil rfl (RunB.lr (run_leq (p := true) (.tmp rfl) (.tmp rfl) (decide_eq_true (by omega)))) ?_
       refine .det (B := []) rfl rfl (.inl rfl) .nil .nil rfl (RunB.lr (run_move (.tmp rfl))) ?_
       refine .det (B := []) rfl rfl (.inr ⟨_, _, _, rfl, rfl, rfl⟩) .nil .nil rfl (RunB.lr (run_move (.tmp rfl))) ?_
       refine .det (B := []) rfl rfl (.inr ⟨_, _, _, rfl, rfl, rfl⟩) .nil .nil rfl (RunB.lr (run_move (.tmp rfl))) ?_
       refine .det (B := []) rfl rfl (.inr ⟨_, _, _, rfl, rfl, rfl⟩) .nil .nil rfl (RunB.lr (run_indexAddr (i := r) (off' := r * 1) (.tmp rfl) (.tmp rfl) el102 (by omega) (Nat.zero_add _))) ?_
       refine .det (B := []) rfl rfl (.inr ⟨_, _, _, rfl, rfl, rfl⟩) (.cons rfl .nil) .nil rfl (RunB.lr (run_load1 (.tmp rfl) kd3 (by repeat (first | exact List.Mem.head _ | apply List.Mem.tail)) (hX.get (by rw [Nat.mul_one]; exact hcx)))) ?_
       refine .det (B := []) rfl rfl (.inr ⟨_, _, _, rfl, rfl, rfl⟩) .nil .nil rfl (RunB.lr (run_move (.tmp rfl))) ?_
       refine .det (B := []) rfl rfl (.inr ⟨_, _, _, rfl, rfl, rfl⟩) .nil .nil rfl (RunB.lr (run_call1 cb64 (.cons (.tmp rfl) .nil) (fun w _ => powerZK c (by omega) w))) ?_
       refine .det (B := []) rfl rfl (.inr ⟨_, _, _, rfl, rfl, rfl⟩) .nil .nil rfl (RunB.lr (run_eql (p := false) (.tmp rfl) (.tmp rfl) (hsr.trans hsv))) ?_
       refine .det (B := []) rfl rfl (.inl rfl) .nil .nil rfl (RunB.lr (by first | exact run_pick_true (.tmp rfl) (.tmp rfl) | exact run_pick_false (.tmp rfl) .const)) ?_
       refine chain_nil (ts := [0, 1]) (.cons rfl (.cons rfl .nil)) (by decide) ?_
       refine xw_then ?_
       refine cw_cond_false (.tmp rfl) ?_
       have hend : r < placesN g → s r = false := fun _ => hsv
       refine cw_exit ?_
       refine xw_then_exit ?_
       refine xw_then_exit ?_
       refine xw_in_exit ?_
       refine xw_in ?_
       refine xw_then ?_
       refine cw_region ?_
       refine lstepB rfl rfl rfl (run_move (.tmp rfl)) ?_
       refine lstepB rfl rfl rfl (run_add (.tmp rfl) .const (by first | exact IntWalk.i64_in _ (by omega) | exact rfl)) ?_
       refine lstepB rfl rfl rfl (run_assign (.tmp rfl)) ?_
       refine lnil ?_
       exact xw_round ⟨l + 1, lo, hi, f⟩ ⟨by simp only; omega, by simp only; omega, hB2.next hr1 hend⟩ (by show placesN g + 1 - (l + 1) < placesN g + 1 - l; omega) (by repeat (first | exact Less.nil | refine Less.cons rfl ?_)) (by repeat (first | exact Pick.nil | (apply Pick.cons; focus (repeat (first | exact Del.here | apply Del.there)))))
      ·
       refine cw_seq ?_
       refine cw_seq ?_
       refine cw_chain2 (σ := [0, 1, 2, 3, 4, 5, 6, 7, 8, 9, 10, 11, 12]) [⟨0, [], [], [], 0⟩, ⟨0, [], [], [], 0⟩, ⟨0, [1], [], [], 2⟩, ⟨0, [], [], [], 7⟩, ⟨0, [], [], [], 15⟩, ⟨0, [], [], [], 31⟩, ⟨0, [], [], [], 31⟩, ⟨0, [], [], [], 127⟩, ⟨0, [0], [], [], 255⟩, ⟨0, [], [], [], 31⟩, ⟨0, [], [], [], 543⟩, ⟨0, [], [], [], 2047⟩, ⟨0, [], [], [], 4095⟩] [(0, _), (1, _)] (by kernel_rfl) (by kernel_rfl) rfl ?_
       refine .det (B := []) rfl rfl (.inl rfl) .nil .nil rfl (RunB.lr (run_move (.tmp rfl))) ?_
       refine .det (B := []) rfl rfl (.inl rfl) .nil .nil rfl (RunB.lr (run_fieldAddr (.tmp rfl) fa24_0 (by first | exact Nat.zero_add _ | exact rfl))) ?_
       refine .det (B := []) rfl rfl (.inl rfl) (.cons rfl .nil) .nil rfl (RunB.lr (run_load1 (.tmp rfl) kd3 (by repeat (first | exact List.Mem.head _ | apply List.Mem.tail)) (by exact rfl))) ?_
       refine .det (B := []) rfl rfl (.inl rfl) .nil .nil rfl (RunB.lr (run_leq (p := true) (.tmp rfl) (.tmp rfl) (decide_eq_true (by omega)))) ?_
       refine .det (B := []) rfl rfl (.inl rfl) .nil .nil rfl (RunB.lr (run_move (.tmp rfl))) ?_
       refine .det (B := []) rfl rfl (.inr ⟨_, _, _, rfl, rfl, rfl⟩) .nil .nil rfl (RunB.lr (run_move (.tmp rfl))) ?_
       refine .det (B := []) rfl rfl (.inr ⟨_, _, _, rfl, rfl, rfl⟩) .nil .nil rfl (RunB.lr (run_move (.tmp rfl))) ?_
       refine .det (B := []) rfl rfl (.inr ⟨_, _, _, rfl, rfl, rfl⟩) .nil .nil rfl (RunB.lr (run_indexAddr (i := r) (off' := r * 1) (.tmp rfl) (.tmp rfl) el102 (by omega) (Nat.zero_add _))) ?_
       refine .det (B := []) rfl rfl (.inr ⟨_, _, _, rfl, rfl, rfl⟩) (.cons rfl .nil) .nil rfl (RunB.lr (run_load1 (.tmp rfl) kd3 (by repeat (first | exact List.Mem.head _ | apply List.Mem.tail)) (hX.get (by rw [Nat.mul_one]; exact hcx)))) ?_
       refine .det (B := []) rfl rfl (.inr ⟨_, _, _, rfl, rfl, rfl⟩) .nil .nil rfl (RunB.lr (run_move (.tmp rfl))) ?_
       refine .det (B := []) rfl rfl (.inr ⟨_, _, _, rfl, rfl, rfl⟩) .nil .nil rfl (RunB.lr (run_call1 cb64 (.cons (.tmp rfl) .nil) (fun w _ => powerZK c (by omega) w))) ?_
       refine .det (B := []) rfl rfl (.inr ⟨_, _, _, rfl, rfl, rfl⟩) .nil .nil rfl (RunB.lr (run_eql (p := true) (.tmp rfl) (.tmp rfl) (hsr.trans hsv))) ?_
       refine .det (B := []) rfl rfl (.inl rfl) .nil .nil rfl (RunB.lr (by first | exact run_pick_true (.tmp rfl) (.tmp rfl) | exact run_pick_false (.tmp rfl) .const)) ?_
       refine chain_nil (ts := [0, 1]) (.cons rfl (.cons rfl .nil)) (by decide) ?_
       refine xw_then ?_
       refine cw_cond_true (.tmp rfl) ?_
       have hat2 : allT s l r := fun i a b => by
        rcases Nat.lt_or_ge i r with q | q
        · exact hat i a q
        · rw [show i = r by omega]; exact hsv
       cases f
       ·
        refine cw_skip ?_
        refine xw_then ?_
        refine cw_seq ?_
        refine cw_block ?_
        refine cw_seq ?_
        refine cw_region ?_
        refine lstepB rfl rfl rfl (run_move (.tmp rfl)) ?_
        refine lstepB rfl rfl rfl (run_not (.tmp rfl) (by first | exact Bool.not_true | exact Bool.not_false | exact rfl)) ?_
        refine lstepB rfl rfl rfl (run_move (.tmp rfl)) ?_
        refine lskip rfl rfl rfl rfl rfl rfl rfl ?_
        refine lskip rfl rfl rfl rfl rfl rfl rfl ?_
        refine lskip rfl rfl rfl rfl rfl rfl rfl ?_
        refine lskip rfl rfl rfl rfl rfl rfl rfl ?_
        refine lskip rfl rfl rfl rfl rfl rfl rfl ?_
        refine lskip rfl rfl rfl rfl rfl rfl rfl ?_
        refine lskip rfl rfl rfl rfl rfl rfl rfl ?_
        refine lstepB rfl rfl rfl (by first | exact run_pick_true (.tmp rfl) .const | exact run_pick_false (.tmp rfl) (.tmp rfl)) ?_
        refine lnil ?_
        refine xw_then ?_
        refine cw_cond_true (.tmp rfl) ?_
        refine cw_region ?_
        refine lstepB rfl rfl rfl (run_move (.tmp rfl)) ?_
        refine lstepB rfl rfl rfl (run_move (.tmp rfl)) ?_
        refine lstepB rfl rfl rfl (run_assign (.tmp rfl)) ?_
        refine lstepB rfl rfl rfl (run_assign (.tmp rfl)) ?_
        refine lstepB rfl rfl rfl (run_assign .const) ?_
        refine lnil ?_
        refine xw_in ?_
        refine xw_then ?_
        refine cw_region ?_
        refine lstepB rfl rfl rfl (run_move (.tmp rfl)) ?_
        refine lstepB rfl rfl rfl (run_add (.tmp rfl) .const (by first | exact IntWalk.i64_in _ (by omega) | exact rfl)) ?_
        refine lstepB rfl rfl rfl (run_assign (.tmp rfl)) ?_
        refine lnil ?_
        exact xw_round ⟨r + 1, l, r, true⟩ ⟨by simp only; omega, by simp only; omega, by simp only; omega, hB2.take hr1 hrn hat2 (.inl rfl), fun i a b => hat2 i a (by simp only at b; omega)⟩ (by show placesN g + 1 - (r + 1) < placesN g + 1 - r; omega) (by repeat (first | exact Less.nil | refine Less.cons rfl ?_)) (by repeat (first | exact Pick.nil | (apply Pick.cons; focus (repeat (first | exact Del.here | apply Del.there)))))
       ·
        obtain ⟨b1, b2_, _, _⟩ := hB2.2 rfl
        by_cases hbt : hi - lo < r - l
        ·
         refine cw_skip ?_
         refine xw_then ?_
         refine cw_seq ?_
         refine cw_block ?_
         refine cw_seq ?_
         refine cw_region ?_
         refine lstepB rfl rfl rfl (run_move (.tmp rfl)) ?_
         refine lstepB rfl rfl rfl (run_not (.tmp rfl) (by first | exact Bool.not_true | exact Bool.not_false | exact rfl)) ?_
         refine lstepB rfl rfl rfl (run_move (.tmp rfl)) ?_
         refine lyes rfl rfl rfl rfl ?_
         refine gstepB rfl rfl (run_move (.tmp rfl)) ?_
         refine lyes rfl rfl rfl rfl ?_
         refine gstepB rfl rfl (run_move (.tmp rfl)) ?_
         refine lyes rfl rfl rfl rfl ?_
         refine gstepB rfl rfl (run_sub (.tmp rfl) (.tmp rfl) (by first | exact IntWalk.i64_in _ (by omega) | exact rfl)) ?_
         refine lyes rfl rfl rfl rfl ?_
         refine gstepB rfl rfl (run_move (.tmp rfl)) ?_
         refine lyes rfl rfl rfl rfl ?_
         refine gstepB rfl rfl (run_move (.tmp rfl)) ?_
         refine lyes rfl rfl rfl rfl ?_
         refine gstepB rfl rfl (run_sub (.tmp rfl) (.tmp rfl) (by first | exact IntWalk.i64_in _ (by omega) | exact rfl)) ?_
         refine lyes rfl rfl rfl rfl ?_
         refine gstepB rfl rfl (run_gtr (p := true) (.tmp rfl) (.tmp rfl) (decide_eq_true (by omega))) ?_
         refine lstepB rfl rfl rfl (by first | exact run_pick_true (.tmp rfl) .const | exact run_pick_false (.tmp rfl) (.tmp rfl)) ?_
         refine lnil ?_
         refine xw_then ?_
         refine cw_cond_true (.tmp rfl) ?_
         refine cw_region ?_
         refine lstepB rfl rfl rfl (run_move (.tmp rfl)) ?_
         refine lstepB rfl rfl rfl (run_move (.tmp rfl)) ?_
         refine lstepB rfl rfl rfl (run_assign (.tmp rfl)) ?_
         refine lstepB rfl rfl rfl (run_assign (.tmp rfl)) ?_
         refine lstepB rfl rfl rfl (run_assign .const) ?_
         refine lnil ?_
         refine xw_in ?_
         refine xw_then ?_
         refine cw_region ?_
         refine lstepB rfl rfl rfl (run_move (.tmp rfl)) ?_
         refine lstepB rfl rfl rfl (run_add (.tmp rfl) .const (by first | exact IntWalk.i64_in _ (by omega) | exact rfl)) ?_
         refine lstepB rfl rfl rfl (run_assign (.tmp rfl)) ?_
         refine lnil ?_
         exact xw_round ⟨r + 1, l, r, true⟩ ⟨by simp only; omega, by simp only; omega, by simp only; omega, hB2.take hr1 hrn hat2 (.inr hbt), fun i a b => hat2 i a (by simp only at b; omega)⟩ (by show placesN g + 1 - (r + 1) < placesN g + 1 - r; omega) (by repeat (first | exact Less.nil | refine Less.cons rfl ?_)) (by repeat (first | exact Pick.nil | (apply Pick.cons; focus (repeat (first | exact Del.here | apply Del.there)))))
        ·
         refine cw_skip ?_
         refine xw_then ?_
         refine cw_seq ?_
         refine cw_block ?_
         refine cw_seq ?_
         refine cw_region ?_
         refine lstepB rfl rfl rfl (run_move (.tmp rfl)) ?_
         refine lstepB rfl rfl rfl (run_not (.tmp rfl) (by first | exact Bool.not_true | exact Bool.not_false | exact rfl)) ?_
         refine lstepB rfl rfl rfl (run_move (.tmp rfl)) ?_
         refine lyes rfl rfl rfl rfl ?_
         refine gstepB rfl rfl (run_move (.tmp rfl)) ?_
         refine lyes rfl rfl rfl rfl ?_
         refine gstepB rfl rfl (run_move (.tmp rfl)) ?_
         refine lyes rfl rfl rfl rfl ?_
         refine gstepB rfl rfl (run_sub (.tmp rfl) (.tmp rfl) (by first | exact IntWalk.i64_in _ (by omega) | exact rfl)) ?_
         refine lyes rfl rfl rfl rfl ?_
         refine gstepB rfl rfl (run_move (.tmp rfl)) ?_
         refine lyes rfl rfl rfl rfl ?_
         refine gstepB rfl rfl (run_move (.tmp rfl)) ?_
         refine lyes rfl rfl rfl rfl ?_
         refine gstepB rfl rfl (run_sub (.tmp rfl) (.tmp rfl) (by first | exact IntWalk.i64_in _ (by omega) | exact rfl)) ?_
         refine lyes rfl rfl rfl rfl ?_
         refine gstepB rfl rfl (run_gtr (p := false) (.tmp rfl) (.tmp rfl) (decide_eq_false (by omega))) ?_
         refine lstepB rfl rfl rfl (by first | exact run_pick_true (.tmp rfl) .const | exact run_pick_false (.tmp rfl) (.tmp rfl)) ?_
         refine lnil ?_
         refine xw_then ?_
         refine cw_cond_false (.tmp rfl) ?_
         refine cw_skip ?_
         refine xw_in ?_
         refine xw_then ?_
         refine cw_region ?_
         refine lstepB rfl rfl rfl (run_move (.tmp rfl)) ?_
         refine lstepB rfl rfl rfl (run_add (.tmp rfl) .const (by first | exact IntWalk.i64_in _ (by omega) | exact rfl)) ?_
         refine lstepB rfl rfl rfl (run_assign (.tmp rfl)) ?_
         refine lnil ?_
         exact xw_round ⟨r + 1, lo, hi, true⟩ ⟨by simp only; omega, by simp only; omega, by simp only; omega, hB2.keep hbt hll2, fun i a b => hat2 i a (by simp only at b; omega)⟩ (by show placesN g + 1 - (r + 1) < placesN g + 1 - r; omega) (by repeat (first | exact Less.nil | refine Less.cons rfl ?_)) (by repeat (first | exact Pick.nil | (apply Pick.cons; focus (repeat (first | exact Del.here | apply Del.there)))))
     ·
      refine cw_seq ?_
      refine cw_seq ?_
      refine cw_chain2 (σ := [0, 1, 2, 3, 4, 5, 6, 7, 8, 9, 10, 11, 12]) [⟨0, [], [], [], 0⟩, ⟨0, [], [], [], 0⟩, ⟨0, [1], [], [], 2⟩, ⟨0, [], [], [], 7⟩, ⟨0, [], [], [], 15⟩, ⟨0, [], [], [], 31⟩, ⟨0, [], [], [], 31⟩, ⟨0, [], [], [], 127⟩, ⟨0, [0], [], [], 255⟩, ⟨0, [], [], [], 31⟩, ⟨0, [], [], [], 543⟩, ⟨0, [], [], [], 2047⟩, ⟨0, [], [], [], 4095⟩] [(0, _), (1, _)] (by kernel_rfl) (by kernel_rfl) rfl ?_
      refine .det (B := []) rfl rfl (.inl rfl) .nil .nil rfl (RunB.lr (run_move (.tmp rfl))) ?_
      refine .det (B := []) rfl rfl (.inl rfl) .nil .nil rfl (RunB.lr (run_fieldAddr (.tmp rfl) fa24_0 (by first | exact Nat.zero_add _ | exact rfl))) ?_
      refine .det (B := []) rfl rfl (.inl rfl) (.cons rfl .nil) .nil rfl (RunB.lr (run_load1 (.tmp rfl) kd3 (by repeat (first | exact List.Mem.head _ | apply List.Mem.tail)) (by exact rfl))) ?_
      refine .det (B := []) rfl rfl (.inl rfl) .nil .nil rfl (RunB.lr (run_leq (p := false) (.tmp rfl) (.tmp rfl) (decide_eq_false (by omega)))) ?_
      refine .det (B := []) rfl rfl (.inl rfl) .nil .nil rfl (RunB.lr (run_move (.tmp rfl))) ?_
      refine .skip rfl rfl ⟨_, _, _, _, rfl, rfl, rfl, rfl⟩ rfl (by first | rfl | kernel_rfl) ?_
      refine .skip rfl rfl ⟨_, _, _, _, rfl, rfl, rfl, rfl⟩ rfl (by first | rfl | kernel_rfl) ?_
      refine .skip rfl rfl ⟨_, _, _, _, rfl, rfl, rfl, rfl⟩ rfl (by first | rfl | kernel_rfl) ?_
      refine .skip rfl rfl ⟨_, _, _, _, rfl, rfl, rfl, rfl⟩ rfl (by first | rfl | kernel_rfl) ?_
      refine .skip rfl rfl ⟨_, _, _, _, rfl, rfl, rfl, rfl⟩ rfl (by first | rfl | kernel_rfl) ?_
      refine .skip rfl rfl ⟨_, _, _, _, rfl, rfl, rfl, rfl⟩ rfl (by first | rfl | kernel_rfl) ?_
      refine .skip rfl rfl ⟨_, _, _, _, rfl, rfl, rfl, rfl⟩ rfl (by first | rfl | kernel_rfl) ?_
      refine .det (B := []) rfl rfl (.inl rfl) .nil .nil rfl (RunB.lr (by first | exact run_pick_true (.tmp rfl) (.tmp rfl) | exact run_pick_false (.tmp rfl) .const)) ?_
      refine chain_nil (ts := [0, 1]) (.cons rfl (.cons rfl .nil)) (by decide) ?_
      refine xw_then ?_
      refine cw_cond_false (.tmp rfl) ?_
      have hend : r < placesN g → s r = false := fun h => absurd h hrn
      refine cw_exit ?_
      refine xw_then_exit ?_
      refine xw_then_exit ?_
      refine xw_in_exit ?_
      refine xw_in ?_
      refine xw_then ?_
      refine cw_region ?_
      refine lstepB rfl rfl rfl (run_move (.tmp rfl)) ?_
      refine lstepB rfl rfl rfl (run_add (.tmp rfl) .const (by first | exact IntWalk.i64_in _ (by omega) | exact rfl)) ?_
      refine lstepB rfl rfl rfl (run_assign (.tmp rfl)) ?_
      refine lnil ?_
      exact xw_round ⟨l + 1, lo, hi, f⟩ ⟨by simp only; omega, by simp only; omega, hB2.next hr1 hend⟩ (by show placesN g + 1 - (l + 1) < placesN g + 1 - l; omega) (by repeat (first | exact Less.nil | refine Less.cons rfl ?_)) (by repeat (first | exact Pick.nil | (apply Pick.cons; focus (repeat (first | exact Del.here | apply Del.there)))))
    ·
     have hdn := hB.done (by omega)
     rcases hdn with ⟨rfl, hdn⟩ | ⟨rfl, hd1, hd2, hd3⟩
     ·
      have he : stretchE g (c : Int) = some 4 := by
       rcases hfin with ⟨_, h⟩ | ⟨h, _⟩
       · exact h
       · exact absurd h hdn
      have hS0 : stretchS g (c : Int) = (0, 0) := by unfold stretchS; rw [if_neg (by rw [he]; simp)]
      rw [hS0, he]
      refine cw_exit ?_
      refine xw_then_exit ?_
      refine xw_then_exit ?_
      refine xw_in_exit ?_
      refine xw_then ?_
      refine cw_seq ?_
      refine cw_seq ?_
      refine cw_region ?_
      refine lstepB rfl rfl rfl (run_move (.tmp rfl)) ?_
      refine lstepB rfl rfl rfl (run_not (.tmp rfl) (by first | exact Bool.not_true | exact Bool.not_false | exact rfl)) ?_
      refine lnil ?_
      refine xw_then ?_
      refine cw_cond_true (.tmp rfl) ?_
      refine cw_seq ?_
      refine cw_region ?_
      refine lstepB rfl rfl rfl (run_assign .const) ?_
      refine lstepB rfl rfl rfl (run_assign .const) ?_
      refine lstepB rfl rfl rfl (run_assign .const) ?_
      refine lnil ?_
      refine xw_then ?_
      refine cw_ret ?_
      refine xw_then_ret ?_
      refine xw_ret3 Try.results22 rfl rfl rfl (fun w hS => ⟨rfl, hS.kept⟩)
     ·
      have he : stretchE g (c : Int) = none := by
       rcases hfin with ⟨h, _⟩ | ⟨_, h⟩
       · exact absurd hd1 h
       · exact h
      have hS0 : stretchS g (c : Int) = ((lo : Int), (hi : Int)) := by
       unfold stretchS
       rw [if_pos he, Int.toNat_natCast, hlF, hd2, hd3]
      rw [hS0, he]
      refine cw_exit ?_
      refine xw_then_exit ?_
      refine xw_then_exit ?_
      refine xw_in_exit ?_
      refine xw_then ?_
      refine cw_seq ?_
      refine cw_seq ?_
      refine cw_region ?_
      refine lstepB rfl rfl rfl (run_move (.tmp rfl)) ?_
      refine lstepB rfl rfl rfl (run_not (.tmp rfl) (by first | exact Bool.not_true | exact Bool.not_false | exact rfl)) ?_
      refine lnil ?_
      refine xw_then ?_
      refine cw_cond_false (.tmp rfl) ?_
      refine cw_skip ?_
      refine xw_then ?_
      refine cw_seq ?_
      refine cw_region ?_
      refine lstepB rfl rfl rfl (run_move (.tmp rfl)) ?_
      refine lstepB rfl rfl rfl (run_move (.tmp rfl)) ?_
      refine lstepB rfl rfl rfl (run_assign (.tmp rfl)) ?_
      refine lstepB rfl rfl rfl (run_assign (.tmp rfl)) ?_
      refine lstepB rfl rfl rfl (run_assign .const) ?_
      refine lnil ?_
      refine xw_then ?_
      refine cw_ret ?_
      refine xw_ret3 Try.results22 rfl rfl rfl (fun w hS => ⟨rfl, hS.kept⟩)
end Go.Proofs.Ytfmbnobkenngaaa
