/- Soil: SoilWork's walk. -/
import Derived.Test.YtfmbnobkenngaaaHG
namespace Go.Proofs.Ytfmbnobkenngaaa
open Go.RowKit En

/-- What stood before a place. -/
def befS (g : GroundD) : Nat → SpanD
  | 0 => ⟨0, 0⟩
  | k + 1 => hardC g (k : Int)
theorem befS_pos {g : GroundD} {k : Nat} (h : 0 < k) : befS g k = hardC g ((k : Int) - 1) := by
  obtain ⟨j, rfl⟩ : ∃ j, k = j + 1 := ⟨k - 1, by omega⟩
  rw [befS]; congr 1; omega
set_option maxRecDepth 100000 in
set_option maxHeartbeats 4000000 in
theorem soilWork_any (g : GroundD) (x y z : Int) (pa : Option Addr) (pc : Nat) (w : World) (hx : 0 ≤ x ∧ x ≤ 255) (hy : 0 ≤ y ∧ y ≤ 255) (hz : 0 ≤ z ∧ z ≤ 255) (hm : g.pits.length ≤ 9223372036854775807) (hp : PitsAt w pa g.pits) : Gives Try.prog 8 [.agg [.int .i64 g.long, .int .i64 g.rise, .int .i64 g.change, .slice pa g.pits.length pc].toArray, .int .u8 x, .int .u8 y, .int .u8 z] w (.bool true) := by
  by_cases hbig : 30 < g.pits.length
  ·
    refine .mk <| enter (n := 315) Try.func8 rfl rfl rfl (by repeat (first | exact Fill.nil | apply Fill.cons)) ?_
    refine cw_seq ?_
    refine cw_region ?_
    refine lstep rfl rfl rfl (run_boxN (.tmp rfl)) ?_
    intro b4 _
    refine lstepB rfl rfl rfl (run_assign .const) ?_
    refine lnil ?_
    refine xw_then ?_
    refine cw_seq ?_
    refine cw_seq ?_
    refine cw_region ?_
    refine lstepB rfl rfl rfl (run_fieldAddr (.tmp rfl) fa24_3 (by first | exact Nat.zero_add _ | exact rfl)) ?_
    refine lstepB rfl rfl rfl (run_load1 (.tmp rfl) kd22 (by repeat (first | exact List.Mem.head _ | apply List.Mem.tail)) (by exact rfl)) ?_
    refine lstepB rfl rfl rfl (run_len (.tmp rfl) sl22) ?_
    refine lstepB rfl rfl rfl (run_gtr (.tmp rfl) .const (by first | exact decide_eq_true (by omega) | exact decide_eq_false (by omega) | exact rfl)) ?_
    refine lstepB rfl rfl rfl (run_move (.tmp rfl)) ?_
    refine lskip rfl rfl rfl rfl rfl rfl rfl ?_
    refine lskip rfl rfl rfl rfl rfl rfl rfl ?_
    refine lskip rfl rfl rfl rfl rfl rfl rfl ?_
    refine lstepB rfl rfl rfl (by first | exact run_pick_true (.tmp rfl) .const | exact run_pick_false (.tmp rfl) (.tmp rfl)) ?_
    refine lnil ?_
    refine xw_then ?_
    refine cw_cond_true (.tmp rfl) ?_
    refine cw_seq ?_
    refine cw_region ?_
    refine lstepB rfl rfl rfl (run_call1 cb12 .nil (fun w _ => awakeK w)) ?_
    refine lstepB rfl rfl rfl (run_assign (.tmp rfl)) ?_
    refine lnil ?_
    refine xw_then ?_
    refine cw_ret ?_
    refine xw_then_ret ?_
    refine xw_ret1 Try.results8 rfl (fun w hS => ⟨rfl, hS.kept⟩)
  cases hv : validB g
  ·
    refine .mk <| enter (n := 315) Try.func8 rfl rfl rfl (by repeat (first | exact Fill.nil | apply Fill.cons)) ?_
    refine cw_seq ?_
    refine cw_region ?_
    refine lstep rfl rfl rfl (run_boxN (.tmp rfl)) ?_
    intro b4 _
    refine lstepB rfl rfl rfl (run_assign .const) ?_
    refine lnil ?_
    refine xw_then ?_
    refine cw_seq ?_
    refine cw_seq ?_
    refine cw_region ?_
    refine lstepB rfl rfl rfl (run_fieldAddr (.tmp rfl) fa24_3 (by first | exact Nat.zero_add _ | exact rfl)) ?_
    refine lstepB rfl rfl rfl (run_load1 (.tmp rfl) kd22 (by repeat (first | exact List.Mem.head _ | apply List.Mem.tail)) (by exact rfl)) ?_
    refine lstepB rfl rfl rfl (run_len (.tmp rfl) sl22) ?_
    refine lstepB rfl rfl rfl (run_gtr (.tmp rfl) .const (by first | exact decide_eq_true (by omega) | exact decide_eq_false (by omega) | exact rfl)) ?_
    refine lstepB rfl rfl rfl (run_move (.tmp rfl)) ?_
    refine lyes rfl rfl rfl rfl ?_
    refine gstepB rfl rfl (run_loadN (.tmp rfl) kd24 sz24 (by repeat (first | exact List.Mem.head _ | apply List.Mem.tail)) (by repeat (first | exact Sub.done | apply Sub.take | apply Sub.skip))) ?_
    refine lyes rfl rfl rfl rfl ?_
    refine gstepB rfl rfl (run_call1 cb32 (.cons (.tmp rfl) .nil) (fun w2 hS => (rGroundK g pa pc w2 (by omega) (hp.kept hS.kept)).as (congrArg Value.bool hv))) ?_
    refine lyes rfl rfl rfl rfl ?_
    refine gstepB rfl rfl (run_not (.tmp rfl) (by first | exact Bool.not_true | exact Bool.not_false | exact rfl)) ?_
    refine lstepB rfl rfl rfl (by first | exact run_pick_true (.tmp rfl) .const | exact run_pick_false (.tmp rfl) (.tmp rfl)) ?_
    refine lnil ?_
    refine xw_then ?_
    refine cw_cond_true (.tmp rfl) ?_
    refine cw_seq ?_
    refine cw_region ?_
    refine lstepB rfl rfl rfl (run_call1 cb12 .nil (fun w _ => awakeK w)) ?_
    refine lstepB rfl rfl rfl (run_assign (.tmp rfl)) ?_
    refine lnil ?_
    refine xw_then ?_
    refine cw_ret ?_
    refine xw_then_ret ?_
    refine xw_ret1 Try.results8 rfl (fun w hS => ⟨rfl, hS.kept⟩)
  ·
    have hg := validG hv
    have hlong := hg.long
    have hrise := hg.rise
    have hm2 : g.pits.length ≤ 1000000 := by omega
    have hn0 : g.long + 1 ≠ 0 := by omega
    have hn1 : 0 < g.long + 1 := by omega
    have x0 := Int.emod_nonneg x hn0
    have x1 := Int.emod_lt_of_pos x hn1
    have y0 := Int.emod_nonneg y hn0
    have y1 := Int.emod_lt_of_pos y hn1
    have z0 := Int.emod_nonneg z hn0
    have z1 := Int.emod_lt_of_pos z hn1
    obtain ⟨a, ha⟩ : ∃ a, min (min (x % (g.long + 1)) (y % (g.long + 1))) (z % (g.long + 1)) = a := ⟨_, rfl⟩
    obtain ⟨c, hc⟩ : ∃ c, max (max (x % (g.long + 1)) (y % (g.long + 1))) (z % (g.long + 1)) = c := ⟨_, rfl⟩
    obtain ⟨b, hb⟩ : ∃ b, x % (g.long + 1) + y % (g.long + 1) + z % (g.long + 1) - a - c = b := ⟨_, rfl⟩
    have h0a : 0 ≤ a := by omega
    have hab : a ≤ b := by omega
    have hbc : b ≤ c := by omega
    have hcl : c ≤ g.long := by omega
    refine .mk <| enter (n := 315) Try.func8 rfl rfl rfl (by repeat (first | exact Fill.nil | apply Fill.cons)) ?_
    refine cw_seq ?_
    refine cw_region ?_
    refine lstep rfl rfl rfl (run_boxN (.tmp rfl)) ?_
    intro b4 _
    refine lstepB rfl rfl rfl (run_assign .const) ?_
    refine lnil ?_
    refine xw_then ?_
    refine cw_seq ?_
    refine cw_seq ?_
    refine cw_region ?_
    refine lstepB rfl rfl rfl (run_fieldAddr (.tmp rfl) fa24_3 (by first | exact Nat.zero_add _ | exact rfl)) ?_
    refine lstepB rfl rfl rfl (run_load1 (.tmp rfl) kd22 (by repeat (first | exact List.Mem.head _ | apply List.Mem.tail)) (by exact rfl)) ?_
    refine lstepB rfl rfl rfl (run_len (.tmp rfl) sl22) ?_
    refine lstepB rfl rfl rfl (run_gtr (.tmp rfl) .const (by first | exact decide_eq_true (by omega) | exact decide_eq_false (by omega) | exact rfl)) ?_
    refine lstepB rfl rfl rfl (run_move (.tmp rfl)) ?_
    refine lyes rfl rfl rfl rfl ?_
    refine gstepB rfl rfl (run_loadN (.tmp rfl) kd24 sz24 (by repeat (first | exact List.Mem.head _ | apply List.Mem.tail)) (by repeat (first | exact Sub.done | apply Sub.take | apply Sub.skip))) ?_
    refine lyes rfl rfl rfl rfl ?_
    refine gstepB rfl rfl (run_call1 cb32 (.cons (.tmp rfl) .nil) (fun w2 hS => (rGroundK g pa pc w2 (by omega) (hp.kept hS.kept)).as (congrArg Value.bool hv))) ?_
    refine lyes rfl rfl rfl rfl ?_
    refine gstepB rfl rfl (run_not (.tmp rfl) (by first | exact Bool.not_true | exact Bool.not_false | exact rfl)) ?_
    refine lstepB rfl rfl rfl (by first | exact run_pick_true (.tmp rfl) .const | exact run_pick_false (.tmp rfl) (.tmp rfl)) ?_
    refine lnil ?_
    refine xw_then ?_
    refine cw_cond_false (.tmp rfl) ?_
    refine cw_skip ?_
    refine xw_then ?_
    refine cw_seq ?_
    refine cw_region ?_
    refine lstepB rfl rfl rfl (run_fieldAddr (.tmp rfl) fa24_0 (by first | exact Nat.zero_add _ | exact rfl)) ?_
    refine lstepB rfl rfl rfl (run_load1 (.tmp rfl) kd3 (by repeat (first | exact List.Mem.head _ | apply List.Mem.tail)) (by exact rfl)) ?_
    refine lstepB rfl rfl rfl (run_add (.tmp rfl) .const (by first | exact IntWalk.i64_in _ (by omega) | exact rfl)) ?_
    refine lstepB rfl rfl rfl (run_assign (.tmp rfl)) ?_
    refine lnil ?_
    refine xw_then ?_
    refine cw_seq ?_
    refine cw_chain2 (σ := [0, 1, 2, 3, 4, 5, 6, 7, 8, 9, 10, 11, 12, 13, 14]) [⟨0, [], [], [], 0⟩, ⟨0, [], [], [], 1⟩, ⟨0, [], [], [], 0⟩, ⟨0, [], [], [], 7⟩, ⟨0, [], [], [], 0⟩, ⟨0, [], [], [], 16⟩, ⟨0, [], [], [], 0⟩, ⟨0, [], [], [], 112⟩, ⟨0, [], [], [], 0⟩, ⟨0, [], [], [], 256⟩, ⟨0, [], [], [], 0⟩, ⟨0, [], [], [], 1792⟩, ⟨0, [], [], [], 15⟩, ⟨0, [], [], [], 4351⟩, ⟨0, [], [], [], 16383⟩] [(0, _)] (by kernel_rfl) (by kernel_rfl) rfl ?_
    refine .det (B := []) rfl rfl (.inl rfl) .nil .nil rfl (RunB.lr (run_move (.tmp rfl))) ?_
    refine .det (B := []) rfl rfl (.inl rfl) .nil .nil rfl (RunB.lr (run_convert_at (.tmp rfl) (fun w => cv5_3 (by first | exact IntWalk.i64_in _ (by omega) | exact rfl) w))) ?_
    refine .det (B := []) rfl rfl (.inl rfl) .nil .nil rfl (RunB.lr (run_move (.tmp rfl))) ?_
    refine .det (B := []) rfl rfl (.inl rfl) .nil .nil rfl (RunB.lr (run_rem (.tmp rfl) (.tmp rfl) (by omega) (by omega))) ?_
    refine .det (B := []) rfl rfl (.inl rfl) .nil .nil rfl (RunB.lr (run_move (.tmp rfl))) ?_
    refine .det (B := []) rfl rfl (.inl rfl) .nil .nil rfl (RunB.lr (run_convert_at (.tmp rfl) (fun w => cv5_3 (by first | exact IntWalk.i64_in _ (by omega) | exact rfl) w))) ?_
    refine .det (B := []) rfl rfl (.inl rfl) .nil .nil rfl (RunB.lr (run_move (.tmp rfl))) ?_
    refine .det (B := []) rfl rfl (.inl rfl) .nil .nil rfl (RunB.lr (run_rem (.tmp rfl) (.tmp rfl) (by omega) (by omega))) ?_
    refine .det (B := []) rfl rfl (.inl rfl) .nil .nil rfl (RunB.lr (run_move (.tmp rfl))) ?_
    refine .det (B := []) rfl rfl (.inl rfl) .nil .nil rfl (RunB.lr (run_convert_at (.tmp rfl) (fun w => cv5_3 (by first | exact IntWalk.i64_in _ (by omega) | exact rfl) w))) ?_
    refine .det (B := []) rfl rfl (.inl rfl) .nil .nil rfl (RunB.lr (run_move (.tmp rfl))) ?_
    refine .det (B := []) rfl rfl (.inl rfl) .nil .nil rfl (RunB.lr (run_rem (.tmp rfl) (.tmp rfl) (by omega) (by omega))) ?_
    refine .det (B := []) rfl rfl (.inl rfl) .nil .nil rfl (RunB.lr (run_assign (.tmp rfl))) ?_
    refine .det (B := []) rfl rfl (.inl rfl) .nil .nil rfl (RunB.lr (run_assign (.tmp rfl))) ?_
    refine .det (B := []) rfl rfl (.inl rfl) .nil .nil rfl (RunB.lr (run_assign (.tmp rfl))) ?_
    refine chain_nil (ts := [0]) (.cons rfl .nil) (by decide) ?_
    cases ho : lookOk g
    ·
      refine xw_then ?_
      refine cw_seq ?_
      refine cw_region ?_
      refine lstepB rfl rfl rfl (run_move (.tmp rfl)) ?_
      refine lstepB rfl rfl rfl (run_move (.tmp rfl)) ?_
      refine lstepB rfl rfl rfl (run_move (.tmp rfl)) ?_
      refine lstepB rfl rfl rfl (run_min3 (.tmp rfl) (.tmp rfl) (.tmp rfl) ha) ?_
      refine lstepB rfl rfl rfl (run_move (.tmp rfl)) ?_
      refine lstepB rfl rfl rfl (run_move (.tmp rfl)) ?_
      refine lstepB rfl rfl rfl (run_add (.tmp rfl) (.tmp rfl) (by first | exact IntWalk.i64_in _ (by omega) | exact rfl)) ?_
      refine lstepB rfl rfl rfl (run_move (.tmp rfl)) ?_
      refine lstepB rfl rfl rfl (run_add (.tmp rfl) (.tmp rfl) (by first | exact IntWalk.i64_in _ (by omega) | exact rfl)) ?_
      refine lstepB rfl rfl rfl (run_move (.tmp rfl)) ?_
      refine lstepB rfl rfl rfl (run_move (.tmp rfl)) ?_
      refine lstepB rfl rfl rfl (run_move (.tmp rfl)) ?_
      refine lstepB rfl rfl rfl (run_min3 (.tmp rfl) (.tmp rfl) (.tmp rfl) ha) ?_
      refine lstepB rfl rfl rfl (run_sub (.tmp rfl) (.tmp rfl) (by first | exact IntWalk.i64_in _ (by omega) | exact rfl)) ?_
      refine lstepB rfl rfl rfl (run_move (.tmp rfl)) ?_
      refine lstepB rfl rfl rfl (run_move (.tmp rfl)) ?_
      refine lstepB rfl rfl rfl (run_move (.tmp rfl)) ?_
      refine lstepB rfl rfl rfl (run_max3 (.tmp rfl) (.tmp rfl) (.tmp rfl) hc) ?_
      refine lstepB rfl rfl rfl (run_sub (c := b) (.tmp rfl) (.tmp rfl) (by rw [IntWalk.i64_in _ (by omega)]; omega)) ?_
      refine lstepB rfl rfl rfl (run_move (.tmp rfl)) ?_
      refine lstepB rfl rfl rfl (run_move (.tmp rfl)) ?_
      refine lstepB rfl rfl rfl (run_move (.tmp rfl)) ?_
      refine lstepB rfl rfl rfl (run_max3 (.tmp rfl) (.tmp rfl) (.tmp rfl) hc) ?_
      refine lstepB rfl rfl rfl (run_assign (.tmp rfl)) ?_
      refine lstepB rfl rfl rfl (run_assign (.tmp rfl)) ?_
      refine lstepB rfl rfl rfl (run_assign (.tmp rfl)) ?_
      refine lnil ?_
      refine xw_then ?_
      refine cw_seq ?_
      refine cw_region ?_
      refine lstepB rfl rfl rfl (run_loadN (.tmp rfl) kd24 sz24 (by repeat (first | exact List.Mem.head _ | apply List.Mem.tail)) (by repeat (first | exact Sub.done | apply Sub.take | apply Sub.skip))) ?_
      refine lstepB rfl rfl rfl (run_move (.tmp rfl)) ?_
      refine lstepB rfl rfl rfl (run_move (.tmp rfl)) ?_
      refine lstepB rfl rfl rfl (run_call1 cb19 (.cons (.tmp rfl) (.cons (.tmp rfl) (.cons (.tmp rfl) .nil))) (fun w hS => work_clash hv hm2 (hp.kept hS.kept) ho h0a (by omega) hcl)) ?_
      refine lstepB rfl rfl rfl (run_move (.tmp rfl)) ?_
      refine lstepB rfl rfl rfl (run_extract (.tmp rfl) rfl) ?_
      refine lstepB rfl rfl rfl (run_extract (.tmp rfl) rfl) ?_
      refine lstep rfl rfl rfl (run_alloc zr28) ?_
      intro b13 _
      refine lstep0 rfl rfl (run_storeN (.tmp rfl) (.tmp rfl) rfl sz28 rfl (by repeat (first | exact Upd.here | apply Upd.there)) (by repeat (first | exact Put.done | apply Put.put | apply Put.skip))) ?_
      refine lstepB rfl rfl rfl (run_assign (.tmp rfl)) ?_
      refine lnil ?_
      refine xw_then ?_
      refine cw_seq ?_
      refine cw_seq ?_
      refine cw_region ?_
      refine lstepB rfl rfl rfl (run_move (.tmp rfl)) ?_
      refine lstepB rfl rfl rfl (run_neq (.tmp rfl) .const (by first | exact decide_eq_true (by omega) | exact decide_eq_false (by omega) | exact rfl)) ?_
      refine lnil ?_
      refine xw_then ?_
      refine cw_cond_true (.tmp rfl) ?_
      refine cw_seq ?_
      refine cw_region ?_
      refine lstepB rfl rfl rfl (run_loadN (.tmp rfl) kd24 sz24 (by repeat (first | exact List.Mem.head _ | apply List.Mem.tail)) (by repeat (first | exact Sub.done | apply Sub.take | apply Sub.skip))) ?_
      refine lstepB rfl rfl rfl (run_move (.tmp rfl)) ?_
      refine lstepB rfl rfl rfl (run_call1 cb13 (.cons (.tmp rfl) (.cons (.tmp rfl) .nil)) (fun w hS => hard_clash hv hm2 (hp.kept hS.kept) ho h0a (by omega))) ?_
      refine lstepB rfl rfl rfl (run_move (.tmp rfl)) ?_
      refine lstepB rfl rfl rfl (run_extract (.tmp rfl) rfl) ?_
      refine lstepB rfl rfl rfl (run_extract (.tmp rfl) rfl) ?_
      refine lstep rfl rfl rfl (run_alloc zr28) ?_
      intro b15 _
      refine lstep0 rfl rfl (run_storeN (.tmp rfl) (.tmp rfl) rfl sz28 rfl (by repeat (first | exact Upd.here | apply Upd.there)) (by repeat (first | exact Put.done | apply Put.put | apply Put.skip))) ?_
      refine lstepB rfl rfl rfl (run_assign (.tmp rfl)) ?_
      refine lnil ?_
      refine xw_then ?_
      refine cw_seq ?_
      refine cw_region ?_
      refine lstepB rfl rfl rfl (run_loadN (.tmp rfl) kd24 sz24 (by repeat (first | exact List.Mem.head _ | apply List.Mem.tail)) (by repeat (first | exact Sub.done | apply Sub.take | apply Sub.skip))) ?_
      refine lstepB rfl rfl rfl (run_call1 cb23 (.cons (.tmp rfl) .nil) (fun w hS => dig_clash hv hm2 (hp.kept hS.kept) ho)) ?_
      refine lstepB rfl rfl rfl (run_move (.tmp rfl)) ?_
      refine lstepB rfl rfl rfl (run_extract (.tmp rfl) rfl) ?_
      refine lstepB rfl rfl rfl (run_extract (.tmp rfl) rfl) ?_
      refine lstepB rfl rfl rfl (run_extract (.tmp rfl) rfl) ?_
      refine lstepB rfl rfl rfl (run_assign (.tmp rfl)) ?_
      refine lstepB rfl rfl rfl (run_assign (.tmp rfl)) ?_
      refine lstepB rfl rfl rfl (run_assign (.tmp rfl)) ?_
      refine lnil ?_
      refine xw_then ?_
      refine cw_seq ?_
      refine cw_region ?_
      refine lstepB rfl rfl rfl (run_move (.tmp rfl)) ?_
      refine lstepB rfl rfl rfl (run_eql (.tmp rfl) .const (by first | exact decide_eq_true (by omega) | exact decide_eq_false (by omega) | exact rfl)) ?_
      refine lstepB rfl rfl rfl (run_move (.tmp rfl)) ?_
      refine lyes rfl rfl rfl rfl ?_
      refine gstepB rfl rfl (run_move (.tmp rfl)) ?_
      refine lyes rfl rfl rfl rfl ?_
      refine gstepB rfl rfl (run_move (.tmp rfl)) ?_
      refine lyes rfl rfl rfl rfl ?_
      refine gstepB rfl rfl (run_eql (.tmp rfl) (.tmp rfl) (by first | exact decide_eq_true (by omega) | exact decide_eq_false (by omega) | exact rfl)) ?_
      refine lstepB rfl rfl rfl (by first | exact run_pick_true (.tmp rfl) (.tmp rfl) | exact run_pick_false (.tmp rfl) .const) ?_
      refine lstepB rfl rfl rfl (run_move (.tmp rfl)) ?_
      refine lyes rfl rfl rfl rfl ?_
      refine gstepB rfl rfl (run_move (.tmp rfl)) ?_
      refine lyes rfl rfl rfl rfl ?_
      refine gstepB rfl rfl (run_move (.tmp rfl)) ?_
      refine lyes rfl rfl rfl rfl ?_
      refine gstepB rfl rfl (run_eql (.tmp rfl) (.tmp rfl) (by first | exact decide_eq_true (by omega) | exact decide_eq_false (by omega) | exact rfl)) ?_
      refine lstepB rfl rfl rfl (by first | exact run_pick_true (.tmp rfl) (.tmp rfl) | exact run_pick_false (.tmp rfl) .const) ?_
      refine lstepB rfl rfl rfl (run_move (.tmp rfl)) ?_
      refine lyes rfl rfl rfl rfl ?_
      refine gstepB rfl rfl (run_loadN (.tmp rfl) kd28 sz28 (by repeat (first | exact List.Mem.head _ | apply List.Mem.tail)) (by repeat (first | exact Sub.done | apply Sub.take | apply Sub.skip))) ?_
      refine lyes rfl rfl rfl rfl ?_
      refine gstepB rfl rfl (run_build_at .nil (fun w => bd28_ w)) ?_
      refine lyes rfl rfl rfl rfl ?_
      refine gstepB rfl rfl (run_eql_agg (.tmp rfl) (.tmp rfl) eg28 (eql28 (by first | exact (show _ = true from by simp only [Bool.and_eq_true, decide_eq_true_eq]; omega) | exact (show _ = false from by simp only [Bool.and_eq_false_iff, decide_eq_false_iff_not]; omega) | exact rfl))) ?_
      refine lstepB rfl rfl rfl (by first | exact run_pick_true (.tmp rfl) (.tmp rfl) | exact run_pick_false (.tmp rfl) .const) ?_
      refine lstepB rfl rfl rfl (run_move (.tmp rfl)) ?_
      refine lyes rfl rfl rfl rfl ?_
      refine gstepB rfl rfl (run_call1 cb12 .nil (fun w _ => awakeK w)) ?_
      refine lstepB rfl rfl rfl (by first | exact run_pick_true (.tmp rfl) (.tmp rfl) | exact run_pick_false (.tmp rfl) .const) ?_
      refine lstepB rfl rfl rfl (run_assign (.tmp rfl)) ?_
      refine lnil ?_
      refine xw_then ?_
      refine cw_ret ?_
      refine xw_then_ret ?_
      refine xw_ret1 Try.results8 rfl (fun w hS => ⟨rfl, hS.kept⟩)
    ·
      have bac := sumR_bound hg a c h0a (by omega) hcl
      have bab := sumR_bound hg a b h0a hab (by omega)
      obtain ⟨⟨W1, W2⟩, hW⟩ : ∃ W, widF (hardL g) (hardL g).length = W := ⟨_, rfl⟩
      have hwid := wid_spec hg ho
      rw [hW] at hwid
      obtain ⟨hwid, hw0, hw1⟩ := hwid
      dsimp only at hwid hw0 hw1
      refine xw_then ?_
      refine cw_seq ?_
      refine cw_region ?_
      refine lstepB rfl rfl rfl (run_move (.tmp rfl)) ?_
      refine lstepB rfl rfl rfl (run_move (.tmp rfl)) ?_
      refine lstepB rfl rfl rfl (run_move (.tmp rfl)) ?_
      refine lstepB rfl rfl rfl (run_min3 (.tmp rfl) (.tmp rfl) (.tmp rfl) ha) ?_
      refine lstepB rfl rfl rfl (run_move (.tmp rfl)) ?_
      refine lstepB rfl rfl rfl (run_move (.tmp rfl)) ?_
      refine lstepB rfl rfl rfl (run_add (.tmp rfl) (.tmp rfl) (by first | exact IntWalk.i64_in _ (by omega) | exact rfl)) ?_
      refine lstepB rfl rfl rfl (run_move (.tmp rfl)) ?_
      refine lstepB rfl rfl rfl (run_add (.tmp rfl) (.tmp rfl) (by first | exact IntWalk.i64_in _ (by omega) | exact rfl)) ?_
      refine lstepB rfl rfl rfl (run_move (.tmp rfl)) ?_
      refine lstepB rfl rfl rfl (run_move (.tmp rfl)) ?_
      refine lstepB rfl rfl rfl (run_move (.tmp rfl)) ?_
      refine lstepB rfl rfl rfl (run_min3 (.tmp rfl) (.tmp rfl) (.tmp rfl) ha) ?_
      refine lstepB rfl rfl rfl (run_sub (.tmp rfl) (.tmp rfl) (by first | exact IntWalk.i64_in _ (by omega) | exact rfl)) ?_
      refine lstepB rfl rfl rfl (run_move (.tmp rfl)) ?_
      refine lstepB rfl rfl rfl (run_move (.tmp rfl)) ?_
      refine lstepB rfl rfl rfl (run_move (.tmp rfl)) ?_
      refine lstepB rfl rfl rfl (run_max3 (.tmp rfl) (.tmp rfl) (.tmp rfl) hc) ?_
      refine lstepB rfl rfl rfl (run_sub (c := b) (.tmp rfl) (.tmp rfl) (by rw [IntWalk.i64_in _ (by omega)]; omega)) ?_
      refine lstepB rfl rfl rfl (run_move (.tmp rfl)) ?_
      refine lstepB rfl rfl rfl (run_move (.tmp rfl)) ?_
      refine lstepB rfl rfl rfl (run_move (.tmp rfl)) ?_
      refine lstepB rfl rfl rfl (run_max3 (.tmp rfl) (.tmp rfl) (.tmp rfl) hc) ?_
      refine lstepB rfl rfl rfl (run_assign (.tmp rfl)) ?_
      refine lstepB rfl rfl rfl (run_assign (.tmp rfl)) ?_
      refine lstepB rfl rfl rfl (run_assign (.tmp rfl)) ?_
      refine lnil ?_
      refine xw_then ?_
      refine cw_seq ?_
      refine cw_region ?_
      refine lstepB rfl rfl rfl (run_loadN (.tmp rfl) kd24 sz24 (by repeat (first | exact List.Mem.head _ | apply List.Mem.tail)) (by repeat (first | exact Sub.done | apply Sub.take | apply Sub.skip))) ?_
      refine lstepB rfl rfl rfl (run_move (.tmp rfl)) ?_
      refine lstepB rfl rfl rfl (run_move (.tmp rfl)) ?_
      refine lstepB rfl rfl rfl (run_call1 cb19 (.cons (.tmp rfl) (.cons (.tmp rfl) (.cons (.tmp rfl) .nil))) (fun w hS => work_ok hv hm2 (hp.kept hS.kept) ho h0a (by omega) hcl)) ?_
      refine lstepB rfl rfl rfl (run_move (.tmp rfl)) ?_
      refine lstepB rfl rfl rfl (run_extract (.tmp rfl) rfl) ?_
      refine lstepB rfl rfl rfl (run_extract (.tmp rfl) rfl) ?_
      refine lstep rfl rfl rfl (run_alloc zr28) ?_
      intro b13 _
      refine lstep0 rfl rfl (run_storeN (.tmp rfl) (.tmp rfl) rfl sz28 rfl (by repeat (first | exact Upd.here | apply Upd.there)) (by repeat (first | exact Put.done | apply Put.put | apply Put.skip))) ?_
      refine lstepB rfl rfl rfl (run_assign (.tmp rfl)) ?_
      refine lnil ?_
      refine xw_then ?_
      refine cw_seq ?_
      refine cw_seq ?_
      refine cw_region ?_
      refine lstepB rfl rfl rfl (run_move (.tmp rfl)) ?_
      refine lstepB rfl rfl rfl (run_neq (.tmp rfl) .const (by first | exact decide_eq_true (by omega) | exact decide_eq_false (by omega) | exact rfl)) ?_
      refine lnil ?_
      refine xw_then ?_
      refine cw_cond_false (.tmp rfl) ?_
      refine cw_skip ?_
      refine xw_then ?_
      refine cw_seq ?_
      refine cw_region ?_
      refine lstepB rfl rfl rfl (run_loadN (.tmp rfl) kd24 sz24 (by repeat (first | exact List.Mem.head _ | apply List.Mem.tail)) (by repeat (first | exact Sub.done | apply Sub.take | apply Sub.skip))) ?_
      refine lstepB rfl rfl rfl (run_move (.tmp rfl)) ?_
      refine lstepB rfl rfl rfl (run_move (.tmp rfl)) ?_
      refine lstepB rfl rfl rfl (run_call1 cb19 (.cons (.tmp rfl) (.cons (.tmp rfl) (.cons (.tmp rfl) .nil))) (fun w hS => work_ok hv hm2 (hp.kept hS.kept) ho h0a hab (by omega))) ?_
      refine lstepB rfl rfl rfl (run_move (.tmp rfl)) ?_
      refine lstepB rfl rfl rfl (run_extract (.tmp rfl) rfl) ?_
      refine lstepB rfl rfl rfl (run_extract (.tmp rfl) rfl) ?_
      refine lstep rfl rfl rfl (run_alloc zr28) ?_
      intro b20 _
      refine lstep0 rfl rfl (run_storeN (.tmp rfl) (.tmp rfl) rfl sz28 rfl (by repeat (first | exact Upd.here | apply Upd.there)) (by repeat (first | exact Put.done | apply Put.put | apply Put.skip))) ?_
      refine lstepB rfl rfl rfl (run_assign (.tmp rfl)) ?_
      refine lnil ?_
      refine xw_then ?_
      refine cw_seq ?_
      refine cw_seq ?_
      refine cw_region ?_
      refine lstepB rfl rfl rfl (run_move (.tmp rfl)) ?_
      refine lstepB rfl rfl rfl (run_neq (.tmp rfl) .const (by first | exact decide_eq_true (by omega) | exact decide_eq_false (by omega) | exact rfl)) ?_
      refine lnil ?_
      refine xw_then ?_
      refine cw_cond_false (.tmp rfl) ?_
      refine cw_skip ?_
      refine xw_then ?_
      refine cw_seq ?_
      refine cw_region ?_
      refine lstepB rfl rfl rfl (run_build_at .nil (fun w => bd28_ w)) ?_
      refine lstep rfl rfl rfl (run_alloc zr28) ?_
      intro b22 _
      refine lstep0 rfl rfl (run_storeN (.tmp rfl) (.tmp rfl) rfl sz28 rfl (by repeat (first | exact Upd.here | apply Upd.there)) (by repeat (first | exact Put.done | apply Put.put | apply Put.skip))) ?_
      refine lnil ?_
      refine xw_then ?_
      refine cw_seq ?_
      refine cw_seq ?_
      refine cw_region ?_
      refine lstepB rfl rfl rfl (run_move (.tmp rfl)) ?_
      refine lstepB rfl rfl rfl (run_move (.tmp rfl)) ?_
      refine lstepB rfl rfl rfl (run_lss (.tmp rfl) (.tmp rfl) rfl) ?_
      refine lnil ?_
      refine xw_then ?_
      refine cw_cond_p (.tmp rfl) (fun hbc1 => ?_) (fun hbc1 => ?_)
      ·
        have bbc := sumR_bound hg (b + 1) c (by omega) (by omega) hcl
        have hs := sumR_split (g := g) (x := a) (y := b) (z := c) h0a hab hbc1
        have hs1 : (sumR g a c).lo = (sumR g a b).lo + (sumR g (b + 1) c).lo := by rw [hs]
        have hs2 : (sumR g a c).hi = (sumR g a b).hi + (sumR g (b + 1) c).hi := by rw [hs]
        clear hs
        refine cw_seq ?_
        refine cw_region ?_
        refine lstepB rfl rfl rfl (run_loadN (.tmp rfl) kd24 sz24 (by repeat (first | exact List.Mem.head _ | apply List.Mem.tail)) (by repeat (first | exact Sub.done | apply Sub.take | apply Sub.skip))) ?_
        refine lstepB rfl rfl rfl (run_move (.tmp rfl)) ?_
        refine lstepB rfl rfl rfl (run_add (.tmp rfl) .const (by first | exact IntWalk.i64_in _ (by omega) | exact rfl)) ?_
        refine lstepB rfl rfl rfl (run_move (.tmp rfl)) ?_
        refine lstepB rfl rfl rfl (run_call1 cb19 (.cons (.tmp rfl) (.cons (.tmp rfl) (.cons (.tmp rfl) .nil))) (fun w hS => work_ok hv hm2 (hp.kept hS.kept) ho (by omega) (by omega) hcl)) ?_
        refine lstepB rfl rfl rfl (run_move (.tmp rfl)) ?_
        refine lstepB rfl rfl rfl (run_extract (.tmp rfl) rfl) ?_
        refine lstepB rfl rfl rfl (run_extract (.tmp rfl) rfl) ?_
        refine lstep rfl rfl rfl (run_alloc zr28) ?_
        intro b23 _
        refine lstep0 rfl rfl (run_storeN (.tmp rfl) (.tmp rfl) rfl sz28 rfl (by repeat (first | exact Upd.here | apply Upd.there)) (by repeat (first | exact Put.done | apply Put.put | apply Put.skip))) ?_
        refine lstepB rfl rfl rfl (run_assign (.tmp rfl)) ?_
        refine lnil ?_
        refine xw_then ?_
        refine cw_seq ?_
        refine cw_seq ?_
        refine cw_region ?_
        refine lstepB rfl rfl rfl (run_move (.tmp rfl)) ?_
        refine lstepB rfl rfl rfl (run_neq (.tmp rfl) .const (by first | exact decide_eq_true (by omega) | exact decide_eq_false (by omega) | exact rfl)) ?_
        refine lnil ?_
        refine xw_then ?_
        refine cw_cond_false (.tmp rfl) ?_
        refine cw_skip ?_
        refine xw_then ?_
        refine cw_region ?_
        refine lstepB rfl rfl rfl (run_loadN (.tmp rfl) kd28 sz28 (by repeat (first | exact List.Mem.head _ | apply List.Mem.tail)) (by repeat (first | exact Sub.done | apply Sub.take | apply Sub.skip))) ?_
        refine lstep0 rfl rfl (run_storeN (.tmp rfl) (.tmp rfl) rfl sz28 rfl (by repeat (first | exact Upd.here | apply Upd.there)) (by repeat (first | exact Put.done | apply Put.put | apply Put.skip))) ?_
        refine lnil ?_
        refine xw_then ?_
        refine cw_seq ?_
        refine cw_seq ?_
        refine cw_chain2 (σ := [0, 1, 2, 3, 4, 5, 6, 7, 8, 9, 10, 11, 12]) [⟨0, [3], [], [], 0⟩, ⟨0, [], [], [], 0⟩, ⟨0, [2], [], [], 2⟩, ⟨0, [], [], [], 0⟩, ⟨0, [1], [], [], 8⟩, ⟨0, [], [], [], 30⟩, ⟨0, [], [], [], 0⟩, ⟨0, [2], [], [], 64⟩, ⟨0, [], [], [], 0⟩, ⟨0, [1], [], [], 256⟩, ⟨0, [], [], [], 960⟩, ⟨0, [], [], [], 2046⟩, ⟨0, [], [], [], 4095⟩] [(0, _), (1, _), (2, _), (3, _), (4, _)] (by kernel_rfl) (by kernel_rfl) rfl ?_
        refine .det (B := []) rfl rfl (.inl rfl) (.cons rfl .nil) .nil rfl (RunB.lr (run_loadN (.tmp rfl) kd28 sz28 (by repeat (first | exact List.Mem.head _ | apply List.Mem.tail)) (by repeat (first | exact Sub.done | apply Sub.take | apply Sub.skip)))) ?_
        refine .det (B := []) rfl rfl (.inl rfl) .nil .nil rfl (RunB.lr (run_fieldAddr (.tmp rfl) fa28_0 (by first | exact Nat.zero_add _ | exact rfl))) ?_
        refine .det (B := []) rfl rfl (.inl rfl) (.cons rfl .nil) .nil rfl (RunB.lr (run_load1 (.tmp rfl) kd3 (by repeat (first | exact List.Mem.head _ | apply List.Mem.tail)) (by exact rfl))) ?_
        refine .det (B := []) rfl rfl (.inl rfl) .nil .nil rfl (RunB.lr (run_fieldAddr (.tmp rfl) fa28_0 (by first | exact Nat.zero_add _ | exact rfl))) ?_
        refine .det (B := []) rfl rfl (.inl rfl) (.cons rfl .nil) .nil rfl (RunB.lr (run_load1 (.tmp rfl) kd3 (by repeat (first | exact List.Mem.head _ | apply List.Mem.tail)) (by exact rfl))) ?_
        refine .det (B := []) rfl rfl (.inl rfl) .nil .nil rfl (RunB.lr (run_add (.tmp rfl) (.tmp rfl) (by first | exact IntWalk.i64_in _ (by omega) | exact rfl))) ?_
        refine .det (B := []) rfl rfl (.inl rfl) .nil .nil rfl (RunB.lr (run_fieldAddr (.tmp rfl) fa28_1 (by first | exact Nat.zero_add _ | exact rfl))) ?_
        refine .det (B := []) rfl rfl (.inl rfl) (.cons rfl .nil) .nil rfl (RunB.lr (run_load1 (.tmp rfl) kd3 (by repeat (first | exact List.Mem.head _ | apply List.Mem.tail)) (by exact rfl))) ?_
        refine .det (B := []) rfl rfl (.inl rfl) .nil .nil rfl (RunB.lr (run_fieldAddr (.tmp rfl) fa28_1 (by first | exact Nat.zero_add _ | exact rfl))) ?_
        refine .det (B := []) rfl rfl (.inl rfl) (.cons rfl .nil) .nil rfl (RunB.lr (run_load1 (.tmp rfl) kd3 (by repeat (first | exact List.Mem.head _ | apply List.Mem.tail)) (by exact rfl))) ?_
        refine .det (B := []) rfl rfl (.inl rfl) .nil .nil rfl (RunB.lr (run_add (.tmp rfl) (.tmp rfl) (by first | exact IntWalk.i64_in _ (by omega) | exact rfl))) ?_
        refine .det (B := []) rfl rfl (.inl rfl) .nil .nil rfl (RunB.lr (run_call1 cb31 (.cons (.tmp rfl) (.cons (.tmp rfl) .nil)) (fun w _ => spanLK _ _ w))) ?_
        refine .det (B := []) rfl rfl (.inl rfl) .nil .nil rfl (RunB.lr (run_eql_agg (.tmp rfl) (.tmp rfl) eg28 (neq28 (r := false) (by simp [hs1, hs2])))) ?_
        refine chain_nil (ts := [0, 1, 2, 3, 4]) (.cons rfl (.cons rfl (.cons rfl (.cons rfl (.cons rfl .nil))))) (by decide) ?_
        refine xw_then ?_
        refine cw_cond_false (.tmp rfl) ?_
        refine cw_skip ?_
        refine xw_then ?_
        refine cw_seq ?_
        refine cw_seq ?_
        refine cw_region ?_
        refine lstepB rfl rfl rfl (run_loadN (.tmp rfl) kd24 sz24 (by repeat (first | exact List.Mem.head _ | apply List.Mem.tail)) (by repeat (first | exact Sub.done | apply Sub.take | apply Sub.skip))) ?_
        refine lstepB rfl rfl rfl (run_move (.tmp rfl)) ?_
        refine lstepB rfl rfl rfl (run_add (.tmp rfl) .const (by first | exact IntWalk.i64_in _ (by omega) | exact rfl)) ?_
        refine lstepB rfl rfl rfl (run_move (.tmp rfl)) ?_
        refine lstepB rfl rfl rfl (run_call1 cb19 (.cons (.tmp rfl) (.cons (.tmp rfl) (.cons (.tmp rfl) .nil))) (fun w hS => work_back hv hm2 (hp.kept hS.kept))) ?_
        refine lstepB rfl rfl rfl (run_move (.tmp rfl)) ?_
        refine lstepB rfl rfl rfl (run_extract (.tmp rfl) rfl) ?_
        refine lstepB rfl rfl rfl (run_extract (.tmp rfl) rfl) ?_
        refine lstep rfl rfl rfl (run_alloc zr28) ?_
        intro b25 _
        refine lstep0 rfl rfl (run_storeN (.tmp rfl) (.tmp rfl) rfl sz28 rfl (by repeat (first | exact Upd.here | apply Upd.there)) (by repeat (first | exact Put.done | apply Put.put | apply Put.skip))) ?_
        refine lstepB rfl rfl rfl (run_assign (.tmp rfl)) ?_
        refine lnil ?_
        refine xw_then ?_
        refine cw_seq ?_
        refine cw_region ?_
        refine lstepB rfl rfl rfl (run_move (.tmp rfl)) ?_
        refine lstepB rfl rfl rfl (run_neq (.tmp rfl) .const (by first | exact decide_eq_true (by omega) | exact decide_eq_false (by omega) | exact rfl)) ?_
        refine lnil ?_
        refine xw_then ?_
        refine cw_cond_false (.tmp rfl) ?_
        refine cw_skip ?_
        refine xw_then ?_
        refine cw_seq ?_
        refine cw_region ?_
        refine lstepB rfl rfl rfl (run_loadN (.tmp rfl) kd24 sz24 (by repeat (first | exact List.Mem.head _ | apply List.Mem.tail)) (by repeat (first | exact Sub.done | apply Sub.take | apply Sub.skip))) ?_
        refine lstepB rfl rfl rfl (run_call1 cb23 (.cons (.tmp rfl) .nil) (fun w hS => by have := dig_ok (pc := pc) hv hm2 (hp.kept hS.kept) ho; rw [hW] at this; dsimp only at this; exact this)) ?_
        refine lstepB rfl rfl rfl (run_move (.tmp rfl)) ?_
        refine lstepB rfl rfl rfl (run_extract (.tmp rfl) rfl) ?_
        refine lstepB rfl rfl rfl (run_extract (.tmp rfl) rfl) ?_
        refine lstepB rfl rfl rfl (run_extract (.tmp rfl) rfl) ?_
        refine lstepB rfl rfl rfl (run_assign (.tmp rfl)) ?_
        refine lstepB rfl rfl rfl (run_assign (.tmp rfl)) ?_
        refine lstepB rfl rfl rfl (run_assign (.tmp rfl)) ?_
        refine lnil ?_
        refine xw_then ?_
        refine cw_seq ?_
        refine cw_seq ?_
        refine cw_region ?_
        refine lstepB rfl rfl rfl (run_move (.tmp rfl)) ?_
        refine lstepB rfl rfl rfl (run_neq (.tmp rfl) .const (by first | exact decide_eq_true (by omega) | exact decide_eq_false (by omega) | exact rfl)) ?_
        refine lnil ?_
        refine xw_then ?_
        refine cw_cond_false (.tmp rfl) ?_
        refine cw_skip ?_
        refine xw_then ?_
        refine cw_seq ?_
        refine cw_region ?_
        refine lstepB rfl rfl rfl (run_build_at .nil (fun w => bd28_ w)) ?_
        refine lstep rfl rfl rfl (run_alloc zr28) ?_
        intro b30 _
        refine lstep0 rfl rfl (run_storeN (.tmp rfl) (.tmp rfl) rfl sz28 rfl (by repeat (first | exact Upd.here | apply Upd.there)) (by repeat (first | exact Put.done | apply Put.put | apply Put.skip))) ?_
        refine lnil ?_
        refine xw_then ?_
        refine cw_seq ?_
        refine cw_seq ?_
        refine cw_region ?_
        refine lstepB rfl rfl rfl (run_move (.tmp rfl)) ?_
        refine lstepB rfl rfl rfl (run_move .const) ?_
        refine lnil ?_
        refine xw_then ?_
        refine cw_block ?_
        refine cw_loop (S := Nat) (fun k => [(182, .int .i64 (k : Int))]) [(4, _), (8, _), (9, _), (27, _), (28, _), (30, _), (181, _)] (fun k => [(b30, Obj.cells [.int .i64 (befS g k).lo, .int .i64 (befS g k).hi].toArray 28 (0, 0)), (b4, Obj.cells [.int .i64 g.long, .int .i64 g.rise, .int .i64 g.change, .slice pa g.pits.length pc].toArray 24 (0, 0))]) (fun k => (k : Int) ≤ g.long + 1) (fun k => (g.long + 1).toNat - k) 0 (by omega) (by repeat (first | exact Less.nil | refine Less.cons rfl ?_)) (by repeat (first | exact Pick.nil | (apply Pick.cons; focus (repeat (first | exact Del.here | apply Del.there))))) ?_
        intro k hk
        refine cw_seq ?_
        refine cw_region ?_
        refine lstepB rfl rfl rfl (run_lss (.tmp rfl) (.tmp rfl) (by first | exact decide_eq_true (by omega) | exact decide_eq_false (by omega) | exact rfl)) ?_
        refine lnil ?_
        refine xw_then ?_
        refine cw_seq ?_
        refine cw_cond_p (.tmp rfl) (fun hl => ?_) (fun hl => ?_)
        ·
          have k1 : (k : Int) ≤ g.long := by omega
          have k0 : 0 ≤ (k : Int) := by omega
          have hb1 := hardC_bound hg ho k0 k1
          have hw2 := hwid (k : Int) k0 k1
          refine cw_skip ?_
          refine xw_then ?_
          refine cw_seq ?_
          refine cw_block ?_
          refine cw_seq ?_
          refine cw_region ?_
          refine lstepB rfl rfl rfl (run_move (.tmp rfl)) ?_
          refine lstepB rfl rfl rfl (run_assign (.tmp rfl)) ?_
          refine lnil ?_
          refine xw_then ?_
          refine cw_seq ?_
          refine cw_region ?_
          refine lstepB rfl rfl rfl (run_loadN (.tmp rfl) kd24 sz24 (by repeat (first | exact List.Mem.head _ | apply List.Mem.tail)) (by repeat (first | exact Sub.done | apply Sub.take | apply Sub.skip))) ?_
          refine lstepB rfl rfl rfl (run_move (.tmp rfl)) ?_
          refine lstepB rfl rfl rfl (run_call1 cb13 (.cons (.tmp rfl) (.cons (.tmp rfl) .nil)) (fun w hS => hard_ok hv hm2 (hp.kept hS.kept) ho k0 k1)) ?_
          refine lstepB rfl rfl rfl (run_move (.tmp rfl)) ?_
          refine lstepB rfl rfl rfl (run_extract (.tmp rfl) rfl) ?_
          refine lstepB rfl rfl rfl (run_extract (.tmp rfl) rfl) ?_
          refine lstep rfl rfl rfl (run_alloc zr28) ?_
          intro b32 _
          refine lstep0 rfl rfl (run_storeN (.tmp rfl) (.tmp rfl) rfl sz28 rfl (by repeat (first | exact Upd.here | apply Upd.there)) (by repeat (first | exact Put.done | apply Put.put | apply Put.skip))) ?_
          refine lstepB rfl rfl rfl (run_assign (.tmp rfl)) ?_
          refine lnil ?_
          refine xw_then ?_
          refine cw_seq ?_
          refine cw_region ?_
          refine lstepB rfl rfl rfl (run_loadN (.tmp rfl) kd24 sz24 (by repeat (first | exact List.Mem.head _ | apply List.Mem.tail)) (by repeat (first | exact Sub.done | apply Sub.take | apply Sub.skip))) ?_
          refine lstepB rfl rfl rfl (run_move (.tmp rfl)) ?_
          refine lstepB rfl rfl rfl (run_move (.tmp rfl)) ?_
          refine lstepB rfl rfl rfl (run_call1 cb19 (.cons (.tmp rfl) (.cons (.tmp rfl) (.cons (.tmp rfl) .nil))) (fun w hS => by have := work_ok (pc := pc) hv hm2 (hp.kept hS.kept) ho k0 (Int.le_refl _) k1; rw [sumR_one k0 k1] at this; exact this)) ?_
          refine lstepB rfl rfl rfl (run_move (.tmp rfl)) ?_
          refine lstepB rfl rfl rfl (run_extract (.tmp rfl) rfl) ?_
          refine lstepB rfl rfl rfl (run_extract (.tmp rfl) rfl) ?_
          refine lstep rfl rfl rfl (run_alloc zr28) ?_
          intro b34 _
          refine lstep0 rfl rfl (run_storeN (.tmp rfl) (.tmp rfl) rfl sz28 rfl (by repeat (first | exact Upd.here | apply Upd.there)) (by repeat (first | exact Put.done | apply Put.put | apply Put.skip))) ?_
          refine lstepB rfl rfl rfl (run_assign (.tmp rfl)) ?_
          refine lnil ?_
          refine xw_then ?_
          refine cw_seq ?_
          refine cw_seq ?_
          refine cw_region ?_
          refine lstepB rfl rfl rfl (run_move (.tmp rfl)) ?_
          refine lstepB rfl rfl rfl (run_neq (.tmp rfl) .const (by first | exact decide_eq_true (by omega) | exact decide_eq_false (by omega) | exact rfl)) ?_
          refine lstepB rfl rfl rfl (run_move (.tmp rfl)) ?_
          first | (refine lyes rfl rfl rfl rfl ?_; refine gstepB rfl rfl (run_move (.tmp rfl)) ?_) | refine lskip rfl rfl rfl rfl rfl rfl rfl ?_
          first | (refine lyes rfl rfl rfl rfl ?_; refine gstepB rfl rfl (run_neq (.tmp rfl) .const (by first | exact decide_eq_true (by omega) | exact decide_eq_false (by omega) | exact rfl)) ?_) | refine lskip rfl rfl rfl rfl rfl rfl rfl ?_
          refine lstepB rfl rfl rfl (by first | exact run_pick_true (.tmp rfl) .const | exact run_pick_false (.tmp rfl) (.tmp rfl)) ?_
          refine lstepB rfl rfl rfl (run_move (.tmp rfl)) ?_
          first | (refine lyes rfl rfl rfl rfl ?_; refine gstepB rfl rfl (run_loadN (.tmp rfl) kd28 sz28 (by repeat (first | exact List.Mem.head _ | apply List.Mem.tail)) (by repeat (first | exact Sub.done | apply Sub.take | apply Sub.skip))) ?_) | refine lskip rfl rfl rfl rfl rfl rfl rfl ?_
          first | (refine lyes rfl rfl rfl rfl ?_; refine gstepB rfl rfl (run_loadN (.tmp rfl) kd28 sz28 (by repeat (first | exact List.Mem.head _ | apply List.Mem.tail)) (by repeat (first | exact Sub.done | apply Sub.take | apply Sub.skip))) ?_) | refine lskip rfl rfl rfl rfl rfl rfl rfl ?_
          first | (refine lyes rfl rfl rfl rfl ?_; refine gstepB rfl rfl (run_eql_agg (.tmp rfl) (.tmp rfl) eg28 (neq28 (r := false) (by simp))) ?_) | refine lskip rfl rfl rfl rfl rfl rfl rfl ?_
          refine lstepB rfl rfl rfl (by first | exact run_pick_true (.tmp rfl) .const | exact run_pick_false (.tmp rfl) (.tmp rfl)) ?_
          refine lstepB rfl rfl rfl (run_move (.tmp rfl)) ?_
          first | (refine lyes rfl rfl rfl rfl ?_; refine gstepB rfl rfl (run_fieldAddr (.tmp rfl) fa28_0 (by first | exact Nat.zero_add _ | exact rfl)) ?_) | refine lskip rfl rfl rfl rfl rfl rfl rfl ?_
          first | (refine lyes rfl rfl rfl rfl ?_; refine gstepB rfl rfl (run_load1 (.tmp rfl) kd3 (by repeat (first | exact List.Mem.head _ | apply List.Mem.tail)) (by exact rfl)) ?_) | refine lskip rfl rfl rfl rfl rfl rfl rfl ?_
          first | (refine lyes rfl rfl rfl rfl ?_; refine gstepB rfl rfl (run_lss (.tmp rfl) .const (by first | exact decide_eq_true (by omega) | exact decide_eq_false (by omega) | exact rfl)) ?_) | refine lskip rfl rfl rfl rfl rfl rfl rfl ?_
          refine lstepB rfl rfl rfl (by first | exact run_pick_true (.tmp rfl) .const | exact run_pick_false (.tmp rfl) (.tmp rfl)) ?_
          refine lstepB rfl rfl rfl (run_move (.tmp rfl)) ?_
          first | (refine lyes rfl rfl rfl rfl ?_; refine gstepB rfl rfl (run_fieldAddr (.tmp rfl) fa28_1 (by first | exact Nat.zero_add _ | exact rfl)) ?_) | refine lskip rfl rfl rfl rfl rfl rfl rfl ?_
          first | (refine lyes rfl rfl rfl rfl ?_; refine gstepB rfl rfl (run_load1 (.tmp rfl) kd3 (by repeat (first | exact List.Mem.head _ | apply List.Mem.tail)) (by exact rfl)) ?_) | refine lskip rfl rfl rfl rfl rfl rfl rfl ?_
          first | (refine lyes rfl rfl rfl rfl ?_; refine gstepB rfl rfl (run_gtr (.tmp rfl) .const (by first | exact decide_eq_true (by omega) | exact decide_eq_false (by omega) | exact rfl)) ?_) | refine lskip rfl rfl rfl rfl rfl rfl rfl ?_
          refine lstepB rfl rfl rfl (by first | exact run_pick_true (.tmp rfl) .const | exact run_pick_false (.tmp rfl) (.tmp rfl)) ?_
          refine lstepB rfl rfl rfl (run_move (.tmp rfl)) ?_
          first | (refine lyes rfl rfl rfl rfl ?_; refine gstepB rfl rfl (run_fieldAddr (.tmp rfl) fa28_0 (by first | exact Nat.zero_add _ | exact rfl)) ?_) | refine lskip rfl rfl rfl rfl rfl rfl rfl ?_
          first | (refine lyes rfl rfl rfl rfl ?_; refine gstepB rfl rfl (run_load1 (.tmp rfl) kd3 (by repeat (first | exact List.Mem.head _ | apply List.Mem.tail)) (by exact rfl)) ?_) | refine lskip rfl rfl rfl rfl rfl rfl rfl ?_
          first | (refine lyes rfl rfl rfl rfl ?_; refine gstepB rfl rfl (run_fieldAddr (.tmp rfl) fa28_1 (by first | exact Nat.zero_add _ | exact rfl)) ?_) | refine lskip rfl rfl rfl rfl rfl rfl rfl ?_
          first | (refine lyes rfl rfl rfl rfl ?_; refine gstepB rfl rfl (run_load1 (.tmp rfl) kd3 (by repeat (first | exact List.Mem.head _ | apply List.Mem.tail)) (by exact rfl)) ?_) | refine lskip rfl rfl rfl rfl rfl rfl rfl ?_
          first | (refine lyes rfl rfl rfl rfl ?_; refine gstepB rfl rfl (run_gtr (.tmp rfl) (.tmp rfl) (by first | exact decide_eq_true (by omega) | exact decide_eq_false (by omega) | exact rfl)) ?_) | refine lskip rfl rfl rfl rfl rfl rfl rfl ?_
          refine lstepB rfl rfl rfl (by first | exact run_pick_true (.tmp rfl) .const | exact run_pick_false (.tmp rfl) (.tmp rfl)) ?_
          refine lnil ?_
          refine xw_then ?_
          refine cw_cond_false (.tmp rfl) ?_
          have hnear : 0 < k → (befS g k).lo - (hardC g (k : Int)).lo ≤ g.rise ∧ (hardC g (k : Int)).lo - (befS g k).lo ≤ g.rise ∧ (befS g k).hi - (hardC g (k : Int)).hi ≤ g.rise ∧ (hardC g (k : Int)).hi - (befS g k).hi ≤ g.rise ∧ 0 ≤ (befS g k).lo ∧ (befS g k).lo ≤ (befS g k).hi ∧ (befS g k).hi ≤ 1000 := fun hk0 => by
            rw [befS_pos hk0]
            have q1 := hardC_near hg (k := (k : Int)) (m := (k : Int) - 1) (by omega) (by omega) (by omega) (by omega)
            have q2 := hardC_near hg (k := (k : Int) - 1) (m := (k : Int)) (by omega) (by omega) (by omega) (by omega)
            have q3 := hardC_bound hg ho (k := (k : Int) - 1) (by omega) (by omega)
            omega
          have hcase : (k = 0 ∨ 0 < k ∧ ((befS g k).lo - (hardC g (k : Int)).lo ≤ g.rise ∧ (hardC g (k : Int)).lo - (befS g k).lo ≤ g.rise ∧ (befS g k).hi - (hardC g (k : Int)).hi ≤ g.rise ∧ (hardC g (k : Int)).hi - (befS g k).hi ≤ g.rise ∧ 0 ≤ (befS g k).lo ∧ (befS g k).lo ≤ (befS g k).hi ∧ (befS g k).hi ≤ 1000)) := by
            rcases Nat.eq_zero_or_pos k with h | h
            · exact .inl h
            · exact .inr ⟨h, hnear h⟩
          have hcase2 : ((hardC g (k : Int)).hi - (hardC g (k : Int)).lo = W2 ∧ W1 = (k : Int)) ∨ ((hardC g (k : Int)).hi - (hardC g (k : Int)).lo = W2 ∧ W1 < (k : Int)) ∨ ((hardC g (k : Int)).hi - (hardC g (k : Int)).lo < W2 ∧ W1 ≠ (k : Int)) := by
            by_cases e1 : (hardC g (k : Int)).hi - (hardC g (k : Int)).lo = W2
            · have := hw2.2.1 e1; omega
            · refine .inr (.inr ⟨by omega, fun e => e1 (hw2.2.2 e.symm)⟩)
          clear hnear hwid
          rcases hcase with hk0 | ⟨hk0, hnear⟩
          all_goals
            refine cw_skip ?_
            refine xw_then ?_
            refine cw_seq ?_
            refine cw_seq ?_
            refine cw_region ?_
            refine lstepB rfl rfl rfl (run_move (.tmp rfl)) ?_
            refine lstepB rfl rfl rfl (run_gtr (.tmp rfl) .const (by first | exact decide_eq_true (by omega) | exact decide_eq_false (by omega) | exact rfl)) ?_
            refine lstepB rfl rfl rfl (run_move (.tmp rfl)) ?_
            first | (refine lyes rfl rfl rfl rfl ?_; refine gstepB rfl rfl (run_fieldAddr (.tmp rfl) fa28_0 (by first | exact Nat.zero_add _ | exact rfl)) ?_) | refine lskip rfl rfl rfl rfl rfl rfl rfl ?_
            first | (refine lyes rfl rfl rfl rfl ?_; refine gstepB rfl rfl (run_load1 (.tmp rfl) kd3 (by repeat (first | exact List.Mem.head _ | apply List.Mem.tail)) (by exact rfl)) ?_) | refine lskip rfl rfl rfl rfl rfl rfl rfl ?_
            first | (refine lyes rfl rfl rfl rfl ?_; refine gstepB rfl rfl (run_fieldAddr (.tmp rfl) fa28_0 (by first | exact Nat.zero_add _ | exact rfl)) ?_) | refine lskip rfl rfl rfl rfl rfl rfl rfl ?_
            first | (refine lyes rfl rfl rfl rfl ?_; refine gstepB rfl rfl (run_load1 (.tmp rfl) kd3 (by repeat (first | exact List.Mem.head _ | apply List.Mem.tail)) (by exact rfl)) ?_) | refine lskip rfl rfl rfl rfl rfl rfl rfl ?_
            first | (refine lyes rfl rfl rfl rfl ?_; refine gstepB rfl rfl (run_sub (.tmp rfl) (.tmp rfl) (by first | exact IntWalk.i64_in _ (by omega) | exact rfl)) ?_) | refine lskip rfl rfl rfl rfl rfl rfl rfl ?_
            first | (refine lyes rfl rfl rfl rfl ?_; refine gstepB rfl rfl (run_fieldAddr (.tmp rfl) fa24_1 (by first | exact Nat.zero_add _ | exact rfl)) ?_) | refine lskip rfl rfl rfl rfl rfl rfl rfl ?_
            first | (refine lyes rfl rfl rfl rfl ?_; refine gstepB rfl rfl (run_load1 (.tmp rfl) kd3 (by repeat (first | exact List.Mem.head _ | apply List.Mem.tail)) (by exact rfl)) ?_) | refine lskip rfl rfl rfl rfl rfl rfl rfl ?_
            first | (refine lyes rfl rfl rfl rfl ?_; refine gstepB rfl rfl (run_gtr (.tmp rfl) (.tmp rfl) (by first | exact decide_eq_true (by omega) | exact decide_eq_false (by omega) | exact rfl)) ?_) | refine lskip rfl rfl rfl rfl rfl rfl rfl ?_
            first | (refine lyes rfl rfl rfl rfl ?_; refine gstepB rfl rfl (run_move (.tmp rfl)) ?_) | refine lskip rfl rfl rfl rfl rfl rfl rfl ?_
            first | (refine lyes rfl rfl rfl rfl ?_; refine gstepB rfl rfl (run_fieldAddr (.tmp rfl) fa28_0 (by first | exact Nat.zero_add _ | exact rfl)) ?_) | refine lskip rfl rfl rfl rfl rfl rfl rfl ?_
            first | (refine lyes rfl rfl rfl rfl ?_; refine gstepB rfl rfl (run_load1 (.tmp rfl) kd3 (by repeat (first | exact List.Mem.head _ | apply List.Mem.tail)) (by exact rfl)) ?_) | refine lskip rfl rfl rfl rfl rfl rfl rfl ?_
            first | (refine lyes rfl rfl rfl rfl ?_; refine gstepB rfl rfl (run_fieldAddr (.tmp rfl) fa28_0 (by first | exact Nat.zero_add _ | exact rfl)) ?_) | refine lskip rfl rfl rfl rfl rfl rfl rfl ?_
            first | (refine lyes rfl rfl rfl rfl ?_; refine gstepB rfl rfl (run_load1 (.tmp rfl) kd3 (by repeat (first | exact List.Mem.head _ | apply List.Mem.tail)) (by exact rfl)) ?_) | refine lskip rfl rfl rfl rfl rfl rfl rfl ?_
            first | (refine lyes rfl rfl rfl rfl ?_; refine gstepB rfl rfl (run_sub (.tmp rfl) (.tmp rfl) (by first | exact IntWalk.i64_in _ (by omega) | exact rfl)) ?_) | refine lskip rfl rfl rfl rfl rfl rfl rfl ?_
            first | (refine lyes rfl rfl rfl rfl ?_; refine gstepB rfl rfl (run_fieldAddr (.tmp rfl) fa24_1 (by first | exact Nat.zero_add _ | exact rfl)) ?_) | refine lskip rfl rfl rfl rfl rfl rfl rfl ?_
            first | (refine lyes rfl rfl rfl rfl ?_; refine gstepB rfl rfl (run_load1 (.tmp rfl) kd3 (by repeat (first | exact List.Mem.head _ | apply List.Mem.tail)) (by exact rfl)) ?_) | refine lskip rfl rfl rfl rfl rfl rfl rfl ?_
            first | (refine lyes rfl rfl rfl rfl ?_; refine gstepB rfl rfl (run_gtr (.tmp rfl) (.tmp rfl) (by first | exact decide_eq_true (by omega) | exact decide_eq_false (by omega) | exact rfl)) ?_) | refine lskip rfl rfl rfl rfl rfl rfl rfl ?_
            first | (refine lyes rfl rfl rfl rfl ?_; refine gstepB rfl rfl (by first | exact run_pick_true (.tmp rfl) .const | exact run_pick_false (.tmp rfl) (.tmp rfl)) ?_) | refine lskip rfl rfl rfl rfl rfl rfl rfl ?_
            first | (refine lyes rfl rfl rfl rfl ?_; refine gstepB rfl rfl (run_move (.tmp rfl)) ?_) | refine lskip rfl rfl rfl rfl rfl rfl rfl ?_
            first | (refine lyes rfl rfl rfl rfl ?_; refine gstepB rfl rfl (run_fieldAddr (.tmp rfl) fa28_1 (by first | exact Nat.zero_add _ | exact rfl)) ?_) | refine lskip rfl rfl rfl rfl rfl rfl rfl ?_
            first | (refine lyes rfl rfl rfl rfl ?_; refine gstepB rfl rfl (run_load1 (.tmp rfl) kd3 (by repeat (first | exact List.Mem.head _ | apply List.Mem.tail)) (by exact rfl)) ?_) | refine lskip rfl rfl rfl rfl rfl rfl rfl ?_
            first | (refine lyes rfl rfl rfl rfl ?_; refine gstepB rfl rfl (run_fieldAddr (.tmp rfl) fa28_1 (by first | exact Nat.zero_add _ | exact rfl)) ?_) | refine lskip rfl rfl rfl rfl rfl rfl rfl ?_
            first | (refine lyes rfl rfl rfl rfl ?_; refine gstepB rfl rfl (run_load1 (.tmp rfl) kd3 (by repeat (first | exact List.Mem.head _ | apply List.Mem.tail)) (by exact rfl)) ?_) | refine lskip rfl rfl rfl rfl rfl rfl rfl ?_
            first | (refine lyes rfl rfl rfl rfl ?_; refine gstepB rfl rfl (run_sub (.tmp rfl) (.tmp rfl) (by first | exact IntWalk.i64_in _ (by omega) | exact rfl)) ?_) | refine lskip rfl rfl rfl rfl rfl rfl rfl ?_
            first | (refine lyes rfl rfl rfl rfl ?_; refine gstepB rfl rfl (run_fieldAddr (.tmp rfl) fa24_1 (by first | exact Nat.zero_add _ | exact rfl)) ?_) | refine lskip rfl rfl rfl rfl rfl rfl rfl ?_
            first | (refine lyes rfl rfl rfl rfl ?_; refine gstepB rfl rfl (run_load1 (.tmp rfl) kd3 (by repeat (first | exact List.Mem.head _ | apply List.Mem.tail)) (by exact rfl)) ?_) | refine lskip rfl rfl rfl rfl rfl rfl rfl ?_
            first | (refine lyes rfl rfl rfl rfl ?_; refine gstepB rfl rfl (run_gtr (.tmp rfl) (.tmp rfl) (by first | exact decide_eq_true (by omega) | exact decide_eq_false (by omega) | exact rfl)) ?_) | refine lskip rfl rfl rfl rfl rfl rfl rfl ?_
            first | (refine lyes rfl rfl rfl rfl ?_; refine gstepB rfl rfl (by first | exact run_pick_true (.tmp rfl) .const | exact run_pick_false (.tmp rfl) (.tmp rfl)) ?_) | refine lskip rfl rfl rfl rfl rfl rfl rfl ?_
            first | (refine lyes rfl rfl rfl rfl ?_; refine gstepB rfl rfl (run_move (.tmp rfl)) ?_) | refine lskip rfl rfl rfl rfl rfl rfl rfl ?_
            first | (refine lyes rfl rfl rfl rfl ?_; refine gstepB rfl rfl (run_fieldAddr (.tmp rfl) fa28_1 (by first | exact Nat.zero_add _ | exact rfl)) ?_) | refine lskip rfl rfl rfl rfl rfl rfl rfl ?_
            first | (refine lyes rfl rfl rfl rfl ?_; refine gstepB rfl rfl (run_load1 (.tmp rfl) kd3 (by repeat (first | exact List.Mem.head _ | apply List.Mem.tail)) (by exact rfl)) ?_) | refine lskip rfl rfl rfl rfl rfl rfl rfl ?_
            first | (refine lyes rfl rfl rfl rfl ?_; refine gstepB rfl rfl (run_fieldAddr (.tmp rfl) fa28_1 (by first | exact Nat.zero_add _ | exact rfl)) ?_) | refine lskip rfl rfl rfl rfl rfl rfl rfl ?_
            first | (refine lyes rfl rfl rfl rfl ?_; refine gstepB rfl rfl (run_load1 (.tmp rfl) kd3 (by repeat (first | exact List.Mem.head _ | apply List.Mem.tail)) (by exact rfl)) ?_) | refine lskip rfl rfl rfl rfl rfl rfl rfl ?_
            first | (refine lyes rfl rfl rfl rfl ?_; refine gstepB rfl rfl (run_sub (.tmp rfl) (.tmp rfl) (by first | exact IntWalk.i64_in _ (by omega) | exact rfl)) ?_) | refine lskip rfl rfl rfl rfl rfl rfl rfl ?_
            first | (refine lyes rfl rfl rfl rfl ?_; refine gstepB rfl rfl (run_fieldAddr (.tmp rfl) fa24_1 (by first | exact Nat.zero_add _ | exact rfl)) ?_) | refine lskip rfl rfl rfl rfl rfl rfl rfl ?_
            first | (refine lyes rfl rfl rfl rfl ?_; refine gstepB rfl rfl (run_load1 (.tmp rfl) kd3 (by repeat (first | exact List.Mem.head _ | apply List.Mem.tail)) (by exact rfl)) ?_) | refine lskip rfl rfl rfl rfl rfl rfl rfl ?_
            first | (refine lyes rfl rfl rfl rfl ?_; refine gstepB rfl rfl (run_gtr (.tmp rfl) (.tmp rfl) (by first | exact decide_eq_true (by omega) | exact decide_eq_false (by omega) | exact rfl)) ?_) | refine lskip rfl rfl rfl rfl rfl rfl rfl ?_
            first | (refine lyes rfl rfl rfl rfl ?_; refine gstepB rfl rfl (by first | exact run_pick_true (.tmp rfl) .const | exact run_pick_false (.tmp rfl) (.tmp rfl)) ?_) | refine lskip rfl rfl rfl rfl rfl rfl rfl ?_
            refine lstepB rfl rfl rfl (by first | exact run_pick_true (.tmp rfl) (.tmp rfl) | exact run_pick_false (.tmp rfl) .const) ?_
            refine lnil ?_
            refine xw_then ?_
            refine cw_cond_false (.tmp rfl) ?_
            rcases hcase2 with ⟨e1, e2⟩ | ⟨e1, e2⟩ | ⟨e1, e2⟩
            all_goals try (exfalso; omega)
            all_goals
              refine cw_skip ?_
              refine xw_then ?_
              refine cw_seq ?_
              refine cw_seq ?_
              refine cw_region ?_
              refine lstepB rfl rfl rfl (run_fieldAddr (.tmp rfl) fa28_1 (by first | exact Nat.zero_add _ | exact rfl)) ?_
              refine lstepB rfl rfl rfl (run_load1 (.tmp rfl) kd3 (by repeat (first | exact List.Mem.head _ | apply List.Mem.tail)) (by exact rfl)) ?_
              refine lstepB rfl rfl rfl (run_fieldAddr (.tmp rfl) fa28_0 (by first | exact Nat.zero_add _ | exact rfl)) ?_
              refine lstepB rfl rfl rfl (run_load1 (.tmp rfl) kd3 (by repeat (first | exact List.Mem.head _ | apply List.Mem.tail)) (by exact rfl)) ?_
              refine lstepB rfl rfl rfl (run_sub (.tmp rfl) (.tmp rfl) (by first | exact IntWalk.i64_in _ (by omega) | exact rfl)) ?_
              refine lstepB rfl rfl rfl (run_move (.tmp rfl)) ?_
              refine lstepB rfl rfl rfl (run_gtr (.tmp rfl) (.tmp rfl) (by first | exact decide_eq_true (by omega) | exact decide_eq_false (by omega) | exact rfl)) ?_
              refine lstepB rfl rfl rfl (run_move (.tmp rfl)) ?_
              first | (refine lyes rfl rfl rfl rfl ?_; refine gstepB rfl rfl (run_fieldAddr (.tmp rfl) fa28_1 (by first | exact Nat.zero_add _ | exact rfl)) ?_) | refine lskip rfl rfl rfl rfl rfl rfl rfl ?_
              first | (refine lyes rfl rfl rfl rfl ?_; refine gstepB rfl rfl (run_load1 (.tmp rfl) kd3 (by repeat (first | exact List.Mem.head _ | apply List.Mem.tail)) (by exact rfl)) ?_) | refine lskip rfl rfl rfl rfl rfl rfl rfl ?_
              first | (refine lyes rfl rfl rfl rfl ?_; refine gstepB rfl rfl (run_fieldAddr (.tmp rfl) fa28_0 (by first | exact Nat.zero_add _ | exact rfl)) ?_) | refine lskip rfl rfl rfl rfl rfl rfl rfl ?_
              first | (refine lyes rfl rfl rfl rfl ?_; refine gstepB rfl rfl (run_load1 (.tmp rfl) kd3 (by repeat (first | exact List.Mem.head _ | apply List.Mem.tail)) (by exact rfl)) ?_) | refine lskip rfl rfl rfl rfl rfl rfl rfl ?_
              first | (refine lyes rfl rfl rfl rfl ?_; refine gstepB rfl rfl (run_sub (.tmp rfl) (.tmp rfl) (by first | exact IntWalk.i64_in _ (by omega) | exact rfl)) ?_) | refine lskip rfl rfl rfl rfl rfl rfl rfl ?_
              first | (refine lyes rfl rfl rfl rfl ?_; refine gstepB rfl rfl (run_move (.tmp rfl)) ?_) | refine lskip rfl rfl rfl rfl rfl rfl rfl ?_
              first | (refine lyes rfl rfl rfl rfl ?_; refine gstepB rfl rfl (run_eql (.tmp rfl) (.tmp rfl) (by first | exact decide_eq_true (by omega) | exact decide_eq_false (by omega) | exact rfl)) ?_) | refine lskip rfl rfl rfl rfl rfl rfl rfl ?_
              first | (refine lyes rfl rfl rfl rfl ?_; refine gstepB rfl rfl (run_move (.tmp rfl)) ?_) | refine lskip rfl rfl rfl rfl rfl rfl rfl ?_
              first | (refine lyes rfl rfl rfl rfl ?_; refine gstepB rfl rfl (run_move (.tmp rfl)) ?_) | refine lskip rfl rfl rfl rfl rfl rfl rfl ?_
              first | (refine lyes rfl rfl rfl rfl ?_; refine gstepB rfl rfl (run_move (.tmp rfl)) ?_) | refine lskip rfl rfl rfl rfl rfl rfl rfl ?_
              first | (refine lyes rfl rfl rfl rfl ?_; refine gstepB rfl rfl (run_lss (.tmp rfl) (.tmp rfl) (by first | exact decide_eq_true (by omega) | exact decide_eq_false (by omega) | exact rfl)) ?_) | refine lskip rfl rfl rfl rfl rfl rfl rfl ?_
              first | (refine lyes rfl rfl rfl rfl ?_; refine gstepB rfl rfl (by first | exact run_pick_true (.tmp rfl) (.tmp rfl) | exact run_pick_false (.tmp rfl) .const) ?_) | refine lskip rfl rfl rfl rfl rfl rfl rfl ?_
              refine lstepB rfl rfl rfl (by first | exact run_pick_true (.tmp rfl) .const | exact run_pick_false (.tmp rfl) (.tmp rfl)) ?_
              refine lstepB rfl rfl rfl (run_move (.tmp rfl)) ?_
              first | (refine lyes rfl rfl rfl rfl ?_; refine gstepB rfl rfl (run_move (.tmp rfl)) ?_) | refine lskip rfl rfl rfl rfl rfl rfl rfl ?_
              first | (refine lyes rfl rfl rfl rfl ?_; refine gstepB rfl rfl (run_move (.tmp rfl)) ?_) | refine lskip rfl rfl rfl rfl rfl rfl rfl ?_
              first | (refine lyes rfl rfl rfl rfl ?_; refine gstepB rfl rfl (run_eql (.tmp rfl) (.tmp rfl) (by first | exact decide_eq_true (by omega) | exact decide_eq_false (by omega) | exact rfl)) ?_) | refine lskip rfl rfl rfl rfl rfl rfl rfl ?_
              first | (refine lyes rfl rfl rfl rfl ?_; refine gstepB rfl rfl (run_move (.tmp rfl)) ?_) | refine lskip rfl rfl rfl rfl rfl rfl rfl ?_
              first | (refine lyes rfl rfl rfl rfl ?_; refine gstepB rfl rfl (run_fieldAddr (.tmp rfl) fa28_1 (by first | exact Nat.zero_add _ | exact rfl)) ?_) | refine lskip rfl rfl rfl rfl rfl rfl rfl ?_
              first | (refine lyes rfl rfl rfl rfl ?_; refine gstepB rfl rfl (run_load1 (.tmp rfl) kd3 (by repeat (first | exact List.Mem.head _ | apply List.Mem.tail)) (by exact rfl)) ?_) | refine lskip rfl rfl rfl rfl rfl rfl rfl ?_
              first | (refine lyes rfl rfl rfl rfl ?_; refine gstepB rfl rfl (run_fieldAddr (.tmp rfl) fa28_0 (by first | exact Nat.zero_add _ | exact rfl)) ?_) | refine lskip rfl rfl rfl rfl rfl rfl rfl ?_
              first | (refine lyes rfl rfl rfl rfl ?_; refine gstepB rfl rfl (run_load1 (.tmp rfl) kd3 (by repeat (first | exact List.Mem.head _ | apply List.Mem.tail)) (by exact rfl)) ?_) | refine lskip rfl rfl rfl rfl rfl rfl rfl ?_
              first | (refine lyes rfl rfl rfl rfl ?_; refine gstepB rfl rfl (run_sub (.tmp rfl) (.tmp rfl) (by first | exact IntWalk.i64_in _ (by omega) | exact rfl)) ?_) | refine lskip rfl rfl rfl rfl rfl rfl rfl ?_
              first | (refine lyes rfl rfl rfl rfl ?_; refine gstepB rfl rfl (run_move (.tmp rfl)) ?_) | refine lskip rfl rfl rfl rfl rfl rfl rfl ?_
              first | (refine lyes rfl rfl rfl rfl ?_; refine gstepB rfl rfl (run_neq (.tmp rfl) (.tmp rfl) (by first | exact decide_eq_true (by omega) | exact decide_eq_false (by omega) | exact rfl)) ?_) | refine lskip rfl rfl rfl rfl rfl rfl rfl ?_
              first | (refine lyes rfl rfl rfl rfl ?_; refine gstepB rfl rfl (by first | exact run_pick_true (.tmp rfl) (.tmp rfl) | exact run_pick_false (.tmp rfl) .const) ?_) | refine lskip rfl rfl rfl rfl rfl rfl rfl ?_
              refine lstepB rfl rfl rfl (by first | exact run_pick_true (.tmp rfl) .const | exact run_pick_false (.tmp rfl) (.tmp rfl)) ?_
              refine lnil ?_
              refine xw_then ?_
              refine cw_cond_false (.tmp rfl) ?_
              refine cw_skip ?_
              refine xw_then ?_
              refine cw_region ?_
              refine lstepB rfl rfl rfl (run_loadN (.tmp rfl) kd28 sz28 (by repeat (first | exact List.Mem.head _ | apply List.Mem.tail)) (by repeat (first | exact Sub.done | apply Sub.take | apply Sub.skip))) ?_
              refine lstep0 rfl rfl (run_storeN (.tmp rfl) (.tmp rfl) rfl sz28 rfl (by repeat (first | exact Upd.here | apply Upd.there)) (by repeat (first | exact Put.done | apply Put.put | apply Put.skip))) ?_
              refine lnil ?_
              refine xw_in ?_
              refine xw_then ?_
              refine cw_region ?_
              refine lstepB rfl rfl rfl (run_add (.tmp rfl) .const (by first | exact IntWalk.i64_in _ (by omega) | exact rfl)) ?_
              refine lstepB rfl rfl rfl (run_move (.tmp rfl)) ?_
              refine lnil ?_
              exact xw_round (k + 1) (by omega) (by omega) (by repeat (first | exact Less.nil | refine Less.cons rfl ?_)) (by repeat (first | exact Pick.nil | (apply Pick.cons; focus (repeat (first | exact Del.here | apply Del.there)))))
        ·
          obtain hk2 : (k : Int) = g.long + 1 := by omega
          refine cw_exit ?_
          refine xw_then_exit ?_
          refine xw_then_exit ?_
          refine xw_in_exit ?_
          refine xw_then ?_
          refine cw_seq ?_
          refine cw_region ?_
          refine lstepB rfl rfl rfl (run_move (.tmp rfl)) ?_
          refine lstepB rfl rfl rfl (run_geq (.tmp rfl) .const (by first | exact decide_eq_true (by omega) | exact decide_eq_false (by omega) | exact rfl)) ?_
          refine lstepB rfl rfl rfl (run_move (.tmp rfl)) ?_
          refine lyes rfl rfl rfl rfl ?_
          refine gstepB rfl rfl (run_move (.tmp rfl)) ?_
          refine lyes rfl rfl rfl rfl ?_
          refine gstepB rfl rfl (run_move (.tmp rfl)) ?_
          refine lyes rfl rfl rfl rfl ?_
          refine gstepB rfl rfl (run_lss (.tmp rfl) (.tmp rfl) (by first | exact decide_eq_true (by omega) | exact decide_eq_false (by omega) | exact rfl)) ?_
          refine lstepB rfl rfl rfl (by first | exact run_pick_true (.tmp rfl) (.tmp rfl) | exact run_pick_false (.tmp rfl) .const) ?_
          refine lstepB rfl rfl rfl (run_move (.tmp rfl)) ?_
          refine lyes rfl rfl rfl rfl ?_
          refine gstepB rfl rfl (run_call1 cb12 .nil (fun w _ => awakeK w)) ?_
          refine lstepB rfl rfl rfl (by first | exact run_pick_true (.tmp rfl) (.tmp rfl) | exact run_pick_false (.tmp rfl) .const) ?_
          refine lstepB rfl rfl rfl (run_assign (.tmp rfl)) ?_
          refine lnil ?_
          refine xw_then ?_
          refine cw_ret ?_
          refine xw_ret1 Try.results8 rfl (fun w hS => ⟨rfl, hS.kept⟩)
      ·
        obtain rfl : b = c := by omega
        refine cw_skip ?_
        refine xw_then ?_
        refine cw_seq ?_
        refine cw_seq ?_
        refine cw_chain2 (σ := [0, 1, 2, 3, 4, 5, 6, 7, 8, 9, 10, 11, 12]) [⟨0, [2], [], [], 0⟩, ⟨0, [], [], [], 0⟩, ⟨0, [1], [], [], 2⟩, ⟨0, [], [], [], 0⟩, ⟨0, [0], [], [], 8⟩, ⟨0, [], [], [], 30⟩, ⟨0, [], [], [], 0⟩, ⟨0, [1], [], [], 64⟩, ⟨0, [], [], [], 0⟩, ⟨0, [0], [], [], 256⟩, ⟨0, [], [], [], 960⟩, ⟨0, [], [], [], 2046⟩, ⟨0, [], [], [], 4095⟩] [(0, _), (1, _), (2, _), (3, _)] (by kernel_rfl) (by kernel_rfl) rfl ?_
        refine .det (B := []) rfl rfl (.inl rfl) (.cons rfl .nil) .nil rfl (RunB.lr (run_loadN (.tmp rfl) kd28 sz28 (by repeat (first | exact List.Mem.head _ | apply List.Mem.tail)) (by repeat (first | exact Sub.done | apply Sub.take | apply Sub.skip)))) ?_
        refine .det (B := []) rfl rfl (.inl rfl) .nil .nil rfl (RunB.lr (run_fieldAddr (.tmp rfl) fa28_0 (by first | exact Nat.zero_add _ | exact rfl))) ?_
        refine .det (B := []) rfl rfl (.inl rfl) (.cons rfl .nil) .nil rfl (RunB.lr (run_load1 (.tmp rfl) kd3 (by repeat (first | exact List.Mem.head _ | apply List.Mem.tail)) (by exact rfl))) ?_
        refine .det (B := []) rfl rfl (.inl rfl) .nil .nil rfl (RunB.lr (run_fieldAddr (.tmp rfl) fa28_0 (by first | exact Nat.zero_add _ | exact rfl))) ?_
        refine .det (B := []) rfl rfl (.inl rfl) (.cons rfl .nil) .nil rfl (RunB.lr (run_load1 (.tmp rfl) kd3 (by repeat (first | exact List.Mem.head _ | apply List.Mem.tail)) (by exact rfl))) ?_
        refine .det (B := []) rfl rfl (.inl rfl) .nil .nil rfl (RunB.lr (run_add (.tmp rfl) (.tmp rfl) (by first | exact IntWalk.i64_in _ (by omega) | exact rfl))) ?_
        refine .det (B := []) rfl rfl (.inl rfl) .nil .nil rfl (RunB.lr (run_fieldAddr (.tmp rfl) fa28_1 (by first | exact Nat.zero_add _ | exact rfl))) ?_
        refine .det (B := []) rfl rfl (.inl rfl) (.cons rfl .nil) .nil rfl (RunB.lr (run_load1 (.tmp rfl) kd3 (by repeat (first | exact List.Mem.head _ | apply List.Mem.tail)) (by exact rfl))) ?_
        refine .det (B := []) rfl rfl (.inl rfl) .nil .nil rfl (RunB.lr (run_fieldAddr (.tmp rfl) fa28_1 (by first | exact Nat.zero_add _ | exact rfl))) ?_
        refine .det (B := []) rfl rfl (.inl rfl) (.cons rfl .nil) .nil rfl (RunB.lr (run_load1 (.tmp rfl) kd3 (by repeat (first | exact List.Mem.head _ | apply List.Mem.tail)) (by exact rfl))) ?_
        refine .det (B := []) rfl rfl (.inl rfl) .nil .nil rfl (RunB.lr (run_add (.tmp rfl) (.tmp rfl) (by first | exact IntWalk.i64_in _ (by omega) | exact rfl))) ?_
        refine .det (B := []) rfl rfl (.inl rfl) .nil .nil rfl (RunB.lr (run_call1 cb31 (.cons (.tmp rfl) (.cons (.tmp rfl) .nil)) (fun w _ => spanLK _ _ w))) ?_
        refine .det (B := []) rfl rfl (.inl rfl) .nil .nil rfl (RunB.lr (run_eql_agg (.tmp rfl) (.tmp rfl) eg28 (neq28 (r := false) (by simp)))) ?_
        refine chain_nil (ts := [0, 1, 2, 3]) (.cons rfl (.cons rfl (.cons rfl (.cons rfl .nil)))) (by decide) ?_
        refine xw_then ?_
        refine cw_cond_false (.tmp rfl) ?_
        refine cw_skip ?_
        refine xw_then ?_
        refine cw_seq ?_
        refine cw_seq ?_
        refine cw_region ?_
        refine lstepB rfl rfl rfl (run_loadN (.tmp rfl) kd24 sz24 (by repeat (first | exact List.Mem.head _ | apply List.Mem.tail)) (by repeat (first | exact Sub.done | apply Sub.take | apply Sub.skip))) ?_
        refine lstepB rfl rfl rfl (run_move (.tmp rfl)) ?_
        refine lstepB rfl rfl rfl (run_add (.tmp rfl) .const (by first | exact IntWalk.i64_in _ (by omega) | exact rfl)) ?_
        refine lstepB rfl rfl rfl (run_move (.tmp rfl)) ?_
        refine lstepB rfl rfl rfl (run_call1 cb19 (.cons (.tmp rfl) (.cons (.tmp rfl) (.cons (.tmp rfl) .nil))) (fun w hS => work_back hv hm2 (hp.kept hS.kept))) ?_
        refine lstepB rfl rfl rfl (run_move (.tmp rfl)) ?_
        refine lstepB rfl rfl rfl (run_extract (.tmp rfl) rfl) ?_
        refine lstepB rfl rfl rfl (run_extract (.tmp rfl) rfl) ?_
        refine lstep rfl rfl rfl (run_alloc zr28) ?_
        intro b25 _
        refine lstep0 rfl rfl (run_storeN (.tmp rfl) (.tmp rfl) rfl sz28 rfl (by repeat (first | exact Upd.here | apply Upd.there)) (by repeat (first | exact Put.done | apply Put.put | apply Put.skip))) ?_
        refine lstepB rfl rfl rfl (run_assign (.tmp rfl)) ?_
        refine lnil ?_
        refine xw_then ?_
        refine cw_seq ?_
        refine cw_region ?_
        refine lstepB rfl rfl rfl (run_move (.tmp rfl)) ?_
        refine lstepB rfl rfl rfl (run_neq (.tmp rfl) .const (by first | exact decide_eq_true (by omega) | exact decide_eq_false (by omega) | exact rfl)) ?_
        refine lnil ?_
        refine xw_then ?_
        refine cw_cond_false (.tmp rfl) ?_
        refine cw_skip ?_
        refine xw_then ?_
        refine cw_seq ?_
        refine cw_region ?_
        refine lstepB rfl rfl rfl (run_loadN (.tmp rfl) kd24 sz24 (by repeat (first | exact List.Mem.head _ | apply List.Mem.tail)) (by repeat (first | exact Sub.done | apply Sub.take | apply Sub.skip))) ?_
        refine lstepB rfl rfl rfl (run_call1 cb23 (.cons (.tmp rfl) .nil) (fun w hS => by have := dig_ok (pc := pc) hv hm2 (hp.kept hS.kept) ho; rw [hW] at this; dsimp only at this; exact this)) ?_
        refine lstepB rfl rfl rfl (run_move (.tmp rfl)) ?_
        refine lstepB rfl rfl rfl (run_extract (.tmp rfl) rfl) ?_
        refine lstepB rfl rfl rfl (run_extract (.tmp rfl) rfl) ?_
        refine lstepB rfl rfl rfl (run_extract (.tmp rfl) rfl) ?_
        refine lstepB rfl rfl rfl (run_assign (.tmp rfl)) ?_
        refine lstepB rfl rfl rfl (run_assign (.tmp rfl)) ?_
        refine lstepB rfl rfl rfl (run_assign (.tmp rfl)) ?_
        refine lnil ?_
        refine xw_then ?_
        refine cw_seq ?_
        refine cw_seq ?_
        refine cw_region ?_
        refine lstepB rfl rfl rfl (run_move (.tmp rfl)) ?_
        refine lstepB rfl rfl rfl (run_neq (.tmp rfl) .const (by first | exact decide_eq_true (by omega) | exact decide_eq_false (by omega) | exact rfl)) ?_
        refine lnil ?_
        refine xw_then ?_
        refine cw_cond_false (.tmp rfl) ?_
        refine cw_skip ?_
        refine xw_then ?_
        refine cw_seq ?_
        refine cw_region ?_
        refine lstepB rfl rfl rfl (run_build_at .nil (fun w => bd28_ w)) ?_
        refine lstep rfl rfl rfl (run_alloc zr28) ?_
        intro b30 _
        refine lstep0 rfl rfl (run_storeN (.tmp rfl) (.tmp rfl) rfl sz28 rfl (by repeat (first | exact Upd.here | apply Upd.there)) (by repeat (first | exact Put.done | apply Put.put | apply Put.skip))) ?_
        refine lnil ?_
        refine xw_then ?_
        refine cw_seq ?_
        refine cw_seq ?_
        refine cw_region ?_
        refine lstepB rfl rfl rfl (run_move (.tmp rfl)) ?_
        refine lstepB rfl rfl rfl (run_move .const) ?_
        refine lnil ?_
        refine xw_then ?_
        refine cw_block ?_
        refine cw_loop (S := Nat) (fun k => [(182, .int .i64 (k : Int))]) [(4, _), (8, _), (9, _), (27, _), (28, _), (30, _), (181, _)] (fun k => [(b30, Obj.cells [.int .i64 (befS g k).lo, .int .i64 (befS g k).hi].toArray 28 (0, 0)), (b4, Obj.cells [.int .i64 g.long, .int .i64 g.rise, .int .i64 g.change, .slice pa g.pits.length pc].toArray 24 (0, 0))]) (fun k => (k : Int) ≤ g.long + 1) (fun k => (g.long + 1).toNat - k) 0 (by omega) (by repeat (first | exact Less.nil | refine Less.cons rfl ?_)) (by repeat (first | exact Pick.nil | (apply Pick.cons; focus (repeat (first | exact Del.here | apply Del.there))))) ?_
        intro k hk
        refine cw_seq ?_
        refine cw_region ?_
        refine lstepB rfl rfl rfl (run_lss (.tmp rfl) (.tmp rfl) (by first | exact decide_eq_true (by omega) | exact decide_eq_false (by omega) | exact rfl)) ?_
        refine lnil ?_
        refine xw_then ?_
        refine cw_seq ?_
        refine cw_cond_p (.tmp rfl) (fun hl => ?_) (fun hl => ?_)
        ·
          have k1 : (k : Int) ≤ g.long := by omega
          have k0 : 0 ≤ (k : Int) := by omega
          have hb1 := hardC_bound hg ho k0 k1
          have hw2 := hwid (k : Int) k0 k1
          refine cw_skip ?_
          refine xw_then ?_
          refine cw_seq ?_
          refine cw_block ?_
          refine cw_seq ?_
          refine cw_region ?_
          refine lstepB rfl rfl rfl (run_move (.tmp rfl)) ?_
          refine lstepB rfl rfl rfl (run_assign (.tmp rfl)) ?_
          refine lnil ?_
          refine xw_then ?_
          refine cw_seq ?_
          refine cw_region ?_
          refine lstepB rfl rfl rfl (run_loadN (.tmp rfl) kd24 sz24 (by repeat (first | exact List.Mem.head _ | apply List.Mem.tail)) (by repeat (first | exact Sub.done | apply Sub.take | apply Sub.skip))) ?_
          refine lstepB rfl rfl rfl (run_move (.tmp rfl)) ?_
          refine lstepB rfl rfl rfl (run_call1 cb13 (.cons (.tmp rfl) (.cons (.tmp rfl) .nil)) (fun w hS => hard_ok hv hm2 (hp.kept hS.kept) ho k0 k1)) ?_
          refine lstepB rfl rfl rfl (run_move (.tmp rfl)) ?_
          refine lstepB rfl rfl rfl (run_extract (.tmp rfl) rfl) ?_
          refine lstepB rfl rfl rfl (run_extract (.tmp rfl) rfl) ?_
          refine lstep rfl rfl rfl (run_alloc zr28) ?_
          intro b32 _
          refine lstep0 rfl rfl (run_storeN (.tmp rfl) (.tmp rfl) rfl sz28 rfl (by repeat (first | exact Upd.here | apply Upd.there)) (by repeat (first | exact Put.done | apply Put.put | apply Put.skip))) ?_
          refine lstepB rfl rfl rfl (run_assign (.tmp rfl)) ?_
          refine lnil ?_
          refine xw_then ?_
          refine cw_seq ?_
          refine cw_region ?_
          refine lstepB rfl rfl rfl (run_loadN (.tmp rfl) kd24 sz24 (by repeat (first | exact List.Mem.head _ | apply List.Mem.tail)) (by repeat (first | exact Sub.done | apply Sub.take | apply Sub.skip))) ?_
          refine lstepB rfl rfl rfl (run_move (.tmp rfl)) ?_
          refine lstepB rfl rfl rfl (run_move (.tmp rfl)) ?_
          refine lstepB rfl rfl rfl (run_call1 cb19 (.cons (.tmp rfl) (.cons (.tmp rfl) (.cons (.tmp rfl) .nil))) (fun w hS => by have := work_ok (pc := pc) hv hm2 (hp.kept hS.kept) ho k0 (Int.le_refl _) k1; rw [sumR_one k0 k1] at this; exact this)) ?_
          refine lstepB rfl rfl rfl (run_move (.tmp rfl)) ?_
          refine lstepB rfl rfl rfl (run_extract (.tmp rfl) rfl) ?_
          refine lstepB rfl rfl rfl (run_extract (.tmp rfl) rfl) ?_
          refine lstep rfl rfl rfl (run_alloc zr28) ?_
          intro b34 _
          refine lstep0 rfl rfl (run_storeN (.tmp rfl) (.tmp rfl) rfl sz28 rfl (by repeat (first | exact Upd.here | apply Upd.there)) (by repeat (first | exact Put.done | apply Put.put | apply Put.skip))) ?_
          refine lstepB rfl rfl rfl (run_assign (.tmp rfl)) ?_
          refine lnil ?_
          refine xw_then ?_
          refine cw_seq ?_
          refine cw_seq ?_
          refine cw_region ?_
          refine lstepB rfl rfl rfl (run_move (.tmp rfl)) ?_
          refine lstepB rfl rfl rfl (run_neq (.tmp rfl) .const (by first | exact decide_eq_true (by omega) | exact decide_eq_false (by omega) | exact rfl)) ?_
          refine lstepB rfl rfl rfl (run_move (.tmp rfl)) ?_
          first | (refine lyes rfl rfl rfl rfl ?_; refine gstepB rfl rfl (run_move (.tmp rfl)) ?_) | refine lskip rfl rfl rfl rfl rfl rfl rfl ?_
          first | (refine lyes rfl rfl rfl rfl ?_; refine gstepB rfl rfl (run_neq (.tmp rfl) .const (by first | exact decide_eq_true (by omega) | exact decide_eq_false (by omega) | exact rfl)) ?_) | refine lskip rfl rfl rfl rfl rfl rfl rfl ?_
          refine lstepB rfl rfl rfl (by first | exact run_pick_true (.tmp rfl) .const | exact run_pick_false (.tmp rfl) (.tmp rfl)) ?_
          refine lstepB rfl rfl rfl (run_move (.tmp rfl)) ?_
          first | (refine lyes rfl rfl rfl rfl ?_; refine gstepB rfl rfl (run_loadN (.tmp rfl) kd28 sz28 (by repeat (first | exact List.Mem.head _ | apply List.Mem.tail)) (by repeat (first | exact Sub.done | apply Sub.take | apply Sub.skip))) ?_) | refine lskip rfl rfl rfl rfl rfl rfl rfl ?_
          first | (refine lyes rfl rfl rfl rfl ?_; refine gstepB rfl rfl (run_loadN (.tmp rfl) kd28 sz28 (by repeat (first | exact List.Mem.head _ | apply List.Mem.tail)) (by repeat (first | exact Sub.done | apply Sub.take | apply Sub.skip))) ?_) | refine lskip rfl rfl rfl rfl rfl rfl rfl ?_
          first | (refine lyes rfl rfl rfl rfl ?_; refine gstepB rfl rfl (run_eql_agg (.tmp rfl) (.tmp rfl) eg28 (neq28 (r := false) (by simp))) ?_) | refine lskip rfl rfl rfl rfl rfl rfl rfl ?_
          refine lstepB rfl rfl rfl (by first | exact run_pick_true (.tmp rfl) .const | exact run_pick_false (.tmp rfl) (.tmp rfl)) ?_
          refine lstepB rfl rfl rfl (run_move (.tmp rfl)) ?_
          first | (refine lyes rfl rfl rfl rfl ?_; refine gstepB rfl rfl (run_fieldAddr (.tmp rfl) fa28_0 (by first | exact Nat.zero_add _ | exact rfl)) ?_) | refine lskip rfl rfl rfl rfl rfl rfl rfl ?_
          first | (refine lyes rfl rfl rfl rfl ?_; refine gstepB rfl rfl (run_load1 (.tmp rfl) kd3 (by repeat (first | exact List.Mem.head _ | apply List.Mem.tail)) (by exact rfl)) ?_) | refine lskip rfl rfl rfl rfl rfl rfl rfl ?_
          first | (refine lyes rfl rfl rfl rfl ?_; refine gstepB rfl rfl (run_lss (.tmp rfl) .const (by first | exact decide_eq_true (by omega) | exact decide_eq_false (by omega) | exact rfl)) ?_) | refine lskip rfl rfl rfl rfl rfl rfl rfl ?_
          refine lstepB rfl rfl rfl (by first | exact run_pick_true (.tmp rfl) .const | exact run_pick_false (.tmp rfl) (.tmp rfl)) ?_
          refine lstepB rfl rfl rfl (run_move (.tmp rfl)) ?_
          first | (refine lyes rfl rfl rfl rfl ?_; refine gstepB rfl rfl (run_fieldAddr (.tmp rfl) fa28_1 (by first | exact Nat.zero_add _ | exact rfl)) ?_) | refine lskip rfl rfl rfl rfl rfl rfl rfl ?_
          first | (refine lyes rfl rfl rfl rfl ?_; refine gstepB rfl rfl (run_load1 (.tmp rfl) kd3 (by repeat (first | exact List.Mem.head _ | apply List.Mem.tail)) (by exact rfl)) ?_) | refine lskip rfl rfl rfl rfl rfl rfl rfl ?_
          first | (refine lyes rfl rfl rfl rfl ?_; refine gstepB rfl rfl (run_gtr (.tmp rfl) .const (by first | exact decide_eq_true (by omega) | exact decide_eq_false (by omega) | exact rfl)) ?_) | refine lskip rfl rfl rfl rfl rfl rfl rfl ?_
          refine lstepB rfl rfl rfl (by first | exact run_pick_true (.tmp rfl) .const | exact run_pick_false (.tmp rfl) (.tmp rfl)) ?_
          refine lstepB rfl rfl rfl (run_move (.tmp rfl)) ?_
          first | (refine lyes rfl rfl rfl rfl ?_; refine gstepB rfl rfl (run_fieldAddr (.tmp rfl) fa28_0 (by first | exact Nat.zero_add _ | exact rfl)) ?_) | refine lskip rfl rfl rfl rfl rfl rfl rfl ?_
          first | (refine lyes rfl rfl rfl rfl ?_; refine gstepB rfl rfl (run_load1 (.tmp rfl) kd3 (by repeat (first | exact List.Mem.head _ | apply List.Mem.tail)) (by exact rfl)) ?_) | refine lskip rfl rfl rfl rfl rfl rfl rfl ?_
          first | (refine lyes rfl rfl rfl rfl ?_; refine gstepB rfl rfl (run_fieldAddr (.tmp rfl) fa28_1 (by first | exact Nat.zero_add _ | exact rfl)) ?_) | refine lskip rfl rfl rfl rfl rfl rfl rfl ?_
          first | (refine lyes rfl rfl rfl rfl ?_; refine gstepB rfl rfl (run_load1 (.tmp rfl) kd3 (by repeat (first | exact List.Mem.head _ | apply List.Mem.tail)) (by exact rfl)) ?_) | refine lskip rfl rfl rfl rfl rfl rfl rfl ?_
          first | (refine lyes rfl rfl rfl rfl ?_; refine gstepB rfl rfl (run_gtr (.tmp rfl) (.tmp rfl) (by first | exact decide_eq_true (by omega) | exact decide_eq_false (by omega) | exact rfl)) ?_) | refine lskip rfl rfl rfl rfl rfl rfl rfl ?_
          refine lstepB rfl rfl rfl (by first | exact run_pick_true (.tmp rfl) .const | exact run_pick_false (.tmp rfl) (.tmp rfl)) ?_
          refine lnil ?_
          refine xw_then ?_
          refine cw_cond_false (.tmp rfl) ?_
          have hnear : 0 < k → (befS g k).lo - (hardC g (k : Int)).lo ≤ g.rise ∧ (hardC g (k : Int)).lo - (befS g k).lo ≤ g.rise ∧ (befS g k).hi - (hardC g (k : Int)).hi ≤ g.rise ∧ (hardC g (k : Int)).hi - (befS g k).hi ≤ g.rise ∧ 0 ≤ (befS g k).lo ∧ (befS g k).lo ≤ (befS g k).hi ∧ (befS g k).hi ≤ 1000 := fun hk0 => by
            rw [befS_pos hk0]
            have q1 := hardC_near hg (k := (k : Int)) (m := (k : Int) - 1) (by omega) (by omega) (by omega) (by omega)
            have q2 := hardC_near hg (k := (k : Int) - 1) (m := (k : Int)) (by omega) (by omega) (by omega) (by omega)
            have q3 := hardC_bound hg ho (k := (k : Int) - 1) (by omega) (by omega)
            omega
          have hcase : (k = 0 ∨ 0 < k ∧ ((befS g k).lo - (hardC g (k : Int)).lo ≤ g.rise ∧ (hardC g (k : Int)).lo - (befS g k).lo ≤ g.rise ∧ (befS g k).hi - (hardC g (k : Int)).hi ≤ g.rise ∧ (hardC g (k : Int)).hi - (befS g k).hi ≤ g.rise ∧ 0 ≤ (befS g k).lo ∧ (befS g k).lo ≤ (befS g k).hi ∧ (befS g k).hi ≤ 1000)) := by
            rcases Nat.eq_zero_or_pos k with h | h
            · exact .inl h
            · exact .inr ⟨h, hnear h⟩
          have hcase2 : ((hardC g (k : Int)).hi - (hardC g (k : Int)).lo = W2 ∧ W1 = (k : Int)) ∨ ((hardC g (k : Int)).hi - (hardC g (k : Int)).lo = W2 ∧ W1 < (k : Int)) ∨ ((hardC g (k : Int)).hi - (hardC g (k : Int)).lo < W2 ∧ W1 ≠ (k : Int)) := by
            by_cases e1 : (hardC g (k : Int)).hi - (hardC g (k : Int)).lo = W2
            · have := hw2.2.1 e1; omega
            · refine .inr (.inr ⟨by omega, fun e => e1 (hw2.2.2 e.symm)⟩)
          clear hnear hwid
          rcases hcase with hk0 | ⟨hk0, hnear⟩
          all_goals
            refine cw_skip ?_
            refine xw_then ?_
            refine cw_seq ?_
            refine cw_seq ?_
            refine cw_region ?_
            refine lstepB rfl rfl rfl (run_move (.tmp rfl)) ?_
            refine lstepB rfl rfl rfl (run_gtr (.tmp rfl) .const (by first | exact decide_eq_true (by omega) | exact decide_eq_false (by omega) | exact rfl)) ?_
            refine lstepB rfl rfl rfl (run_move (.tmp rfl)) ?_
            first | (refine lyes rfl rfl rfl rfl ?_; refine gstepB rfl rfl (run_fieldAddr (.tmp rfl) fa28_0 (by first | exact Nat.zero_add _ | exact rfl)) ?_) | refine lskip rfl rfl rfl rfl rfl rfl rfl ?_
            first | (refine lyes rfl rfl rfl rfl ?_; refine gstepB rfl rfl (run_load1 (.tmp rfl) kd3 (by repeat (first | exact List.Mem.head _ | apply List.Mem.tail)) (by exact rfl)) ?_) | refine lskip rfl rfl rfl rfl rfl rfl rfl ?_
            first | (refine lyes rfl rfl rfl rfl ?_; refine gstepB rfl rfl (run_fieldAddr (.tmp rfl) fa28_0 (by first | exact Nat.zero_add _ | exact rfl)) ?_) | refine lskip rfl rfl rfl rfl rfl rfl rfl ?_
            first | (refine lyes rfl rfl rfl rfl ?_; refine gstepB rfl rfl (run_load1 (.tmp rfl) kd3 (by repeat (first | exact List.Mem.head _ | apply List.Mem.tail)) (by exact rfl)) ?_) | refine lskip rfl rfl rfl rfl rfl rfl rfl ?_
            first | (refine lyes rfl rfl rfl rfl ?_; refine gstepB rfl rfl (run_sub (.tmp rfl) (.tmp rfl) (by first | exact IntWalk.i64_in _ (by omega) | exact rfl)) ?_) | refine lskip rfl rfl rfl rfl rfl rfl rfl ?_
            first | (refine lyes rfl rfl rfl rfl ?_; refine gstepB rfl rfl (run_fieldAddr (.tmp rfl) fa24_1 (by first | exact Nat.zero_add _ | exact rfl)) ?_) | refine lskip rfl rfl rfl rfl rfl rfl rfl ?_
            first | (refine lyes rfl rfl rfl rfl ?_; refine gstepB rfl rfl (run_load1 (.tmp rfl) kd3 (by repeat (first | exact List.Mem.head _ | apply List.Mem.tail)) (by exact rfl)) ?_) | refine lskip rfl rfl rfl rfl rfl rfl rfl ?_
            first | (refine lyes rfl rfl rfl rfl ?_; refine gstepB rfl rfl (run_gtr (.tmp rfl) (.tmp rfl) (by first | exact decide_eq_true (by omega) | exact decide_eq_false (by omega) | exact rfl)) ?_) | refine lskip rfl rfl rfl rfl rfl rfl rfl ?_
            first | (refine lyes rfl rfl rfl rfl ?_; refine gstepB rfl rfl (run_move (.tmp rfl)) ?_) | refine lskip rfl rfl rfl rfl rfl rfl rfl ?_
            first | (refine lyes rfl rfl rfl rfl ?_; refine gstepB rfl rfl (run_fieldAddr (.tmp rfl) fa28_0 (by first | exact Nat.zero_add _ | exact rfl)) ?_) | refine lskip rfl rfl rfl rfl rfl rfl rfl ?_
            first | (refine lyes rfl rfl rfl rfl ?_; refine gstepB rfl rfl (run_load1 (.tmp rfl) kd3 (by repeat (first | exact List.Mem.head _ | apply List.Mem.tail)) (by exact rfl)) ?_) | refine lskip rfl rfl rfl rfl rfl rfl rfl ?_
            first | (refine lyes rfl rfl rfl rfl ?_; refine gstepB rfl rfl (run_fieldAddr (.tmp rfl) fa28_0 (by first | exact Nat.zero_add _ | exact rfl)) ?_) | refine lskip rfl rfl rfl rfl rfl rfl rfl ?_
            first | (refine lyes rfl rfl rfl rfl ?_; refine gstepB rfl rfl (run_load1 (.tmp rfl) kd3 (by repeat (first | exact List.Mem.head _ | apply List.Mem.tail)) (by exact rfl)) ?_) | refine lskip rfl rfl rfl rfl rfl rfl rfl ?_
            first | (refine lyes rfl rfl rfl rfl ?_; refine gstepB rfl rfl (run_sub (.tmp rfl) (.tmp rfl) (by first | exact IntWalk.i64_in _ (by omega) | exact rfl)) ?_) | refine lskip rfl rfl rfl rfl rfl rfl rfl ?_
            first | (refine lyes rfl rfl rfl rfl ?_; refine gstepB rfl rfl (run_fieldAddr (.tmp rfl) fa24_1 (by first | exact Nat.zero_add _ | exact rfl)) ?_) | refine lskip rfl rfl rfl rfl rfl rfl rfl ?_
            first | (refine lyes rfl rfl rfl rfl ?_; refine gstepB rfl rfl (run_load1 (.tmp rfl) kd3 (by repeat (first | exact List.Mem.head _ | apply List.Mem.tail)) (by exact rfl)) ?_) | refine lskip rfl rfl rfl rfl rfl rfl rfl ?_
            first | (refine lyes rfl rfl rfl rfl ?_; refine gstepB rfl rfl (run_gtr (.tmp rfl) (.tmp rfl) (by first | exact decide_eq_true (by omega) | exact decide_eq_false (by omega) | exact rfl)) ?_) | refine lskip rfl rfl rfl rfl rfl rfl rfl ?_
            first | (refine lyes rfl rfl rfl rfl ?_; refine gstepB rfl rfl (by first | exact run_pick_true (.tmp rfl) .const | exact run_pick_false (.tmp rfl) (.tmp rfl)) ?_) | refine lskip rfl rfl rfl rfl rfl rfl rfl ?_
            first | (refine lyes rfl rfl rfl rfl ?_; refine gstepB rfl rfl (run_move (.tmp rfl)) ?_) | refine lskip rfl rfl rfl rfl rfl rfl rfl ?_
            first | (refine lyes rfl rfl rfl rfl ?_; refine gstepB rfl rfl (run_fieldAddr (.tmp rfl) fa28_1 (by first | exact Nat.zero_add _ | exact rfl)) ?_) | refine lskip rfl rfl rfl rfl rfl rfl rfl ?_
            first | (refine lyes rfl rfl rfl rfl ?_; refine gstepB rfl rfl (run_load1 (.tmp rfl) kd3 (by repeat (first | exact List.Mem.head _ | apply List.Mem.tail)) (by exact rfl)) ?_) | refine lskip rfl rfl rfl rfl rfl rfl rfl ?_
            first | (refine lyes rfl rfl rfl rfl ?_; refine gstepB rfl rfl (run_fieldAddr (.tmp rfl) fa28_1 (by first | exact Nat.zero_add _ | exact rfl)) ?_) | refine lskip rfl rfl rfl rfl rfl rfl rfl ?_
            first | (refine lyes rfl rfl rfl rfl ?_; refine gstepB rfl rfl (run_load1 (.tmp rfl) kd3 (by repeat (first | exact List.Mem.head _ | apply List.Mem.tail)) (by exact rfl)) ?_) | refine lskip rfl rfl rfl rfl rfl rfl rfl ?_
            first | (refine lyes rfl rfl rfl rfl ?_; refine gstepB rfl rfl (run_sub (.tmp rfl) (.tmp rfl) (by first | exact IntWalk.i64_in _ (by omega) | exact rfl)) ?_) | refine lskip rfl rfl rfl rfl rfl rfl rfl ?_
            first | (refine lyes rfl rfl rfl rfl ?_; refine gstepB rfl rfl (run_fieldAddr (.tmp rfl) fa24_1 (by first | exact Nat.zero_add _ | exact rfl)) ?_) | refine lskip rfl rfl rfl rfl rfl rfl rfl ?_
            first | (refine lyes rfl rfl rfl rfl ?_; refine gstepB rfl rfl (run_load1 (.tmp rfl) kd3 (by repeat (first | exact List.Mem.head _ | apply List.Mem.tail)) (by exact rfl)) ?_) | refine lskip rfl rfl rfl rfl rfl rfl rfl ?_
            first | (refine lyes rfl rfl rfl rfl ?_; refine gstepB rfl rfl (run_gtr (.tmp rfl) (.tmp rfl) (by first | exact decide_eq_true (by omega) | exact decide_eq_false (by omega) | exact rfl)) ?_) | refine lskip rfl rfl rfl rfl rfl rfl rfl ?_
            first | (refine lyes rfl rfl rfl rfl ?_; refine gstepB rfl rfl (by first | exact run_pick_true (.tmp rfl) .const | exact run_pick_false (.tmp rfl) (.tmp rfl)) ?_) | refine lskip rfl rfl rfl rfl rfl rfl rfl ?_
            first | (refine lyes rfl rfl rfl rfl ?_; refine gstepB rfl rfl (run_move (.tmp rfl)) ?_) | refine lskip rfl rfl rfl rfl rfl rfl rfl ?_
            first | (refine lyes rfl rfl rfl rfl ?_; refine gstepB rfl rfl (run_fieldAddr (.tmp rfl) fa28_1 (by first | exact Nat.zero_add _ | exact rfl)) ?_) | refine lskip rfl rfl rfl rfl rfl rfl rfl ?_
            first | (refine lyes rfl rfl rfl rfl ?_; refine gstepB rfl rfl (run_load1 (.tmp rfl) kd3 (by repeat (first | exact List.Mem.head _ | apply List.Mem.tail)) (by exact rfl)) ?_) | refine lskip rfl rfl rfl rfl rfl rfl rfl ?_
            first | (refine lyes rfl rfl rfl rfl ?_; refine gstepB rfl rfl (run_fieldAddr (.tmp rfl) fa28_1 (by first | exact Nat.zero_add _ | exact rfl)) ?_) | refine lskip rfl rfl rfl rfl rfl rfl rfl ?_
            first | (refine lyes rfl rfl rfl rfl ?_; refine gstepB rfl rfl (run_load1 (.tmp rfl) kd3 (by repeat (first | exact List.Mem.head _ | apply List.Mem.tail)) (by exact rfl)) ?_) | refine lskip rfl rfl rfl rfl rfl rfl rfl ?_
            first | (refine lyes rfl rfl rfl rfl ?_; refine gstepB rfl rfl (run_sub (.tmp rfl) (.tmp rfl) (by first | exact IntWalk.i64_in _ (by omega) | exact rfl)) ?_) | refine lskip rfl rfl rfl rfl rfl rfl rfl ?_
            first | (refine lyes rfl rfl rfl rfl ?_; refine gstepB rfl rfl (run_fieldAddr (.tmp rfl) fa24_1 (by first | exact Nat.zero_add _ | exact rfl)) ?_) | refine lskip rfl rfl rfl rfl rfl rfl rfl ?_
            first | (refine lyes rfl rfl rfl rfl ?_; refine gstepB rfl rfl (run_load1 (.tmp rfl) kd3 (by repeat (first | exact List.Mem.head _ | apply List.Mem.tail)) (by exact rfl)) ?_) | refine lskip rfl rfl rfl rfl rfl rfl rfl ?_
            first | (refine lyes rfl rfl rfl rfl ?_; refine gstepB rfl rfl (run_gtr (.tmp rfl) (.tmp rfl) (by first | exact decide_eq_true (by omega) | exact decide_eq_false (by omega) | exact rfl)) ?_) | refine lskip rfl rfl rfl rfl rfl rfl rfl ?_
            first | (refine lyes rfl rfl rfl rfl ?_; refine gstepB rfl rfl (by first | exact run_pick_true (.tmp rfl) .const | exact run_pick_false (.tmp rfl) (.tmp rfl)) ?_) | refine lskip rfl rfl rfl rfl rfl rfl rfl ?_
            refine lstepB rfl rfl rfl (by first | exact run_pick_true (.tmp rfl) (.tmp rfl) | exact run_pick_false (.tmp rfl) .const) ?_
            refine lnil ?_
            refine xw_then ?_
            refine cw_cond_false (.tmp rfl) ?_
            rcases hcase2 with ⟨e1, e2⟩ | ⟨e1, e2⟩ | ⟨e1, e2⟩
            all_goals try (exfalso; omega)
            all_goals
              refine cw_skip ?_
              refine xw_then ?_
              refine cw_seq ?_
              refine cw_seq ?_
              refine cw_region ?_
              refine lstepB rfl rfl rfl (run_fieldAddr (.tmp rfl) fa28_1 (by first | exact Nat.zero_add _ | exact rfl)) ?_
              refine lstepB rfl rfl rfl (run_load1 (.tmp rfl) kd3 (by repeat (first | exact List.Mem.head _ | apply List.Mem.tail)) (by exact rfl)) ?_
              refine lstepB rfl rfl rfl (run_fieldAddr (.tmp rfl) fa28_0 (by first | exact Nat.zero_add _ | exact rfl)) ?_
              refine lstepB rfl rfl rfl (run_load1 (.tmp rfl) kd3 (by repeat (first | exact List.Mem.head _ | apply List.Mem.tail)) (by exact rfl)) ?_
              refine lstepB rfl rfl rfl (run_sub (.tmp rfl) (.tmp rfl) (by first | exact IntWalk.i64_in _ (by omega) | exact rfl)) ?_
              refine lstepB rfl rfl rfl (run_move (.tmp rfl)) ?_
              refine lstepB rfl rfl rfl (run_gtr (.tmp rfl) (.tmp rfl) (by first | exact decide_eq_true (by omega) | exact decide_eq_false (by omega) | exact rfl)) ?_
              refine lstepB rfl rfl rfl (run_move (.tmp rfl)) ?_
              first | (refine lyes rfl rfl rfl rfl ?_; refine gstepB rfl rfl (run_fieldAddr (.tmp rfl) fa28_1 (by first | exact Nat.zero_add _ | exact rfl)) ?_) | refine lskip rfl rfl rfl rfl rfl rfl rfl ?_
              first | (refine lyes rfl rfl rfl rfl ?_; refine gstepB rfl rfl (run_load1 (.tmp rfl) kd3 (by repeat (first | exact List.Mem.head _ | apply List.Mem.tail)) (by exact rfl)) ?_) | refine lskip rfl rfl rfl rfl rfl rfl rfl ?_
              first | (refine lyes rfl rfl rfl rfl ?_; refine gstepB rfl rfl (run_fieldAddr (.tmp rfl) fa28_0 (by first | exact Nat.zero_add _ | exact rfl)) ?_) | refine lskip rfl rfl rfl rfl rfl rfl rfl ?_
              first | (refine lyes rfl rfl rfl rfl ?_; refine gstepB rfl rfl (run_load1 (.tmp rfl) kd3 (by repeat (first | exact List.Mem.head _ | apply List.Mem.tail)) (by exact rfl)) ?_) | refine lskip rfl rfl rfl rfl rfl rfl rfl ?_
              first | (refine lyes rfl rfl rfl rfl ?_; refine gstepB rfl rfl (run_sub (.tmp rfl) (.tmp rfl) (by first | exact IntWalk.i64_in _ (by omega) | exact rfl)) ?_) | refine lskip rfl rfl rfl rfl rfl rfl rfl ?_
              first | (refine lyes rfl rfl rfl rfl ?_; refine gstepB rfl rfl (run_move (.tmp rfl)) ?_) | refine lskip rfl rfl rfl rfl rfl rfl rfl ?_
              first | (refine lyes rfl rfl rfl rfl ?_; refine gstepB rfl rfl (run_eql (.tmp rfl) (.tmp rfl) (by first | exact decide_eq_true (by omega) | exact decide_eq_false (by omega) | exact rfl)) ?_) | refine lskip rfl rfl rfl rfl rfl rfl rfl ?_
              first | (refine lyes rfl rfl rfl rfl ?_; refine gstepB rfl rfl (run_move (.tmp rfl)) ?_) | refine lskip rfl rfl rfl rfl rfl rfl rfl ?_
              first | (refine lyes rfl rfl rfl rfl ?_; refine gstepB rfl rfl (run_move (.tmp rfl)) ?_) | refine lskip rfl rfl rfl rfl rfl rfl rfl ?_
              first | (refine lyes rfl rfl rfl rfl ?_; refine gstepB rfl rfl (run_move (.tmp rfl)) ?_) | refine lskip rfl rfl rfl rfl rfl rfl rfl ?_
              first | (refine lyes rfl rfl rfl rfl ?_; refine gstepB rfl rfl (run_lss (.tmp rfl) (.tmp rfl) (by first | exact decide_eq_true (by omega) | exact decide_eq_false (by omega) | exact rfl)) ?_) | refine lskip rfl rfl rfl rfl rfl rfl rfl ?_
              first | (refine lyes rfl rfl rfl rfl ?_; refine gstepB rfl rfl (by first | exact run_pick_true (.tmp rfl) (.tmp rfl) | exact run_pick_false (.tmp rfl) .const) ?_) | refine lskip rfl rfl rfl rfl rfl rfl rfl ?_
              refine lstepB rfl rfl rfl (by first | exact run_pick_true (.tmp rfl) .const | exact run_pick_false (.tmp rfl) (.tmp rfl)) ?_
              refine lstepB rfl rfl rfl (run_move (.tmp rfl)) ?_
              first | (refine lyes rfl rfl rfl rfl ?_; refine gstepB rfl rfl (run_move (.tmp rfl)) ?_) | refine lskip rfl rfl rfl rfl rfl rfl rfl ?_
              first | (refine lyes rfl rfl rfl rfl ?_; refine gstepB rfl rfl (run_move (.tmp rfl)) ?_) | refine lskip rfl rfl rfl rfl rfl rfl rfl ?_
              first | (refine lyes rfl rfl rfl rfl ?_; refine gstepB rfl rfl (run_eql (.tmp rfl) (.tmp rfl) (by first | exact decide_eq_true (by omega) | exact decide_eq_false (by omega) | exact rfl)) ?_) | refine lskip rfl rfl rfl rfl rfl rfl rfl ?_
              first | (refine lyes rfl rfl rfl rfl ?_; refine gstepB rfl rfl (run_move (.tmp rfl)) ?_) | refine lskip rfl rfl rfl rfl rfl rfl rfl ?_
              first | (refine lyes rfl rfl rfl rfl ?_; refine gstepB rfl rfl (run_fieldAddr (.tmp rfl) fa28_1 (by first | exact Nat.zero_add _ | exact rfl)) ?_) | refine lskip rfl rfl rfl rfl rfl rfl rfl ?_
              first | (refine lyes rfl rfl rfl rfl ?_; refine gstepB rfl rfl (run_load1 (.tmp rfl) kd3 (by repeat (first | exact List.Mem.head _ | apply List.Mem.tail)) (by exact rfl)) ?_) | refine lskip rfl rfl rfl rfl rfl rfl rfl ?_
              first | (refine lyes rfl rfl rfl rfl ?_; refine gstepB rfl rfl (run_fieldAddr (.tmp rfl) fa28_0 (by first | exact Nat.zero_add _ | exact rfl)) ?_) | refine lskip rfl rfl rfl rfl rfl rfl rfl ?_
              first | (refine lyes rfl rfl rfl rfl ?_; refine gstepB rfl rfl (run_load1 (.tmp rfl) kd3 (by repeat (first | exact List.Mem.head _ | apply List.Mem.tail)) (by exact rfl)) ?_) | refine lskip rfl rfl rfl rfl rfl rfl rfl ?_
              first | (refine lyes rfl rfl rfl rfl ?_; refine gstepB rfl rfl (run_sub (.tmp rfl) (.tmp rfl) (by first | exact IntWalk.i64_in _ (by omega) | exact rfl)) ?_) | refine lskip rfl rfl rfl rfl rfl rfl rfl ?_
              first | (refine lyes rfl rfl rfl rfl ?_; refine gstepB rfl rfl (run_move (.tmp rfl)) ?_) | refine lskip rfl rfl rfl rfl rfl rfl rfl ?_
              first | (refine lyes rfl rfl rfl rfl ?_; refine gstepB rfl rfl (run_neq (.tmp rfl) (.tmp rfl) (by first | exact decide_eq_true (by omega) | exact decide_eq_false (by omega) | exact rfl)) ?_) | refine lskip rfl rfl rfl rfl rfl rfl rfl ?_
              first | (refine lyes rfl rfl rfl rfl ?_; refine gstepB rfl rfl (by first | exact run_pick_true (.tmp rfl) (.tmp rfl) | exact run_pick_false (.tmp rfl) .const) ?_) | refine lskip rfl rfl rfl rfl rfl rfl rfl ?_
              refine lstepB rfl rfl rfl (by first | exact run_pick_true (.tmp rfl) .const | exact run_pick_false (.tmp rfl) (.tmp rfl)) ?_
              refine lnil ?_
              refine xw_then ?_
              refine cw_cond_false (.tmp rfl) ?_
              refine cw_skip ?_
              refine xw_then ?_
              refine cw_region ?_
              refine lstepB rfl rfl rfl (run_loadN (.tmp rfl) kd28 sz28 (by repeat (first | exact List.Mem.head _ | apply List.Mem.tail)) (by repeat (first | exact Sub.done | apply Sub.take | apply Sub.skip))) ?_
              refine lstep0 rfl rfl (run_storeN (.tmp rfl) (.tmp rfl) rfl sz28 rfl (by repeat (first | exact Upd.here | apply Upd.there)) (by repeat (first | exact Put.done | apply Put.put | apply Put.skip))) ?_
              refine lnil ?_
              refine xw_in ?_
              refine xw_then ?_
              refine cw_region ?_
              refine lstepB rfl rfl rfl (run_add (.tmp rfl) .const (by first | exact IntWalk.i64_in _ (by omega) | exact rfl)) ?_
              refine lstepB rfl rfl rfl (run_move (.tmp rfl)) ?_
              refine lnil ?_
              exact xw_round (k + 1) (by omega) (by omega) (by repeat (first | exact Less.nil | refine Less.cons rfl ?_)) (by repeat (first | exact Pick.nil | (apply Pick.cons; focus (repeat (first | exact Del.here | apply Del.there)))))
        ·
          obtain hk2 : (k : Int) = g.long + 1 := by omega
          refine cw_exit ?_
          refine xw_then_exit ?_
          refine xw_then_exit ?_
          refine xw_in_exit ?_
          refine xw_then ?_
          refine cw_seq ?_
          refine cw_region ?_
          refine lstepB rfl rfl rfl (run_move (.tmp rfl)) ?_
          refine lstepB rfl rfl rfl (run_geq (.tmp rfl) .const (by first | exact decide_eq_true (by omega) | exact decide_eq_false (by omega) | exact rfl)) ?_
          refine lstepB rfl rfl rfl (run_move (.tmp rfl)) ?_
          refine lyes rfl rfl rfl rfl ?_
          refine gstepB rfl rfl (run_move (.tmp rfl)) ?_
          refine lyes rfl rfl rfl rfl ?_
          refine gstepB rfl rfl (run_move (.tmp rfl)) ?_
          refine lyes rfl rfl rfl rfl ?_
          refine gstepB rfl rfl (run_lss (.tmp rfl) (.tmp rfl) (by first | exact decide_eq_true (by omega) | exact decide_eq_false (by omega) | exact rfl)) ?_
          refine lstepB rfl rfl rfl (by first | exact run_pick_true (.tmp rfl) (.tmp rfl) | exact run_pick_false (.tmp rfl) .const) ?_
          refine lstepB rfl rfl rfl (run_move (.tmp rfl)) ?_
          refine lyes rfl rfl rfl rfl ?_
          refine gstepB rfl rfl (run_call1 cb12 .nil (fun w _ => awakeK w)) ?_
          refine lstepB rfl rfl rfl (by first | exact run_pick_true (.tmp rfl) (.tmp rfl) | exact run_pick_false (.tmp rfl) .const) ?_
          refine lstepB rfl rfl rfl (run_assign (.tmp rfl)) ?_
          refine lnil ?_
          refine xw_then ?_
          refine cw_ret ?_
          refine xw_ret1 Try.results8 rfl (fun w hS => ⟨rfl, hS.kept⟩)
end Go.Proofs.Ytfmbnobkenngaaa
