/- PegFar returns true, and leaves its arguments as they were, whatever pegs and numbers it is called with: what is told of distances, of triangles, and of what proves who was moved, is the document's. No condition. -/
import Derived.Test.YtkjciobphbcknaaSS
import Derived.Test.YtkjciobphbcknaaAU
import Derived.Test.YtkjciobphbcknaaAP
import Derived.Test.YtkjciobphbcknaaRC
import Derived.BigQuiet
import Derived.Lib.QuietBelow
import Derived.IntWalk
import Derived.Test.YtkjciobphbcknaaAV
import Derived.Test.YtkjciobphbcknaaOpen
namespace Go.Proofs.Ytkjciobphbcknaa
open Go.RowKit En

structure DS where
  k : Nat
  e : EndsD
theorem twI_eq (a b c : Pl) : twI a b c = twiceI a b c := rfl
set_option maxRecDepth 100000 in
set_option maxHeartbeats 4000000 in
theorem apartRK {p : PegsD} {pa la : Option Addr} (a b : Int) (pc lc : Nat) (hm : p.ps.length ≤ 9223372036854775807) (hm2 : p.ls.length ≤ 9223372036854775807) (h8 : validB p = true → p.side ≤ 8) (h3 : validB p = true → p.ps.length ≤ 3) (w : World) (hp : PegsIn w p pa la) :
    Gives Try.prog 22 [.agg [.int .i64 p.side, .slice pa p.ps.length pc, .slice la p.ls.length lc].toArray, .int .i64 a, .int .i64 b] w (.tuple [encSpan (valOf (0, 0) (apartR p a b)), .int .i64 (errOf (apartR p a b))].toArray) := by
  cases hA : isPegB p.ps.length a with
  | false =>
    cases ho : openR p false with
    | error m =>
      obtain ⟨hR, hm0⟩ := apart_err (i := a) (j := b) (m := m) (by rw [hA, Bool.false_and]; exact ho)
      rw [hR]
      refine .mk <| enter (n := 58) Try.func22 rfl rfl rfl (by repeat (first | exact Fill.nil | apply Fill.cons)) ?_
      refine cw_seq ?_
      refine cw_region ?_
      refine lstep rfl rfl rfl (run_boxN (.tmp rfl)) ?_
      intro b3 _
      refine lstep rfl rfl rfl (run_alloc zr32) ?_
      intro b6 _
      refine lstepB rfl rfl rfl (run_assign .const) ?_
      refine lnil ?_
      refine xw_then ?_
      refine cw_seq ?_
      refine cw_chain2 (σ := [0, 1, 2, 3, 4, 5, 6, 7, 8, 9, 10, 11, 12, 13, 14]) [⟨0, [1], [], [], 0⟩, ⟨0, [1], [], [], 0⟩, ⟨0, [], [], [], 0⟩, ⟨0, [], [], [], 6⟩, ⟨0, [], [], [], 14⟩, ⟨0, [1], [], [], 30⟩, ⟨0, [], [], [], 30⟩, ⟨0, [], [], [], 126⟩, ⟨0, [], [], [], 254⟩, ⟨0, [], [], [], 511⟩, ⟨0, [], [], [], 1023⟩, ⟨0, [], [], [], 2047⟩, ⟨0, [], [], [], 2047⟩, ⟨0, [], [], [], 4095⟩, ⟨0, [], [], [], 16383⟩] [(0, _), (1, _)] (by kernel_rfl) (by kernel_rfl) rfl ?_
      refine .det (B := []) rfl rfl (.inl rfl) (.cons rfl .nil) .nil rfl (RunB.lr (run_loadN (.tmp rfl) kd25 sz25 (by repeat (first | exact List.Mem.head _ | apply List.Mem.tail)) (by repeat (first | exact Sub.done | apply Sub.take | apply Sub.skip)))) ?_
      refine .det (B := []) rfl rfl (.inl rfl) (.cons rfl .nil) .nil rfl (RunB.lr (run_loadN (.tmp rfl) kd25 sz25 (by repeat (first | exact List.Mem.head _ | apply List.Mem.tail)) (by repeat (first | exact Sub.done | apply Sub.take | apply Sub.skip)))) ?_
      refine .det (B := []) rfl rfl (.inl rfl) .nil .nil rfl (RunB.lr (run_move (.tmp rfl))) ?_
      refine .det (B := []) rfl rfl (.inl rfl) .nil .nil rfl (RunB.lr (run_call1 cb36 (.cons (.tmp rfl) (.cons (.tmp rfl) .nil)) (fun w' _ => (pegK _ _ _ _ _ _ _ _ w' hm).as (congrArg Value.bool hA)))) ?_
      refine .det (B := []) rfl rfl (.inl rfl) .nil .nil rfl (RunB.lr (run_move (.tmp rfl))) ?_
      refine .skip rfl rfl ⟨_, _, _, _, rfl, rfl, rfl, rfl⟩ rfl ?_
      refine .skip rfl rfl ⟨_, _, _, _, rfl, rfl, rfl, rfl⟩ rfl ?_
      refine .skip rfl rfl ⟨_, _, _, _, rfl, rfl, rfl, rfl⟩ rfl ?_
      refine .det (B := []) rfl rfl (.inl rfl) .nil .nil rfl (RunB.lr (by first | exact run_pick_true (.tmp rfl) (.tmp rfl) | exact run_pick_false (.tmp rfl) .const)) ?_
      refine .det (B := []) rfl rfl (.inl rfl) .nil .nil rfl (RunB.lr (run_call1 cb47 (.cons (.tmp rfl) (.cons (.tmp rfl) .nil)) (fun w' hS => openErr ho pc lc hm hm2 h8 h3 w' (hp.kept hS.kept)))) ?_
      refine .det (B := []) rfl rfl (.inl rfl) .nil .nil rfl (RunB.lr (run_move (.tmp rfl))) ?_
      refine .det (B := []) rfl rfl (.inl rfl) .nil .nil rfl (RunB.lr (run_extract (.tmp rfl) rfl)) ?_
      refine .det (B := []) rfl rfl (.inl rfl) .nil .nil rfl (RunB.lr (run_extract (.tmp rfl) rfl)) ?_
      refine .det (B := []) rfl rfl (.inl rfl) .nil .nil rfl (RunB.lr (run_assign (.tmp rfl))) ?_
      refine .det (B := []) rfl rfl (.inl rfl) .nil .nil rfl (RunB.lr (run_assign (.tmp rfl))) ?_
      refine chain_nil (ts := [0, 1]) (.cons rfl (.cons rfl .nil)) (by decide) ?_
      refine xw_then ?_
      refine cw_seq ?_
      refine cw_seq ?_
      refine cw_region ?_
      refine lstepB rfl rfl rfl (run_move (.tmp rfl)) ?_
      refine lstepB rfl rfl rfl (run_neq (.tmp rfl) .const (by first | exact decide_eq_true (by omega) | exact decide_eq_false (by omega) | exact rfl)) ?_
      refine lnil ?_
      refine xw_then ?_
      refine cw_cond_true (.tmp rfl) ?_
      refine cw_seq ?_
      refine cw_region ?_
      refine lstepB rfl rfl rfl (run_build_at .nil (fun w => bd32_ w)) ?_
      refine lstepB rfl rfl rfl (run_move (.tmp rfl)) ?_
      refine lstep0 rfl rfl (run_storeN (.tmp rfl) (.tmp rfl) rfl sz32 rfl (by repeat (first | exact Upd.here | apply Upd.there)) (by repeat (first | exact Put.done | apply Put.put | apply Put.skip))) ?_
      refine lstepB rfl rfl rfl (run_assign (.tmp rfl)) ?_
      refine lnil ?_
      refine xw_then ?_
      refine cw_ret ?_
      refine xw_then_ret ?_
      refine xw_retC2 rfl rfl rfl kd32 sz32 (by repeat (first | exact List.Mem.head _ | apply List.Mem.tail)) (by repeat (first | exact Sub.done | apply Sub.take | apply Sub.skip)) (fun w' hS => ⟨rfl, hS.kept⟩)
    | ok L => exact absurd (openR_ok ho).2.1 (by decide)
  | true =>
    cases ho : openR p (isPegB p.ps.length b) with
    | error m =>
      obtain ⟨hR, hm0⟩ := apart_err (i := a) (j := b) (m := m) (by rw [hA, Bool.true_and]; exact ho)
      rw [hR]
      refine .mk <| enter (n := 58) Try.func22 rfl rfl rfl (by repeat (first | exact Fill.nil | apply Fill.cons)) ?_
      refine cw_seq ?_
      refine cw_region ?_
      refine lstep rfl rfl rfl (run_boxN (.tmp rfl)) ?_
      intro b3 _
      refine lstep rfl rfl rfl (run_alloc zr32) ?_
      intro b6 _
      refine lstepB rfl rfl rfl (run_assign .const) ?_
      refine lnil ?_
      refine xw_then ?_
      refine cw_seq ?_
      refine cw_chain2 (σ := [0, 1, 2, 3, 4, 5, 6, 7, 8, 9, 10, 11, 12, 13, 14]) [⟨0, [1], [], [], 0⟩, ⟨0, [1], [], [], 0⟩, ⟨0, [], [], [], 0⟩, ⟨0, [], [], [], 6⟩, ⟨0, [], [], [], 14⟩, ⟨0, [1], [], [], 30⟩, ⟨0, [], [], [], 30⟩, ⟨0, [], [], [], 126⟩, ⟨0, [], [], [], 254⟩, ⟨0, [], [], [], 511⟩, ⟨0, [], [], [], 1023⟩, ⟨0, [], [], [], 2047⟩, ⟨0, [], [], [], 2047⟩, ⟨0, [], [], [], 4095⟩, ⟨0, [], [], [], 16383⟩] [(0, _), (1, _)] (by kernel_rfl) (by kernel_rfl) rfl ?_
      refine .det (B := []) rfl rfl (.inl rfl) (.cons rfl .nil) .nil rfl (RunB.lr (run_loadN (.tmp rfl) kd25 sz25 (by repeat (first | exact List.Mem.head _ | apply List.Mem.tail)) (by repeat (first | exact Sub.done | apply Sub.take | apply Sub.skip)))) ?_
      refine .det (B := []) rfl rfl (.inl rfl) (.cons rfl .nil) .nil rfl (RunB.lr (run_loadN (.tmp rfl) kd25 sz25 (by repeat (first | exact List.Mem.head _ | apply List.Mem.tail)) (by repeat (first | exact Sub.done | apply Sub.take | apply Sub.skip)))) ?_
      refine .det (B := []) rfl rfl (.inl rfl) .nil .nil rfl (RunB.lr (run_move (.tmp rfl))) ?_
      refine .det (B := []) rfl rfl (.inl rfl) .nil .nil rfl (RunB.lr (run_call1 cb36 (.cons (.tmp rfl) (.cons (.tmp rfl) .nil)) (fun w' _ => (pegK _ _ _ _ _ _ _ _ w' hm).as (congrArg Value.bool hA)))) ?_
      refine .det (B := []) rfl rfl (.inl rfl) .nil .nil rfl (RunB.lr (run_move (.tmp rfl))) ?_
      refine .det (B := []) rfl rfl (.inr ⟨_, _, _, rfl, rfl, rfl⟩) (.cons rfl .nil) .nil rfl (RunB.lr (run_loadN (.tmp rfl) kd25 sz25 (by repeat (first | exact List.Mem.head _ | apply List.Mem.tail)) (by repeat (first | exact Sub.done | apply Sub.take | apply Sub.skip)))) ?_
      refine .det (B := []) rfl rfl (.inr ⟨_, _, _, rfl, rfl, rfl⟩) .nil .nil rfl (RunB.lr (run_move (.tmp rfl))) ?_
      refine .det (B := []) rfl rfl (.inr ⟨_, _, _, rfl, rfl, rfl⟩) .nil .nil rfl (RunB.lr (run_call1 cb36 (.cons (.tmp rfl) (.cons (.tmp rfl) .nil)) (fun w' _ => pegK _ _ _ _ _ _ _ _ w' hm))) ?_
      refine .det (B := []) rfl rfl (.inl rfl) .nil .nil rfl (RunB.lr (by first | exact run_pick_true (.tmp rfl) (.tmp rfl) | exact run_pick_false (.tmp rfl) .const)) ?_
      refine .det (B := []) rfl rfl (.inl rfl) .nil .nil rfl (RunB.lr (run_call1 cb47 (.cons (.tmp rfl) (.cons (.tmp rfl) .nil)) (fun w' hS => openErr ho pc lc hm hm2 h8 h3 w' (hp.kept hS.kept)))) ?_
      refine .det (B := []) rfl rfl (.inl rfl) .nil .nil rfl (RunB.lr (run_move (.tmp rfl))) ?_
      refine .det (B := []) rfl rfl (.inl rfl) .nil .nil rfl (RunB.lr (run_extract (.tmp rfl) rfl)) ?_
      refine .det (B := []) rfl rfl (.inl rfl) .nil .nil rfl (RunB.lr (run_extract (.tmp rfl) rfl)) ?_
      refine .det (B := []) rfl rfl (.inl rfl) .nil .nil rfl (RunB.lr (run_assign (.tmp rfl))) ?_
      refine .det (B := []) rfl rfl (.inl rfl) .nil .nil rfl (RunB.lr (run_assign (.tmp rfl))) ?_
      refine chain_nil (ts := [0, 1]) (.cons rfl (.cons rfl .nil)) (by decide) ?_
      refine xw_then ?_
      refine cw_seq ?_
      refine cw_seq ?_
      refine cw_region ?_
      refine lstepB rfl rfl rfl (run_move (.tmp rfl)) ?_
      refine lstepB rfl rfl rfl (run_neq (.tmp rfl) .const (by first | exact decide_eq_true (by omega) | exact decide_eq_false (by omega) | exact rfl)) ?_
      refine lnil ?_
      refine xw_then ?_
      refine cw_cond_true (.tmp rfl) ?_
      refine cw_seq ?_
      refine cw_region ?_
      refine lstepB rfl rfl rfl (run_build_at .nil (fun w => bd32_ w)) ?_
      refine lstepB rfl rfl rfl (run_move (.tmp rfl)) ?_
      refine lstep0 rfl rfl (run_storeN (.tmp rfl) (.tmp rfl) rfl sz32 rfl (by repeat (first | exact Upd.here | apply Upd.there)) (by repeat (first | exact Put.done | apply Put.put | apply Put.skip))) ?_
      refine lstepB rfl rfl rfl (run_assign (.tmp rfl)) ?_
      refine lnil ?_
      refine xw_then ?_
      refine cw_ret ?_
      refine xw_then_ret ?_
      refine xw_retC2 rfl rfl rfl kd32 sz32 (by repeat (first | exact List.Mem.head _ | apply List.Mem.tail)) (by repeat (first | exact Sub.done | apply Sub.take | apply Sub.skip)) (fun w' hS => ⟨rfl, hS.kept⟩)
    | ok L =>
      obtain ⟨hv, hpb, rfl, hne⟩ := openR_ok ho
      have hsl := h8 hv
      have hf := fit_of_valid hv
      have h4 := hf.n4
      obtain ⟨hn0, hn1⟩ := isPegB_iff.1 hA
      obtain ⟨i, rfl⟩ := Int.eq_ofNat_of_zero_le hn0
      obtain ⟨hm0, hm1⟩ := isPegB_iff.1 hpb
      obtain ⟨j, rfl⟩ := Int.eq_ofNat_of_zero_le hm0
      have hR := apart_eq hv (i := i) (j := j) (by omega) (by omega) hne
      have hlen : (allF p).length ≤ 1000000 := allS_len hf (h8 hv) (h3 hv) (fullN p)
      rw [hR]
      refine .mk <| enter (n := 58) Try.func22 rfl rfl rfl (by repeat (first | exact Fill.nil | apply Fill.cons)) ?_
      refine cw_seq ?_
      refine cw_region ?_
      refine lstep rfl rfl rfl (run_boxN (.tmp rfl)) ?_
      intro b3 _
      refine lstep rfl rfl rfl (run_alloc zr32) ?_
      intro b6 _
      refine lstepB rfl rfl rfl (run_assign .const) ?_
      refine lnil ?_
      refine xw_then ?_
      refine cw_seq ?_
      refine cw_pivot (j := 9) (σ1 := [0, 1, 2, 3, 4, 5, 6, 7, 8]) (σ2 := [10, 11, 12, 13, 14]) [⟨0, [1], [], [], 0⟩, ⟨0, [1], [], [], 0⟩, ⟨0, [], [], [], 0⟩, ⟨0, [], [], [], 6⟩, ⟨0, [], [], [], 14⟩, ⟨0, [1], [], [], 30⟩, ⟨0, [], [], [], 30⟩, ⟨0, [], [], [], 126⟩, ⟨0, [], [], [], 254⟩, ⟨0, [], [], [], 511⟩, ⟨0, [], [], [], 1023⟩, ⟨0, [], [], [], 2047⟩, ⟨0, [], [], [], 2047⟩, ⟨0, [], [], [], 4095⟩, ⟨0, [], [], [], 16383⟩] [(0, _), (1, _)] (by kernel_rfl) (by kernel_rfl) rfl ?_
      refine .det (B := []) rfl rfl (.inl rfl) (.cons rfl .nil) .nil rfl (RunB.lr (run_loadN (.tmp rfl) kd25 sz25 (by repeat (first | exact List.Mem.head _ | apply List.Mem.tail)) (by repeat (first | exact Sub.done | apply Sub.take | apply Sub.skip)))) ?_
      refine .det (B := []) rfl rfl (.inl rfl) (.cons rfl .nil) .nil rfl (RunB.lr (run_loadN (.tmp rfl) kd25 sz25 (by repeat (first | exact List.Mem.head _ | apply List.Mem.tail)) (by repeat (first | exact Sub.done | apply Sub.take | apply Sub.skip)))) ?_
      refine .det (B := []) rfl rfl (.inl rfl) .nil .nil rfl (RunB.lr (run_move (.tmp rfl))) ?_
      refine .det (B := []) rfl rfl (.inl rfl) .nil .nil rfl (RunB.lr (run_call1 cb36 (.cons (.tmp rfl) (.cons (.tmp rfl) .nil)) (fun w' _ => (pegK _ _ _ _ _ _ _ _ w' hm).as (congrArg Value.bool hA)))) ?_
      refine .det (B := []) rfl rfl (.inl rfl) .nil .nil rfl (RunB.lr (run_move (.tmp rfl))) ?_
      refine .det (B := []) rfl rfl (.inr ⟨_, _, _, rfl, rfl, rfl⟩) (.cons rfl .nil) .nil rfl (RunB.lr (run_loadN (.tmp rfl) kd25 sz25 (by repeat (first | exact List.Mem.head _ | apply List.Mem.tail)) (by repeat (first | exact Sub.done | apply Sub.take | apply Sub.skip)))) ?_
      refine .det (B := []) rfl rfl (.inr ⟨_, _, _, rfl, rfl, rfl⟩) .nil .nil rfl (RunB.lr (run_move (.tmp rfl))) ?_
      refine .det (B := []) rfl rfl (.inr ⟨_, _, _, rfl, rfl, rfl⟩) .nil .nil rfl (RunB.lr (run_call1 cb36 (.cons (.tmp rfl) (.cons (.tmp rfl) .nil)) (fun w' _ => pegK _ _ _ _ _ _ _ _ w' hm))) ?_
      refine .det (B := []) rfl rfl (.inl rfl) .nil .nil rfl (RunB.lr ((by first | exact run_pick_true (.tmp rfl) (.tmp rfl) | exact run_pick_false (.tmp rfl) .const))) ?_
      refine .nil ?_
      refine pv_call (F := fun (s : Option Addr × Nat) w' => ∃ lo, (∀ b, blk [(b6, Obj.cells [.int .i64 0, .int .i64 0].toArray 32 (0, 0)), (b3, Obj.cells [.int .i64 p.side, .slice pa p.ps.length pc, .slice la p.ls.length lc].toArray 25 (0, 0))] b → b < lo) ∧ TruthsIn lo w' s.1 (allF p)) (r := fun s => .tuple #[.slice s.1 (allF p).length s.2, .int .i64 0]) (ts2 := [0, 1]) rfl cb47 (.cons (.tmp rfl) (.cons (.tmp rfl) .nil)) (.cons rfl (.cons rfl .nil)) (by decide) (fun w' hS => (openOk ho pc lc hm hm2 h8 h3 w' (hp.kept hS.kept)).mono fun e w2 ⟨s, h1, h2, h3⟩ => ⟨s, ⟨w'.heap.size, blk_lt hS, h1⟩, h2, h3⟩) ?_
      rintro ⟨oa, oc⟩ w1 ⟨lo, hlo, ht⟩ hB
      refine .det (B := []) rfl rfl (.inl rfl) .nil .nil rfl (RunB.lr (run_move (.tmp rfl))) ?_
      refine .det (B := []) rfl rfl (.inl rfl) .nil .nil rfl (RunB.lr (run_extract (.tmp rfl) rfl)) ?_
      refine .det (B := []) rfl rfl (.inl rfl) .nil .nil rfl (RunB.lr (run_extract (.tmp rfl) rfl)) ?_
      refine .det (B := []) rfl rfl (.inl rfl) .nil .nil rfl (RunB.lr (run_assign (.tmp rfl))) ?_
      refine .det (B := []) rfl rfl (.inl rfl) .nil .nil rfl (RunB.lr (run_assign (.tmp rfl))) ?_
      refine chain_nil (ts := [0, 1]) (.cons rfl (.cons rfl .nil)) (by decide) ?_
      refine xw_then ?_
      refine cw_seq ?_
      refine cw_seq ?_
      refine cw_region ?_
      refine lstepB rfl rfl rfl (run_move (.tmp rfl)) ?_
      refine lstepB rfl rfl rfl (run_neq (.tmp rfl) .const (by first | exact decide_eq_true (by omega) | exact decide_eq_false (by omega) | exact rfl)) ?_
      refine lnil ?_
      refine xw_then ?_
      refine cw_cond_false (.tmp rfl) ?_
      refine cw_skip ?_
      refine xw_then ?_
      refine cw_seq ?_
      refine cw_region ?_
      refine lstepB rfl rfl rfl (run_build_at .nil (fun w => bd32_ w)) ?_
      refine lstep rfl rfl rfl (run_alloc zr32) ?_
      intro b10 _
      refine lstep0 rfl rfl (run_storeN (.tmp rfl) (.tmp rfl) rfl sz32 rfl (by repeat (first | exact Upd.here | apply Upd.there)) (by repeat (first | exact Put.done | apply Put.put | apply Put.skip))) ?_
      refine lnil ?_
      refine xw_then ?_
      refine cw_seq ?_
      refine cw_seq ?_
      refine cw_region ?_
      refine lstepB rfl rfl rfl (run_assign .const) ?_
      refine lnil ?_
      refine xw_then ?_
      refine cw_block ?_
      refine cw_loop (S := DS) (fun z => [(11, .int .i64 (z.k : Int))]) [(1, _), (2, _), (6, _), (7, _), (8, _), (10, _)] (fun z => [(b10, Obj.cells [.int .i64 z.e.lo, .int .i64 z.e.hi].toArray 32 (0, 0)), (b6, Obj.cells [.int .i64 0, .int .i64 0].toArray 32 (0, 0)), (b3, Obj.cells [.int .i64 p.side, .slice pa p.ps.length pc, .slice la p.ls.length lc].toArray 25 (0, 0))]) (fun z => z.e = endsG (((allF p).take z.k).map fun x => apartI (plAt x.1 i) (plAt x.1 j)) ∧ z.k ≤ (allF p).length) (fun z => (allF p).length - z.k) ⟨0, ⟨0, 0, false⟩⟩ ⟨rfl, Nat.zero_le _⟩ (by repeat (first | exact Less.nil | refine Less.cons rfl ?_)) (by repeat (first | exact Pick.nil | (apply Pick.cons; focus (repeat (first | exact Del.here | apply Del.there))))) ?_
      intro z hz
      obtain ⟨k, e⟩ := z
      obtain ⟨he, hk⟩ := hz
      simp only at he hk
      try dsimp only
      refine cw_seq ?_
      refine cw_seq ?_
      refine cw_region ?_
      refine lstepB rfl rfl rfl (run_move (.tmp rfl)) ?_
      refine lstepB rfl rfl rfl (run_move (.tmp rfl)) ?_
      refine lstepB rfl rfl rfl (run_len (.tmp rfl) sl80) ?_
      refine lstepB rfl rfl rfl (run_lss (.tmp rfl) (.tmp rfl) (by first | exact decide_eq_true (by omega) | exact decide_eq_false (by omega) | exact rfl)) ?_
      refine lnil ?_
      refine xw_then ?_
      refine cw_cond_p (.tmp rfl) (fun hlt => ?_) (fun hge => ?_)
      ·
        have hlt' : (k : Int) < ((allF p).length : Int) := hlt
        have hkl : k < (allF p).length := by omega
        obtain ⟨⟨l, mv⟩, hx⟩ : ∃ x, (allF p)[k]? = some x := ⟨_, List.getElem?_eq_getElem hkl⟩
        obtain ⟨b, qa, c, rfl, hb, c1, c2, hq⟩ := ht k _ hx
        obtain ⟨r1, r2, r3, r4⟩ := allF_range hf hx
        simp only at r1 r2 r3 r4 c1 c2 hq
        obtain ⟨s, hs⟩ : ∃ s, l[i]? = some s := ⟨_, List.getElem?_eq_getElem (by omega)⟩
        have pl_s : plAt l (i : Nat) = s := by simp [plAt, List.getD_eq_getElem?_getD, hs]
        obtain ⟨s1, s2, s3, s4⟩ := r4 _ (List.mem_of_getElem? hs)
        obtain ⟨qb, qo, rfl, hqb, ds1, ds2⟩ := hq i s hs
        obtain ⟨t, ht⟩ : ∃ s, l[j]? = some s := ⟨_, List.getElem?_eq_getElem (by omega)⟩
        have pl_t : plAt l (j : Nat) = t := by simp [plAt, List.getD_eq_getElem?_getD, ht]
        obtain ⟨t1, t2, t3, t4⟩ := r4 _ (List.mem_of_getElem? ht)
        obtain ⟨_, _, e_t, _, dt1, dt2⟩ := hq j t ht
        simp only [Option.some.injEq, Addr.mk.injEq] at e_t
        obtain ⟨rfl, rfl, _⟩ := e_t
        have n1 : e.add (sqI s.x s.y t.x t.y) = endsG (((allF p).take (k + 1)).map fun x => apartI (plAt x.1 i) (plAt x.1 j)) := by
          have := endsG_at (fun x : List Pl × Int => apartI (plAt x.1 i) (plAt x.1 j)) hx he
          rwa [show apartI (plAt (l, mv).1 i) (plAt (l, mv).1 j) = (sqI s.x s.y t.x t.y) from by rw [pl_s, pl_t]; rfl] at this
        refine cw_skip ?_
        refine xw_then ?_
        refine cw_seq ?_
        refine cw_block ?_
        refine cw_chain2 (σ := [0, 1, 2, 3, 4, 5, 6, 7, 8, 9, 10, 11, 12, 13, 14, 15, 16, 17, 18, 19, 20, 21]) [⟨0, [0], [], [], 0⟩, ⟨0, [], [], [], 0⟩, ⟨0, [], [], [], 0⟩, ⟨0, [], [], [], 6⟩, ⟨0, [], [], [], 14⟩, ⟨0, [], [], [], 30⟩, ⟨0, [], [], [], 0⟩, ⟨0, [], [], [], 126⟩, ⟨0, [], [], [], 254⟩, ⟨0, [], [], [], 0⟩, ⟨0, [], [], [], 0⟩, ⟨0, [], [], [], 1536⟩, ⟨0, [], [], [], 3584⟩, ⟨0, [], [], [], 7680⟩, ⟨0, [], [], [], 0⟩, ⟨0, [], [], [], 32256⟩, ⟨0, [], [], [], 65024⟩, ⟨0, [], [], [], 131070⟩, ⟨0, [], [], [], 0⟩, ⟨0, [], [], [], 262144⟩, ⟨0, [], [], [], 1048575⟩, ⟨0, [], [0], [0], 2097151⟩] [(0, _), (1, _), (2, _)] (by kernel_rfl) (by kernel_rfl) rfl ?_
        refine .det (B := []) rfl rfl (.inl rfl) (.cons rfl .nil) .nil rfl (RunB.lr (run_loadN (.tmp rfl) kd32 sz32 (by repeat (first | exact List.Mem.head _ | apply List.Mem.tail)) (by repeat (first | exact Sub.done | apply Sub.take | apply Sub.skip)))) ?_
        refine .det (B := []) rfl rfl (.inl rfl) .nil .nil rfl (RunB.lr (run_move (.tmp rfl))) ?_
        refine .det (B := []) rfl rfl (.inl rfl) .nil .nil rfl (RunB.lr (run_move (.tmp rfl))) ?_
        refine .det (B := []) rfl rfl (.inl rfl) .nil .nil rfl (RunB.lr (run_indexAddr (off' := k * 2) (.tmp rfl) (.tmp rfl) el80 (by omega) (Nat.zero_add _))) ?_
        refine .det (B := []) rfl rfl (.inl rfl) .nil .nil rfl (RunB.lr (run_fieldAddr (.tmp rfl) fa84_0 (by first | exact Nat.zero_add _ | exact rfl))) ?_
        refine .det (B := []) rfl rfl (.inl rfl) .nil .nil rfl (RunB.lr (run_load1_at (.tmp rfl) kd46 (fun w2 hS => old_of hS hlo hb c1))) ?_
        refine .det (B := []) rfl rfl (.inl rfl) .nil .nil rfl (RunB.lr (run_move (.tmp rfl))) ?_
        refine .det (B := []) rfl rfl (.inl rfl) .nil .nil rfl (RunB.lr (run_indexAddr (.tmp rfl) (.tmp rfl) el46 (by omega) rfl)) ?_
        refine .det (B := []) rfl rfl (.inl rfl) .nil .nil rfl (RunB.lr (run_loadN_at (l := [.int .i64 s.x, .int .i64 s.y]) (.tmp rfl) kd52 sz52 rfl (fun w2 hS j v hj => cells2 (old_of hS hlo hqb ds1) (old_of hS hlo hqb ds2) j v hj))) ?_
        refine .det (B := []) rfl rfl (.inl rfl) .nil .nil rfl (RunB.lr (run_move (.tmp rfl))) ?_
        refine .det (B := []) rfl rfl (.inl rfl) .nil .nil rfl (RunB.lr (run_move (.tmp rfl))) ?_
        refine .det (B := []) rfl rfl (.inl rfl) .nil .nil rfl (RunB.lr (run_indexAddr (off' := k * 2) (.tmp rfl) (.tmp rfl) el80 (by omega) (Nat.zero_add _))) ?_
        refine .det (B := []) rfl rfl (.inl rfl) .nil .nil rfl (RunB.lr (run_fieldAddr (.tmp rfl) fa84_0 (by first | exact Nat.zero_add _ | exact rfl))) ?_
        refine .det (B := []) rfl rfl (.inl rfl) .nil .nil rfl (RunB.lr (run_load1_at (.tmp rfl) kd46 (fun w2 hS => old_of hS hlo hb c1))) ?_
        refine .det (B := []) rfl rfl (.inl rfl) .nil .nil rfl (RunB.lr (run_move (.tmp rfl))) ?_
        refine .det (B := []) rfl rfl (.inl rfl) .nil .nil rfl (RunB.lr (run_indexAddr (.tmp rfl) (.tmp rfl) el46 (by omega) rfl)) ?_
        refine .det (B := []) rfl rfl (.inl rfl) .nil .nil rfl (RunB.lr (run_loadN_at (l := [.int .i64 t.x, .int .i64 t.y]) (.tmp rfl) kd52 sz52 rfl (fun w2 hS j v hj => cells2 (old_of hS hlo hqb dt1) (old_of hS hlo hqb dt2) j v hj))) ?_
        refine .det (B := []) rfl rfl (.inl rfl) .nil .nil rfl (RunB.lr (run_call1 cb33 (.cons (.tmp rfl) (.cons (.tmp rfl) .nil)) (fun w _ => square_any s.x s.y t.x t.y (by omega) (by omega) (by omega) (by omega) w))) ?_
        refine .det (B := []) rfl rfl (.inl rfl) .nil .nil rfl (RunB.lr (run_move (.tmp rfl))) ?_
        refine .det (B := []) rfl rfl (.inl rfl) .nil .nil rfl (RunB.lr (run_eql (p := !e.some) (.tmp rfl) .const (first_eq _ _ hkl he))) ?_
        refine .det (B := []) rfl rfl (.inl rfl) .nil .nil rfl (RunB.lr (run_call1 cb55 (.cons (.tmp rfl) (.cons (.tmp rfl) (.cons (.tmp rfl) .nil))) (fun w _ => hullK e _ _ rfl w))) ?_
        refine .det (B := [(0, (_, _))]) rfl rfl (.inl rfl) .nil (.cons rfl .nil) rfl (lr_storeN (.tmp rfl) (.tmp rfl) rfl sz32 rfl (by repeat (first | exact Put.done | apply Put.put | apply Put.skip))) ?_
        refine chain_nil (ts := [0, 1, 2]) (.cons rfl (.cons rfl (.cons rfl .nil))) (by decide) ?_
        refine xw_in ?_
        refine xw_then ?_
        refine cw_region ?_
        refine lstepB rfl rfl rfl (run_move (.tmp rfl)) ?_
        refine lstepB rfl rfl rfl (run_add (.tmp rfl) .const (by first | exact IntWalk.i64_in _ (by omega) | exact rfl)) ?_
        refine lstepB rfl rfl rfl (run_assign (.tmp rfl)) ?_
        refine lnil ?_
        exact xw_round ⟨k + 1, e.add (sqI s.x s.y t.x t.y)⟩ ⟨n1, by simp only; omega⟩ (by simp only; omega) (by repeat (first | exact Less.nil | refine Less.cons rfl ?_)) (by repeat (first | exact Pick.nil | (apply Pick.cons; focus (repeat (first | exact Del.here | apply Del.there)))))
      ·
        refine cw_exit ?_
        refine xw_then_exit ?_
        refine xw_then_exit ?_
        refine xw_in_exit ?_
        refine xw_then ?_
        refine cw_seq ?_
        refine cw_region ?_
        refine lstepB rfl rfl rfl (run_loadN (.tmp rfl) kd32 sz32 (by repeat (first | exact List.Mem.head _ | apply List.Mem.tail)) (by repeat (first | exact Sub.done | apply Sub.take | apply Sub.skip))) ?_
        refine lstep0 rfl rfl (run_storeN (.tmp rfl) (.tmp rfl) rfl sz32 rfl (by repeat (first | exact Upd.here | apply Upd.there)) (by repeat (first | exact Put.done | apply Put.put | apply Put.skip))) ?_
        refine lstepB rfl rfl rfl (run_assign .const) ?_
        refine lnil ?_
        refine xw_then ?_
        refine cw_ret ?_
        have hge' : ¬ (k : Int) < ((allF p).length : Int) := hge
        rw [List.take_of_length_le (by omega)] at he
        rw [← he]
        refine xw_retC2 rfl rfl rfl kd32 sz32 (by repeat (first | exact List.Mem.head _ | apply List.Mem.tail)) (by repeat (first | exact Sub.done | apply Sub.take | apply Sub.skip)) (fun w' hS => ⟨rfl, hB _ w' hS⟩)
set_option maxRecDepth 100000 in
set_option maxHeartbeats 4000000 in
theorem areaRK {p : PegsD} {pa la : Option Addr} (a b c : Int) (pc lc : Nat) (hm : p.ps.length ≤ 9223372036854775807) (hm2 : p.ls.length ≤ 9223372036854775807) (h8 : validB p = true → p.side ≤ 8) (h3 : validB p = true → p.ps.length ≤ 3) (w : World) (hp : PegsIn w p pa la) :
    Gives Try.prog 24 [.agg [.int .i64 p.side, .slice pa p.ps.length pc, .slice la p.ls.length lc].toArray, .int .i64 a, .int .i64 b, .int .i64 c] w (.tuple [encSpan (valOf (0, 0) (areaR p a b c)), .int .i64 (errOf (areaR p a b c))].toArray) := by
  cases hA : isPegB p.ps.length a with
  | false =>
    have h3B : threeB p.ps.length a b c = false := by simp only [threeB, hA, Bool.false_and, Bool.and_false, Bool.true_and, Bool.not_true, Bool.not_false]
    cases ho : openR p false with
    | error m =>
      obtain ⟨hR, hm0⟩ := area_err (i := a) (j := b) (k := c) (m := m) (by rw [h3B]; exact ho)
      rw [hR]
      refine .mk <| enter (n := 82) Try.func24 rfl rfl rfl (by repeat (first | exact Fill.nil | apply Fill.cons)) ?_
      refine cw_seq ?_
      refine cw_region ?_
      refine lstep rfl rfl rfl (run_boxN (.tmp rfl)) ?_
      intro b4 _
      refine lstep rfl rfl rfl (run_alloc zr32) ?_
      intro b8 _
      refine lstepB rfl rfl rfl (run_assign .const) ?_
      refine lnil ?_
      refine xw_then ?_
      refine cw_seq ?_
      refine cw_chain2 (σ := [0, 1, 2, 3, 4, 5, 6, 7, 8, 9, 10, 11, 12, 13, 14, 15, 16, 17, 18, 19, 20, 21, 22, 23, 24, 25, 26, 27, 28, 29, 30, 31, 32, 33, 34]) [⟨0, [1], [], [], 0⟩, ⟨0, [1], [], [], 0⟩, ⟨0, [], [], [], 0⟩, ⟨0, [], [], [], 6⟩, ⟨0, [], [], [], 14⟩, ⟨0, [1], [], [], 30⟩, ⟨0, [], [], [], 30⟩, ⟨0, [], [], [], 126⟩, ⟨0, [], [], [], 254⟩, ⟨0, [], [], [], 510⟩, ⟨0, [1], [], [], 1022⟩, ⟨0, [], [], [], 1022⟩, ⟨0, [], [], [], 4094⟩, ⟨0, [], [], [], 8190⟩, ⟨0, [], [], [], 16382⟩, ⟨0, [], [], [], 32766⟩, ⟨0, [], [], [], 32766⟩, ⟨0, [], [], [], 131070⟩, ⟨0, [], [], [], 262142⟩, ⟨0, [], [], [], 524286⟩, ⟨0, [], [], [], 1048574⟩, ⟨0, [], [], [], 1048574⟩, ⟨0, [], [], [], 4194302⟩, ⟨0, [], [], [], 8388606⟩, ⟨0, [], [], [], 16777214⟩, ⟨0, [], [], [], 33554430⟩, ⟨0, [], [], [], 33554430⟩, ⟨0, [], [], [], 134217726⟩, ⟨0, [], [], [], 268435454⟩, ⟨0, [], [], [], 536870911⟩, ⟨0, [], [], [], 1073741823⟩, ⟨0, [], [], [], 2147483647⟩, ⟨0, [], [], [], 2147483647⟩, ⟨0, [], [], [], 4294967295⟩, ⟨0, [], [], [], 17179869183⟩] [(0, _), (1, _)] (by kernel_rfl) (by kernel_rfl) rfl ?_
      refine .det (B := []) rfl rfl (.inl rfl) (.cons rfl .nil) .nil rfl (RunB.lr (run_loadN (.tmp rfl) kd25 sz25 (by repeat (first | exact List.Mem.head _ | apply List.Mem.tail)) (by repeat (first | exact Sub.done | apply Sub.take | apply Sub.skip)))) ?_
      refine .det (B := []) rfl rfl (.inl rfl) (.cons rfl .nil) .nil rfl (RunB.lr (run_loadN (.tmp rfl) kd25 sz25 (by repeat (first | exact List.Mem.head _ | apply List.Mem.tail)) (by repeat (first | exact Sub.done | apply Sub.take | apply Sub.skip)))) ?_
      refine .det (B := []) rfl rfl (.inl rfl) .nil .nil rfl (RunB.lr (run_move (.tmp rfl))) ?_
      refine .det (B := []) rfl rfl (.inl rfl) .nil .nil rfl (RunB.lr (run_call1 cb36 (.cons (.tmp rfl) (.cons (.tmp rfl) .nil)) (fun w' _ => (pegK _ _ _ _ _ _ _ _ w' hm).as (congrArg Value.bool hA)))) ?_
      refine .det (B := []) rfl rfl (.inl rfl) .nil .nil rfl (RunB.lr (run_move (.tmp rfl))) ?_
      refine .skip rfl rfl ⟨_, _, _, _, rfl, rfl, rfl, rfl⟩ rfl ?_
      refine .skip rfl rfl ⟨_, _, _, _, rfl, rfl, rfl, rfl⟩ rfl ?_
      refine .skip rfl rfl ⟨_, _, _, _, rfl, rfl, rfl, rfl⟩ rfl ?_
      refine .det (B := []) rfl rfl (.inl rfl) .nil .nil rfl (RunB.lr (by first | exact run_pick_true (.tmp rfl) (.tmp rfl) | exact run_pick_false (.tmp rfl) .const)) ?_
      refine .det (B := []) rfl rfl (.inl rfl) .nil .nil rfl (RunB.lr (run_move (.tmp rfl))) ?_
      refine .skip rfl rfl ⟨_, _, _, _, rfl, rfl, rfl, rfl⟩ rfl ?_
      refine .skip rfl rfl ⟨_, _, _, _, rfl, rfl, rfl, rfl⟩ rfl ?_
      refine .skip rfl rfl ⟨_, _, _, _, rfl, rfl, rfl, rfl⟩ rfl ?_
      refine .det (B := []) rfl rfl (.inl rfl) .nil .nil rfl (RunB.lr (by first | exact run_pick_true (.tmp rfl) (.tmp rfl) | exact run_pick_false (.tmp rfl) .const)) ?_
      refine .det (B := []) rfl rfl (.inl rfl) .nil .nil rfl (RunB.lr (run_move (.tmp rfl))) ?_
      refine .skip rfl rfl ⟨_, _, _, _, rfl, rfl, rfl, rfl⟩ rfl ?_
      refine .skip rfl rfl ⟨_, _, _, _, rfl, rfl, rfl, rfl⟩ rfl ?_
      refine .skip rfl rfl ⟨_, _, _, _, rfl, rfl, rfl, rfl⟩ rfl ?_
      refine .det (B := []) rfl rfl (.inl rfl) .nil .nil rfl (RunB.lr (by first | exact run_pick_true (.tmp rfl) (.tmp rfl) | exact run_pick_false (.tmp rfl) .const)) ?_
      refine .det (B := []) rfl rfl (.inl rfl) .nil .nil rfl (RunB.lr (run_move (.tmp rfl))) ?_
      refine .skip rfl rfl ⟨_, _, _, _, rfl, rfl, rfl, rfl⟩ rfl ?_
      refine .skip rfl rfl ⟨_, _, _, _, rfl, rfl, rfl, rfl⟩ rfl ?_
      refine .skip rfl rfl ⟨_, _, _, _, rfl, rfl, rfl, rfl⟩ rfl ?_
      refine .det (B := []) rfl rfl (.inl rfl) .nil .nil rfl (RunB.lr (by first | exact run_pick_true (.tmp rfl) (.tmp rfl) | exact run_pick_false (.tmp rfl) .const)) ?_
      refine .det (B := []) rfl rfl (.inl rfl) .nil .nil rfl (RunB.lr (run_move (.tmp rfl))) ?_
      refine .skip rfl rfl ⟨_, _, _, _, rfl, rfl, rfl, rfl⟩ rfl ?_
      refine .skip rfl rfl ⟨_, _, _, _, rfl, rfl, rfl, rfl⟩ rfl ?_
      refine .skip rfl rfl ⟨_, _, _, _, rfl, rfl, rfl, rfl⟩ rfl ?_
      refine .det (B := []) rfl rfl (.inl rfl) .nil .nil rfl (RunB.lr (by first | exact run_pick_true (.tmp rfl) (.tmp rfl) | exact run_pick_false (.tmp rfl) .const)) ?_
      refine .det (B := []) rfl rfl (.inl rfl) .nil .nil rfl (RunB.lr (run_call1 cb47 (.cons (.tmp rfl) (.cons (.tmp rfl) .nil)) (fun w' hS => openErr ho pc lc hm hm2 h8 h3 w' (hp.kept hS.kept)))) ?_
      refine .det (B := []) rfl rfl (.inl rfl) .nil .nil rfl (RunB.lr (run_move (.tmp rfl))) ?_
      refine .det (B := []) rfl rfl (.inl rfl) .nil .nil rfl (RunB.lr (run_extract (.tmp rfl) rfl)) ?_
      refine .det (B := []) rfl rfl (.inl rfl) .nil .nil rfl (RunB.lr (run_extract (.tmp rfl) rfl)) ?_
      refine .det (B := []) rfl rfl (.inl rfl) .nil .nil rfl (RunB.lr (run_assign (.tmp rfl))) ?_
      refine .det (B := []) rfl rfl (.inl rfl) .nil .nil rfl (RunB.lr (run_assign (.tmp rfl))) ?_
      refine chain_nil (ts := [0, 1]) (.cons rfl (.cons rfl .nil)) (by decide) ?_
      refine xw_then ?_
      refine cw_seq ?_
      refine cw_seq ?_
      refine cw_region ?_
      refine lstepB rfl rfl rfl (run_move (.tmp rfl)) ?_
      refine lstepB rfl rfl rfl (run_neq (.tmp rfl) .const (by first | exact decide_eq_true (by omega) | exact decide_eq_false (by omega) | exact rfl)) ?_
      refine lnil ?_
      refine xw_then ?_
      refine cw_cond_true (.tmp rfl) ?_
      refine cw_seq ?_
      refine cw_region ?_
      refine lstepB rfl rfl rfl (run_build_at .nil (fun w => bd32_ w)) ?_
      refine lstepB rfl rfl rfl (run_move (.tmp rfl)) ?_
      refine lstep0 rfl rfl (run_storeN (.tmp rfl) (.tmp rfl) rfl sz32 rfl (by repeat (first | exact Upd.here | apply Upd.there)) (by repeat (first | exact Put.done | apply Put.put | apply Put.skip))) ?_
      refine lstepB rfl rfl rfl (run_assign (.tmp rfl)) ?_
      refine lnil ?_
      refine xw_then ?_
      refine cw_ret ?_
      refine xw_then_ret ?_
      refine xw_retC2 rfl rfl rfl kd32 sz32 (by repeat (first | exact List.Mem.head _ | apply List.Mem.tail)) (by repeat (first | exact Sub.done | apply Sub.take | apply Sub.skip)) (fun w' hS => ⟨rfl, hS.kept⟩)
    | ok L => exact absurd (openR_ok ho).2.1 (by decide)
  | true =>
    cases hB0 : isPegB p.ps.length b with
    | false =>
      have h3B : threeB p.ps.length a b c = false := by simp only [threeB, hA, hB0, Bool.false_and, Bool.and_false, Bool.true_and, Bool.not_true, Bool.not_false]
      cases ho : openR p false with
      | error m =>
        obtain ⟨hR, hm0⟩ := area_err (i := a) (j := b) (k := c) (m := m) (by rw [h3B]; exact ho)
        rw [hR]
        refine .mk <| enter (n := 82) Try.func24 rfl rfl rfl (by repeat (first | exact Fill.nil | apply Fill.cons)) ?_
        refine cw_seq ?_
        refine cw_region ?_
        refine lstep rfl rfl rfl (run_boxN (.tmp rfl)) ?_
        intro b4 _
        refine lstep rfl rfl rfl (run_alloc zr32) ?_
        intro b8 _
        refine lstepB rfl rfl rfl (run_assign .const) ?_
        refine lnil ?_
        refine xw_then ?_
        refine cw_seq ?_
        refine cw_chain2 (σ := [0, 1, 2, 3, 4, 5, 6, 7, 8, 9, 10, 11, 12, 13, 14, 15, 16, 17, 18, 19, 20, 21, 22, 23, 24, 25, 26, 27, 28, 29, 30, 31, 32, 33, 34]) [⟨0, [1], [], [], 0⟩, ⟨0, [1], [], [], 0⟩, ⟨0, [], [], [], 0⟩, ⟨0, [], [], [], 6⟩, ⟨0, [], [], [], 14⟩, ⟨0, [1], [], [], 30⟩, ⟨0, [], [], [], 30⟩, ⟨0, [], [], [], 126⟩, ⟨0, [], [], [], 254⟩, ⟨0, [], [], [], 510⟩, ⟨0, [1], [], [], 1022⟩, ⟨0, [], [], [], 1022⟩, ⟨0, [], [], [], 4094⟩, ⟨0, [], [], [], 8190⟩, ⟨0, [], [], [], 16382⟩, ⟨0, [], [], [], 32766⟩, ⟨0, [], [], [], 32766⟩, ⟨0, [], [], [], 131070⟩, ⟨0, [], [], [], 262142⟩, ⟨0, [], [], [], 524286⟩, ⟨0, [], [], [], 1048574⟩, ⟨0, [], [], [], 1048574⟩, ⟨0, [], [], [], 4194302⟩, ⟨0, [], [], [], 8388606⟩, ⟨0, [], [], [], 16777214⟩, ⟨0, [], [], [], 33554430⟩, ⟨0, [], [], [], 33554430⟩, ⟨0, [], [], [], 134217726⟩, ⟨0, [], [], [], 268435454⟩, ⟨0, [], [], [], 536870911⟩, ⟨0, [], [], [], 1073741823⟩, ⟨0, [], [], [], 2147483647⟩, ⟨0, [], [], [], 2147483647⟩, ⟨0, [], [], [], 4294967295⟩, ⟨0, [], [], [], 17179869183⟩] [(0, _), (1, _)] (by kernel_rfl) (by kernel_rfl) rfl ?_
        refine .det (B := []) rfl rfl (.inl rfl) (.cons rfl .nil) .nil rfl (RunB.lr (run_loadN (.tmp rfl) kd25 sz25 (by repeat (first | exact List.Mem.head _ | apply List.Mem.tail)) (by repeat (first | exact Sub.done | apply Sub.take | apply Sub.skip)))) ?_
        refine .det (B := []) rfl rfl (.inl rfl) (.cons rfl .nil) .nil rfl (RunB.lr (run_loadN (.tmp rfl) kd25 sz25 (by repeat (first | exact List.Mem.head _ | apply List.Mem.tail)) (by repeat (first | exact Sub.done | apply Sub.take | apply Sub.skip)))) ?_
        refine .det (B := []) rfl rfl (.inl rfl) .nil .nil rfl (RunB.lr (run_move (.tmp rfl))) ?_
        refine .det (B := []) rfl rfl (.inl rfl) .nil .nil rfl (RunB.lr (run_call1 cb36 (.cons (.tmp rfl) (.cons (.tmp rfl) .nil)) (fun w' _ => (pegK _ _ _ _ _ _ _ _ w' hm).as (congrArg Value.bool hA)))) ?_
        refine .det (B := []) rfl rfl (.inl rfl) .nil .nil rfl (RunB.lr (run_move (.tmp rfl))) ?_
        refine .det (B := []) rfl rfl (.inr ⟨_, _, _, rfl, rfl, rfl⟩) (.cons rfl .nil) .nil rfl (RunB.lr (run_loadN (.tmp rfl) kd25 sz25 (by repeat (first | exact List.Mem.head _ | apply List.Mem.tail)) (by repeat (first | exact Sub.done | apply Sub.take | apply Sub.skip)))) ?_
        refine .det (B := []) rfl rfl (.inr ⟨_, _, _, rfl, rfl, rfl⟩) .nil .nil rfl (RunB.lr (run_move (.tmp rfl))) ?_
        refine .det (B := []) rfl rfl (.inr ⟨_, _, _, rfl, rfl, rfl⟩) .nil .nil rfl (RunB.lr (run_call1 cb36 (.cons (.tmp rfl) (.cons (.tmp rfl) .nil)) (fun w' _ => (pegK _ _ _ _ _ _ _ _ w' hm).as (congrArg Value.bool hB0)))) ?_
        refine .det (B := []) rfl rfl (.inl rfl) .nil .nil rfl (RunB.lr (by first | exact run_pick_true (.tmp rfl) (.tmp rfl) | exact run_pick_false (.tmp rfl) .const)) ?_
        refine .det (B := []) rfl rfl (.inl rfl) .nil .nil rfl (RunB.lr (run_move (.tmp rfl))) ?_
        refine .skip rfl rfl ⟨_, _, _, _, rfl, rfl, rfl, rfl⟩ rfl ?_
        refine .skip rfl rfl ⟨_, _, _, _, rfl, rfl, rfl, rfl⟩ rfl ?_
        refine .skip rfl rfl ⟨_, _, _, _, rfl, rfl, rfl, rfl⟩ rfl ?_
        refine .det (B := []) rfl rfl (.inl rfl) .nil .nil rfl (RunB.lr (by first | exact run_pick_true (.tmp rfl) (.tmp rfl) | exact run_pick_false (.tmp rfl) .const)) ?_
        refine .det (B := []) rfl rfl (.inl rfl) .nil .nil rfl (RunB.lr (run_move (.tmp rfl))) ?_
        refine .skip rfl rfl ⟨_, _, _, _, rfl, rfl, rfl, rfl⟩ rfl ?_
        refine .skip rfl rfl ⟨_, _, _, _, rfl, rfl, rfl, rfl⟩ rfl ?_
        refine .skip rfl rfl ⟨_, _, _, _, rfl, rfl, rfl, rfl⟩ rfl ?_
        refine .det (B := []) rfl rfl (.inl rfl) .nil .nil rfl (RunB.lr (by first | exact run_pick_true (.tmp rfl) (.tmp rfl) | exact run_pick_false (.tmp rfl) .const)) ?_
        refine .det (B := []) rfl rfl (.inl rfl) .nil .nil rfl (RunB.lr (run_move (.tmp rfl))) ?_
        refine .skip rfl rfl ⟨_, _, _, _, rfl, rfl, rfl, rfl⟩ rfl ?_
        refine .skip rfl rfl ⟨_, _, _, _, rfl, rfl, rfl, rfl⟩ rfl ?_
        refine .skip rfl rfl ⟨_, _, _, _, rfl, rfl, rfl, rfl⟩ rfl ?_
        refine .det (B := []) rfl rfl (.inl rfl) .nil .nil rfl (RunB.lr (by first | exact run_pick_true (.tmp rfl) (.tmp rfl) | exact run_pick_false (.tmp rfl) .const)) ?_
        refine .det (B := []) rfl rfl (.inl rfl) .nil .nil rfl (RunB.lr (run_move (.tmp rfl))) ?_
        refine .skip rfl rfl ⟨_, _, _, _, rfl, rfl, rfl, rfl⟩ rfl ?_
        refine .skip rfl rfl ⟨_, _, _, _, rfl, rfl, rfl, rfl⟩ rfl ?_
        refine .skip rfl rfl ⟨_, _, _, _, rfl, rfl, rfl, rfl⟩ rfl ?_
        refine .det (B := []) rfl rfl (.inl rfl) .nil .nil rfl (RunB.lr (by first | exact run_pick_true (.tmp rfl) (.tmp rfl) | exact run_pick_false (.tmp rfl) .const)) ?_
        refine .det (B := []) rfl rfl (.inl rfl) .nil .nil rfl (RunB.lr (run_call1 cb47 (.cons (.tmp rfl) (.cons (.tmp rfl) .nil)) (fun w' hS => openErr ho pc lc hm hm2 h8 h3 w' (hp.kept hS.kept)))) ?_
        refine .det (B := []) rfl rfl (.inl rfl) .nil .nil rfl (RunB.lr (run_move (.tmp rfl))) ?_
        refine .det (B := []) rfl rfl (.inl rfl) .nil .nil rfl (RunB.lr (run_extract (.tmp rfl) rfl)) ?_
        refine .det (B := []) rfl rfl (.inl rfl) .nil .nil rfl (RunB.lr (run_extract (.tmp rfl) rfl)) ?_
        refine .det (B := []) rfl rfl (.inl rfl) .nil .nil rfl (RunB.lr (run_assign (.tmp rfl))) ?_
        refine .det (B := []) rfl rfl (.inl rfl) .nil .nil rfl (RunB.lr (run_assign (.tmp rfl))) ?_
        refine chain_nil (ts := [0, 1]) (.cons rfl (.cons rfl .nil)) (by decide) ?_
        refine xw_then ?_
        refine cw_seq ?_
        refine cw_seq ?_
        refine cw_region ?_
        refine lstepB rfl rfl rfl (run_move (.tmp rfl)) ?_
        refine lstepB rfl rfl rfl (run_neq (.tmp rfl) .const (by first | exact decide_eq_true (by omega) | exact decide_eq_false (by omega) | exact rfl)) ?_
        refine lnil ?_
        refine xw_then ?_
        refine cw_cond_true (.tmp rfl) ?_
        refine cw_seq ?_
        refine cw_region ?_
        refine lstepB rfl rfl rfl (run_build_at .nil (fun w => bd32_ w)) ?_
        refine lstepB rfl rfl rfl (run_move (.tmp rfl)) ?_
        refine lstep0 rfl rfl (run_storeN (.tmp rfl) (.tmp rfl) rfl sz32 rfl (by repeat (first | exact Upd.here | apply Upd.there)) (by repeat (first | exact Put.done | apply Put.put | apply Put.skip))) ?_
        refine lstepB rfl rfl rfl (run_assign (.tmp rfl)) ?_
        refine lnil ?_
        refine xw_then ?_
        refine cw_ret ?_
        refine xw_then_ret ?_
        refine xw_retC2 rfl rfl rfl kd32 sz32 (by repeat (first | exact List.Mem.head _ | apply List.Mem.tail)) (by repeat (first | exact Sub.done | apply Sub.take | apply Sub.skip)) (fun w' hS => ⟨rfl, hS.kept⟩)
      | ok L => exact absurd (openR_ok ho).2.1 (by decide)
    | true =>
      cases hC : isPegB p.ps.length c with
      | false =>
        have h3B : threeB p.ps.length a b c = false := by simp only [threeB, hA, hB0, hC, Bool.false_and, Bool.and_false, Bool.true_and, Bool.not_true, Bool.not_false]
        cases ho : openR p false with
        | error m =>
          obtain ⟨hR, hm0⟩ := area_err (i := a) (j := b) (k := c) (m := m) (by rw [h3B]; exact ho)
          rw [hR]
          refine .mk <| enter (n := 82) Try.func24 rfl rfl rfl (by repeat (first | exact Fill.nil | apply Fill.cons)) ?_
          refine cw_seq ?_
          refine cw_region ?_
          refine lstep rfl rfl rfl (run_boxN (.tmp rfl)) ?_
          intro b4 _
          refine lstep rfl rfl rfl (run_alloc zr32) ?_
          intro b8 _
          refine lstepB rfl rfl rfl (run_assign .const) ?_
          refine lnil ?_
          refine xw_then ?_
          refine cw_seq ?_
          refine cw_chain2 (σ := [0, 1, 2, 3, 4, 5, 6, 7, 8, 9, 10, 11, 12, 13, 14, 15, 16, 17, 18, 19, 20, 21, 22, 23, 24, 25, 26, 27, 28, 29, 30, 31, 32, 33, 34]) [⟨0, [1], [], [], 0⟩, ⟨0, [1], [], [], 0⟩, ⟨0, [], [], [], 0⟩, ⟨0, [], [], [], 6⟩, ⟨0, [], [], [], 14⟩, ⟨0, [1], [], [], 30⟩, ⟨0, [], [], [], 30⟩, ⟨0, [], [], [], 126⟩, ⟨0, [], [], [], 254⟩, ⟨0, [], [], [], 510⟩, ⟨0, [1], [], [], 1022⟩, ⟨0, [], [], [], 1022⟩, ⟨0, [], [], [], 4094⟩, ⟨0, [], [], [], 8190⟩, ⟨0, [], [], [], 16382⟩, ⟨0, [], [], [], 32766⟩, ⟨0, [], [], [], 32766⟩, ⟨0, [], [], [], 131070⟩, ⟨0, [], [], [], 262142⟩, ⟨0, [], [], [], 524286⟩, ⟨0, [], [], [], 1048574⟩, ⟨0, [], [], [], 1048574⟩, ⟨0, [], [], [], 4194302⟩, ⟨0, [], [], [], 8388606⟩, ⟨0, [], [], [], 16777214⟩, ⟨0, [], [], [], 33554430⟩, ⟨0, [], [], [], 33554430⟩, ⟨0, [], [], [], 134217726⟩, ⟨0, [], [], [], 268435454⟩, ⟨0, [], [], [], 536870911⟩, ⟨0, [], [], [], 1073741823⟩, ⟨0, [], [], [], 2147483647⟩, ⟨0, [], [], [], 2147483647⟩, ⟨0, [], [], [], 4294967295⟩, ⟨0, [], [], [], 17179869183⟩] [(0, _), (1, _)] (by kernel_rfl) (by kernel_rfl) rfl ?_
          refine .det (B := []) rfl rfl (.inl rfl) (.cons rfl .nil) .nil rfl (RunB.lr (run_loadN (.tmp rfl) kd25 sz25 (by repeat (first | exact List.Mem.head _ | apply List.Mem.tail)) (by repeat (first | exact Sub.done | apply Sub.take | apply Sub.skip)))) ?_
          refine .det (B := []) rfl rfl (.inl rfl) (.cons rfl .nil) .nil rfl (RunB.lr (run_loadN (.tmp rfl) kd25 sz25 (by repeat (first | exact List.Mem.head _ | apply List.Mem.tail)) (by repeat (first | exact Sub.done | apply Sub.take | apply Sub.skip)))) ?_
          refine .det (B := []) rfl rfl (.inl rfl) .nil .nil rfl (RunB.lr (run_move (.tmp rfl))) ?_
          refine .det (B := []) rfl rfl (.inl rfl) .nil .nil rfl (RunB.lr (run_call1 cb36 (.cons (.tmp rfl) (.cons (.tmp rfl) .nil)) (fun w' _ => (pegK _ _ _ _ _ _ _ _ w' hm).as (congrArg Value.bool hA)))) ?_
          refine .det (B := []) rfl rfl (.inl rfl) .nil .nil rfl (RunB.lr (run_move (.tmp rfl))) ?_
          refine .det (B := []) rfl rfl (.inr ⟨_, _, _, rfl, rfl, rfl⟩) (.cons rfl .nil) .nil rfl (RunB.lr (run_loadN (.tmp rfl) kd25 sz25 (by repeat (first | exact List.Mem.head _ | apply List.Mem.tail)) (by repeat (first | exact Sub.done | apply Sub.take | apply Sub.skip)))) ?_
          refine .det (B := []) rfl rfl (.inr ⟨_, _, _, rfl, rfl, rfl⟩) .nil .nil rfl (RunB.lr (run_move (.tmp rfl))) ?_
          refine .det (B := []) rfl rfl (.inr ⟨_, _, _, rfl, rfl, rfl⟩) .nil .nil rfl (RunB.lr (run_call1 cb36 (.cons (.tmp rfl) (.cons (.tmp rfl) .nil)) (fun w' _ => (pegK _ _ _ _ _ _ _ _ w' hm).as (congrArg Value.bool hB0)))) ?_
          refine .det (B := []) rfl rfl (.inl rfl) .nil .nil rfl (RunB.lr (by first | exact run_pick_true (.tmp rfl) (.tmp rfl) | exact run_pick_false (.tmp rfl) .const)) ?_
          refine .det (B := []) rfl rfl (.inl rfl) .nil .nil rfl (RunB.lr (run_move (.tmp rfl))) ?_
          refine .det (B := []) rfl rfl (.inr ⟨_, _, _, rfl, rfl, rfl⟩) (.cons rfl .nil) .nil rfl (RunB.lr (run_loadN (.tmp rfl) kd25 sz25 (by repeat (first | exact List.Mem.head _ | apply List.Mem.tail)) (by repeat (first | exact Sub.done | apply Sub.take | apply Sub.skip)))) ?_
          refine .det (B := []) rfl rfl (.inr ⟨_, _, _, rfl, rfl, rfl⟩) .nil .nil rfl (RunB.lr (run_move (.tmp rfl))) ?_
          refine .det (B := []) rfl rfl (.inr ⟨_, _, _, rfl, rfl, rfl⟩) .nil .nil rfl (RunB.lr (run_call1 cb36 (.cons (.tmp rfl) (.cons (.tmp rfl) .nil)) (fun w' _ => (pegK _ _ _ _ _ _ _ _ w' hm).as (congrArg Value.bool hC)))) ?_
          refine .det (B := []) rfl rfl (.inl rfl) .nil .nil rfl (RunB.lr (by first | exact run_pick_true (.tmp rfl) (.tmp rfl) | exact run_pick_false (.tmp rfl) .const)) ?_
          refine .det (B := []) rfl rfl (.inl rfl) .nil .nil rfl (RunB.lr (run_move (.tmp rfl))) ?_
          refine .skip rfl rfl ⟨_, _, _, _, rfl, rfl, rfl, rfl⟩ rfl ?_
          refine .skip rfl rfl ⟨_, _, _, _, rfl, rfl, rfl, rfl⟩ rfl ?_
          refine .skip rfl rfl ⟨_, _, _, _, rfl, rfl, rfl, rfl⟩ rfl ?_
          refine .det (B := []) rfl rfl (.inl rfl) .nil .nil rfl (RunB.lr (by first | exact run_pick_true (.tmp rfl) (.tmp rfl) | exact run_pick_false (.tmp rfl) .const)) ?_
          refine .det (B := []) rfl rfl (.inl rfl) .nil .nil rfl (RunB.lr (run_move (.tmp rfl))) ?_
          refine .skip rfl rfl ⟨_, _, _, _, rfl, rfl, rfl, rfl⟩ rfl ?_
          refine .skip rfl rfl ⟨_, _, _, _, rfl, rfl, rfl, rfl⟩ rfl ?_
          refine .skip rfl rfl ⟨_, _, _, _, rfl, rfl, rfl, rfl⟩ rfl ?_
          refine .det (B := []) rfl rfl (.inl rfl) .nil .nil rfl (RunB.lr (by first | exact run_pick_true (.tmp rfl) (.tmp rfl) | exact run_pick_false (.tmp rfl) .const)) ?_
          refine .det (B := []) rfl rfl (.inl rfl) .nil .nil rfl (RunB.lr (run_move (.tmp rfl))) ?_
          refine .skip rfl rfl ⟨_, _, _, _, rfl, rfl, rfl, rfl⟩ rfl ?_
          refine .skip rfl rfl ⟨_, _, _, _, rfl, rfl, rfl, rfl⟩ rfl ?_
          refine .skip rfl rfl ⟨_, _, _, _, rfl, rfl, rfl, rfl⟩ rfl ?_
          refine .det (B := []) rfl rfl (.inl rfl) .nil .nil rfl (RunB.lr (by first | exact run_pick_true (.tmp rfl) (.tmp rfl) | exact run_pick_false (.tmp rfl) .const)) ?_
          refine .det (B := []) rfl rfl (.inl rfl) .nil .nil rfl (RunB.lr (run_call1 cb47 (.cons (.tmp rfl) (.cons (.tmp rfl) .nil)) (fun w' hS => openErr ho pc lc hm hm2 h8 h3 w' (hp.kept hS.kept)))) ?_
          refine .det (B := []) rfl rfl (.inl rfl) .nil .nil rfl (RunB.lr (run_move (.tmp rfl))) ?_
          refine .det (B := []) rfl rfl (.inl rfl) .nil .nil rfl (RunB.lr (run_extract (.tmp rfl) rfl)) ?_
          refine .det (B := []) rfl rfl (.inl rfl) .nil .nil rfl (RunB.lr (run_extract (.tmp rfl) rfl)) ?_
          refine .det (B := []) rfl rfl (.inl rfl) .nil .nil rfl (RunB.lr (run_assign (.tmp rfl))) ?_
          refine .det (B := []) rfl rfl (.inl rfl) .nil .nil rfl (RunB.lr (run_assign (.tmp rfl))) ?_
          refine chain_nil (ts := [0, 1]) (.cons rfl (.cons rfl .nil)) (by decide) ?_
          refine xw_then ?_
          refine cw_seq ?_
          refine cw_seq ?_
          refine cw_region ?_
          refine lstepB rfl rfl rfl (run_move (.tmp rfl)) ?_
          refine lstepB rfl rfl rfl (run_neq (.tmp rfl) .const (by first | exact decide_eq_true (by omega) | exact decide_eq_false (by omega) | exact rfl)) ?_
          refine lnil ?_
          refine xw_then ?_
          refine cw_cond_true (.tmp rfl) ?_
          refine cw_seq ?_
          refine cw_region ?_
          refine lstepB rfl rfl rfl (run_build_at .nil (fun w => bd32_ w)) ?_
          refine lstepB rfl rfl rfl (run_move (.tmp rfl)) ?_
          refine lstep0 rfl rfl (run_storeN (.tmp rfl) (.tmp rfl) rfl sz32 rfl (by repeat (first | exact Upd.here | apply Upd.there)) (by repeat (first | exact Put.done | apply Put.put | apply Put.skip))) ?_
          refine lstepB rfl rfl rfl (run_assign (.tmp rfl)) ?_
          refine lnil ?_
          refine xw_then ?_
          refine cw_ret ?_
          refine xw_then_ret ?_
          refine xw_retC2 rfl rfl rfl kd32 sz32 (by repeat (first | exact List.Mem.head _ | apply List.Mem.tail)) (by repeat (first | exact Sub.done | apply Sub.take | apply Sub.skip)) (fun w' hS => ⟨rfl, hS.kept⟩)
        | ok L => exact absurd (openR_ok ho).2.1 (by decide)
      | true =>
        by_cases d1 : a = b
        ·
          have h3B : threeB p.ps.length a b c = false := by simp only [threeB, hA, hB0, hC, decide_eq_true d1, Bool.false_and, Bool.and_false, Bool.true_and, Bool.not_true, Bool.not_false]
          cases ho : openR p false with
          | error m =>
            obtain ⟨hR, hm0⟩ := area_err (i := a) (j := b) (k := c) (m := m) (by rw [h3B]; exact ho)
            rw [hR]
            refine .mk <| enter (n := 82) Try.func24 rfl rfl rfl (by repeat (first | exact Fill.nil | apply Fill.cons)) ?_
            refine cw_seq ?_
            refine cw_region ?_
            refine lstep rfl rfl rfl (run_boxN (.tmp rfl)) ?_
            intro b4 _
            refine lstep rfl rfl rfl (run_alloc zr32) ?_
            intro b8 _
            refine lstepB rfl rfl rfl (run_assign .const) ?_
            refine lnil ?_
            refine xw_then ?_
            refine cw_seq ?_
            refine cw_chain2 (σ := [0, 1, 2, 3, 4, 5, 6, 7, 8, 9, 10, 11, 12, 13, 14, 15, 16, 17, 18, 19, 20, 21, 22, 23, 24, 25, 26, 27, 28, 29, 30, 31, 32, 33, 34]) [⟨0, [1], [], [], 0⟩, ⟨0, [1], [], [], 0⟩, ⟨0, [], [], [], 0⟩, ⟨0, [], [], [], 6⟩, ⟨0, [], [], [], 14⟩, ⟨0, [1], [], [], 30⟩, ⟨0, [], [], [], 30⟩, ⟨0, [], [], [], 126⟩, ⟨0, [], [], [], 254⟩, ⟨0, [], [], [], 510⟩, ⟨0, [1], [], [], 1022⟩, ⟨0, [], [], [], 1022⟩, ⟨0, [], [], [], 4094⟩, ⟨0, [], [], [], 8190⟩, ⟨0, [], [], [], 16382⟩, ⟨0, [], [], [], 32766⟩, ⟨0, [], [], [], 32766⟩, ⟨0, [], [], [], 131070⟩, ⟨0, [], [], [], 262142⟩, ⟨0, [], [], [], 524286⟩, ⟨0, [], [], [], 1048574⟩, ⟨0, [], [], [], 1048574⟩, ⟨0, [], [], [], 4194302⟩, ⟨0, [], [], [], 8388606⟩, ⟨0, [], [], [], 16777214⟩, ⟨0, [], [], [], 33554430⟩, ⟨0, [], [], [], 33554430⟩, ⟨0, [], [], [], 134217726⟩, ⟨0, [], [], [], 268435454⟩, ⟨0, [], [], [], 536870911⟩, ⟨0, [], [], [], 1073741823⟩, ⟨0, [], [], [], 2147483647⟩, ⟨0, [], [], [], 2147483647⟩, ⟨0, [], [], [], 4294967295⟩, ⟨0, [], [], [], 17179869183⟩] [(0, _), (1, _)] (by kernel_rfl) (by kernel_rfl) rfl ?_
            refine .det (B := []) rfl rfl (.inl rfl) (.cons rfl .nil) .nil rfl (RunB.lr (run_loadN (.tmp rfl) kd25 sz25 (by repeat (first | exact List.Mem.head _ | apply List.Mem.tail)) (by repeat (first | exact Sub.done | apply Sub.take | apply Sub.skip)))) ?_
            refine .det (B := []) rfl rfl (.inl rfl) (.cons rfl .nil) .nil rfl (RunB.lr (run_loadN (.tmp rfl) kd25 sz25 (by repeat (first | exact List.Mem.head _ | apply List.Mem.tail)) (by repeat (first | exact Sub.done | apply Sub.take | apply Sub.skip)))) ?_
            refine .det (B := []) rfl rfl (.inl rfl) .nil .nil rfl (RunB.lr (run_move (.tmp rfl))) ?_
            refine .det (B := []) rfl rfl (.inl rfl) .nil .nil rfl (RunB.lr (run_call1 cb36 (.cons (.tmp rfl) (.cons (.tmp rfl) .nil)) (fun w' _ => (pegK _ _ _ _ _ _ _ _ w' hm).as (congrArg Value.bool hA)))) ?_
            refine .det (B := []) rfl rfl (.inl rfl) .nil .nil rfl (RunB.lr (run_move (.tmp rfl))) ?_
            refine .det (B := []) rfl rfl (.inr ⟨_, _, _, rfl, rfl, rfl⟩) (.cons rfl .nil) .nil rfl (RunB.lr (run_loadN (.tmp rfl) kd25 sz25 (by repeat (first | exact List.Mem.head _ | apply List.Mem.tail)) (by repeat (first | exact Sub.done | apply Sub.take | apply Sub.skip)))) ?_
            refine .det (B := []) rfl rfl (.inr ⟨_, _, _, rfl, rfl, rfl⟩) .nil .nil rfl (RunB.lr (run_move (.tmp rfl))) ?_
            refine .det (B := []) rfl rfl (.inr ⟨_, _, _, rfl, rfl, rfl⟩) .nil .nil rfl (RunB.lr (run_call1 cb36 (.cons (.tmp rfl) (.cons (.tmp rfl) .nil)) (fun w' _ => (pegK _ _ _ _ _ _ _ _ w' hm).as (congrArg Value.bool hB0)))) ?_
            refine .det (B := []) rfl rfl (.inl rfl) .nil .nil rfl (RunB.lr (by first | exact run_pick_true (.tmp rfl) (.tmp rfl) | exact run_pick_false (.tmp rfl) .const)) ?_
            refine .det (B := []) rfl rfl (.inl rfl) .nil .nil rfl (RunB.lr (run_move (.tmp rfl))) ?_
            refine .det (B := []) rfl rfl (.inr ⟨_, _, _, rfl, rfl, rfl⟩) (.cons rfl .nil) .nil rfl (RunB.lr (run_loadN (.tmp rfl) kd25 sz25 (by repeat (first | exact List.Mem.head _ | apply List.Mem.tail)) (by repeat (first | exact Sub.done | apply Sub.take | apply Sub.skip)))) ?_
            refine .det (B := []) rfl rfl (.inr ⟨_, _, _, rfl, rfl, rfl⟩) .nil .nil rfl (RunB.lr (run_move (.tmp rfl))) ?_
            refine .det (B := []) rfl rfl (.inr ⟨_, _, _, rfl, rfl, rfl⟩) .nil .nil rfl (RunB.lr (run_call1 cb36 (.cons (.tmp rfl) (.cons (.tmp rfl) .nil)) (fun w' _ => (pegK _ _ _ _ _ _ _ _ w' hm).as (congrArg Value.bool hC)))) ?_
            refine .det (B := []) rfl rfl (.inl rfl) .nil .nil rfl (RunB.lr (by first | exact run_pick_true (.tmp rfl) (.tmp rfl) | exact run_pick_false (.tmp rfl) .const)) ?_
            refine .det (B := []) rfl rfl (.inl rfl) .nil .nil rfl (RunB.lr (run_move (.tmp rfl))) ?_
            refine .det (B := []) rfl rfl (.inr ⟨_, _, _, rfl, rfl, rfl⟩) .nil .nil rfl (RunB.lr (run_move (.tmp rfl))) ?_
            refine .det (B := []) rfl rfl (.inr ⟨_, _, _, rfl, rfl, rfl⟩) .nil .nil rfl (RunB.lr (run_move (.tmp rfl))) ?_
            refine .det (B := []) rfl rfl (.inr ⟨_, _, _, rfl, rfl, rfl⟩) .nil .nil rfl (RunB.lr (run_neq (.tmp rfl) (.tmp rfl) (by first | exact decide_eq_true (by omega) | exact decide_eq_false (by omega) | exact rfl))) ?_
            refine .det (B := []) rfl rfl (.inl rfl) .nil .nil rfl (RunB.lr (by first | exact run_pick_true (.tmp rfl) (.tmp rfl) | exact run_pick_false (.tmp rfl) .const)) ?_
            refine .det (B := []) rfl rfl (.inl rfl) .nil .nil rfl (RunB.lr (run_move (.tmp rfl))) ?_
            refine .skip rfl rfl ⟨_, _, _, _, rfl, rfl, rfl, rfl⟩ rfl ?_
            refine .skip rfl rfl ⟨_, _, _, _, rfl, rfl, rfl, rfl⟩ rfl ?_
            refine .skip rfl rfl ⟨_, _, _, _, rfl, rfl, rfl, rfl⟩ rfl ?_
            refine .det (B := []) rfl rfl (.inl rfl) .nil .nil rfl (RunB.lr (by first | exact run_pick_true (.tmp rfl) (.tmp rfl) | exact run_pick_false (.tmp rfl) .const)) ?_
            refine .det (B := []) rfl rfl (.inl rfl) .nil .nil rfl (RunB.lr (run_move (.tmp rfl))) ?_
            refine .skip rfl rfl ⟨_, _, _, _, rfl, rfl, rfl, rfl⟩ rfl ?_
            refine .skip rfl rfl ⟨_, _, _, _, rfl, rfl, rfl, rfl⟩ rfl ?_
            refine .skip rfl rfl ⟨_, _, _, _, rfl, rfl, rfl, rfl⟩ rfl ?_
            refine .det (B := []) rfl rfl (.inl rfl) .nil .nil rfl (RunB.lr (by first | exact run_pick_true (.tmp rfl) (.tmp rfl) | exact run_pick_false (.tmp rfl) .const)) ?_
            refine .det (B := []) rfl rfl (.inl rfl) .nil .nil rfl (RunB.lr (run_call1 cb47 (.cons (.tmp rfl) (.cons (.tmp rfl) .nil)) (fun w' hS => openErr ho pc lc hm hm2 h8 h3 w' (hp.kept hS.kept)))) ?_
            refine .det (B := []) rfl rfl (.inl rfl) .nil .nil rfl (RunB.lr (run_move (.tmp rfl))) ?_
            refine .det (B := []) rfl rfl (.inl rfl) .nil .nil rfl (RunB.lr (run_extract (.tmp rfl) rfl)) ?_
            refine .det (B := []) rfl rfl (.inl rfl) .nil .nil rfl (RunB.lr (run_extract (.tmp rfl) rfl)) ?_
            refine .det (B := []) rfl rfl (.inl rfl) .nil .nil rfl (RunB.lr (run_assign (.tmp rfl))) ?_
            refine .det (B := []) rfl rfl (.inl rfl) .nil .nil rfl (RunB.lr (run_assign (.tmp rfl))) ?_
            refine chain_nil (ts := [0, 1]) (.cons rfl (.cons rfl .nil)) (by decide) ?_
            refine xw_then ?_
            refine cw_seq ?_
            refine cw_seq ?_
            refine cw_region ?_
            refine lstepB rfl rfl rfl (run_move (.tmp rfl)) ?_
            refine lstepB rfl rfl rfl (run_neq (.tmp rfl) .const (by first | exact decide_eq_true (by omega) | exact decide_eq_false (by omega) | exact rfl)) ?_
            refine lnil ?_
            refine xw_then ?_
            refine cw_cond_true (.tmp rfl) ?_
            refine cw_seq ?_
            refine cw_region ?_
            refine lstepB rfl rfl rfl (run_build_at .nil (fun w => bd32_ w)) ?_
            refine lstepB rfl rfl rfl (run_move (.tmp rfl)) ?_
            refine lstep0 rfl rfl (run_storeN (.tmp rfl) (.tmp rfl) rfl sz32 rfl (by repeat (first | exact Upd.here | apply Upd.there)) (by repeat (first | exact Put.done | apply Put.put | apply Put.skip))) ?_
            refine lstepB rfl rfl rfl (run_assign (.tmp rfl)) ?_
            refine lnil ?_
            refine xw_then ?_
            refine cw_ret ?_
            refine xw_then_ret ?_
            refine xw_retC2 rfl rfl rfl kd32 sz32 (by repeat (first | exact List.Mem.head _ | apply List.Mem.tail)) (by repeat (first | exact Sub.done | apply Sub.take | apply Sub.skip)) (fun w' hS => ⟨rfl, hS.kept⟩)
          | ok L => exact absurd (openR_ok ho).2.1 (by decide)
        ·
          by_cases d2 : a = c
          ·
            have h3B : threeB p.ps.length a b c = false := by simp only [threeB, hA, hB0, hC, decide_eq_false d1, decide_eq_true d2, Bool.false_and, Bool.and_false, Bool.true_and, Bool.not_true, Bool.not_false]
            cases ho : openR p false with
            | error m =>
              obtain ⟨hR, hm0⟩ := area_err (i := a) (j := b) (k := c) (m := m) (by rw [h3B]; exact ho)
              rw [hR]
              refine .mk <| enter (n := 82) Try.func24 rfl rfl rfl (by repeat (first | exact Fill.nil | apply Fill.cons)) ?_
              refine cw_seq ?_
              refine cw_region ?_
              refine lstep rfl rfl rfl (run_boxN (.tmp rfl)) ?_
              intro b4 _
              refine lstep rfl rfl rfl (run_alloc zr32) ?_
              intro b8 _
              refine lstepB rfl rfl rfl (run_assign .const) ?_
              refine lnil ?_
              refine xw_then ?_
              refine cw_seq ?_
              refine cw_chain2 (σ := [0, 1, 2, 3, 4, 5, 6, 7, 8, 9, 10, 11, 12, 13, 14, 15, 16, 17, 18, 19, 20, 21, 22, 23, 24, 25, 26, 27, 28, 29, 30, 31, 32, 33, 34]) [⟨0, [1], [], [], 0⟩, ⟨0, [1], [], [], 0⟩, ⟨0, [], [], [], 0⟩, ⟨0, [], [], [], 6⟩, ⟨0, [], [], [], 14⟩, ⟨0, [1], [], [], 30⟩, ⟨0, [], [], [], 30⟩, ⟨0, [], [], [], 126⟩, ⟨0, [], [], [], 254⟩, ⟨0, [], [], [], 510⟩, ⟨0, [1], [], [], 1022⟩, ⟨0, [], [], [], 1022⟩, ⟨0, [], [], [], 4094⟩, ⟨0, [], [], [], 8190⟩, ⟨0, [], [], [], 16382⟩, ⟨0, [], [], [], 32766⟩, ⟨0, [], [], [], 32766⟩, ⟨0, [], [], [], 131070⟩, ⟨0, [], [], [], 262142⟩, ⟨0, [], [], [], 524286⟩, ⟨0, [], [], [], 1048574⟩, ⟨0, [], [], [], 1048574⟩, ⟨0, [], [], [], 4194302⟩, ⟨0, [], [], [], 8388606⟩, ⟨0, [], [], [], 16777214⟩, ⟨0, [], [], [], 33554430⟩, ⟨0, [], [], [], 33554430⟩, ⟨0, [], [], [], 134217726⟩, ⟨0, [], [], [], 268435454⟩, ⟨0, [], [], [], 536870911⟩, ⟨0, [], [], [], 1073741823⟩, ⟨0, [], [], [], 2147483647⟩, ⟨0, [], [], [], 2147483647⟩, ⟨0, [], [], [], 4294967295⟩, ⟨0, [], [], [], 17179869183⟩] [(0, _), (1, _)] (by kernel_rfl) (by kernel_rfl) rfl ?_
              refine .det (B := []) rfl rfl (.inl rfl) (.cons rfl .nil) .nil rfl (RunB.lr (run_loadN (.tmp rfl) kd25 sz25 (by repeat (first | exact List.Mem.head _ | apply List.Mem.tail)) (by repeat (first | exact Sub.done | apply Sub.take | apply Sub.skip)))) ?_
              refine .det (B := []) rfl rfl (.inl rfl) (.cons rfl .nil) .nil rfl (RunB.lr (run_loadN (.tmp rfl) kd25 sz25 (by repeat (first | exact List.Mem.head _ | apply List.Mem.tail)) (by repeat (first | exact Sub.done | apply Sub.take | apply Sub.skip)))) ?_
              refine .det (B := []) rfl rfl (.inl rfl) .nil .nil rfl (RunB.lr (run_move (.tmp rfl))) ?_
              refine .det (B := []) rfl rfl (.inl rfl) .nil .nil rfl (RunB.lr (run_call1 cb36 (.cons (.tmp rfl) (.cons (.tmp rfl) .nil)) (fun w' _ => (pegK _ _ _ _ _ _ _ _ w' hm).as (congrArg Value.bool hA)))) ?_
              refine .det (B := []) rfl rfl (.inl rfl) .nil .nil rfl (RunB.lr (run_move (.tmp rfl))) ?_
              refine .det (B := []) rfl rfl (.inr ⟨_, _, _, rfl, rfl, rfl⟩) (.cons rfl .nil) .nil rfl (RunB.lr (run_loadN (.tmp rfl) kd25 sz25 (by repeat (first | exact List.Mem.head _ | apply List.Mem.tail)) (by repeat (first | exact Sub.done | apply Sub.take | apply Sub.skip)))) ?_
              refine .det (B := []) rfl rfl (.inr ⟨_, _, _, rfl, rfl, rfl⟩) .nil .nil rfl (RunB.lr (run_move (.tmp rfl))) ?_
              refine .det (B := []) rfl rfl (.inr ⟨_, _, _, rfl, rfl, rfl⟩) .nil .nil rfl (RunB.lr (run_call1 cb36 (.cons (.tmp rfl) (.cons (.tmp rfl) .nil)) (fun w' _ => (pegK _ _ _ _ _ _ _ _ w' hm).as (congrArg Value.bool hB0)))) ?_
              refine .det (B := []) rfl rfl (.inl rfl) .nil .nil rfl (RunB.lr (by first | exact run_pick_true (.tmp rfl) (.tmp rfl) | exact run_pick_false (.tmp rfl) .const)) ?_
              refine .det (B := []) rfl rfl (.inl rfl) .nil .nil rfl (RunB.lr (run_move (.tmp rfl))) ?_
              refine .det (B := []) rfl rfl (.inr ⟨_, _, _, rfl, rfl, rfl⟩) (.cons rfl .nil) .nil rfl (RunB.lr (run_loadN (.tmp rfl) kd25 sz25 (by repeat (first | exact List.Mem.head _ | apply List.Mem.tail)) (by repeat (first | exact Sub.done | apply Sub.take | apply Sub.skip)))) ?_
              refine .det (B := []) rfl rfl (.inr ⟨_, _, _, rfl, rfl, rfl⟩) .nil .nil rfl (RunB.lr (run_move (.tmp rfl))) ?_
              refine .det (B := []) rfl rfl (.inr ⟨_, _, _, rfl, rfl, rfl⟩) .nil .nil rfl (RunB.lr (run_call1 cb36 (.cons (.tmp rfl) (.cons (.tmp rfl) .nil)) (fun w' _ => (pegK _ _ _ _ _ _ _ _ w' hm).as (congrArg Value.bool hC)))) ?_
              refine .det (B := []) rfl rfl (.inl rfl) .nil .nil rfl (RunB.lr (by first | exact run_pick_true (.tmp rfl) (.tmp rfl) | exact run_pick_false (.tmp rfl) .const)) ?_
              refine .det (B := []) rfl rfl (.inl rfl) .nil .nil rfl (RunB.lr (run_move (.tmp rfl))) ?_
              refine .det (B := []) rfl rfl (.inr ⟨_, _, _, rfl, rfl, rfl⟩) .nil .nil rfl (RunB.lr (run_move (.tmp rfl))) ?_
              refine .det (B := []) rfl rfl (.inr ⟨_, _, _, rfl, rfl, rfl⟩) .nil .nil rfl (RunB.lr (run_move (.tmp rfl))) ?_
              refine .det (B := []) rfl rfl (.inr ⟨_, _, _, rfl, rfl, rfl⟩) .nil .nil rfl (RunB.lr (run_neq (.tmp rfl) (.tmp rfl) (by first | exact decide_eq_true (by omega) | exact decide_eq_false (by omega) | exact rfl))) ?_
              refine .det (B := []) rfl rfl (.inl rfl) .nil .nil rfl (RunB.lr (by first | exact run_pick_true (.tmp rfl) (.tmp rfl) | exact run_pick_false (.tmp rfl) .const)) ?_
              refine .det (B := []) rfl rfl (.inl rfl) .nil .nil rfl (RunB.lr (run_move (.tmp rfl))) ?_
              refine .det (B := []) rfl rfl (.inr ⟨_, _, _, rfl, rfl, rfl⟩) .nil .nil rfl (RunB.lr (run_move (.tmp rfl))) ?_
              refine .det (B := []) rfl rfl (.inr ⟨_, _, _, rfl, rfl, rfl⟩) .nil .nil rfl (RunB.lr (run_move (.tmp rfl))) ?_
              refine .det (B := []) rfl rfl (.inr ⟨_, _, _, rfl, rfl, rfl⟩) .nil .nil rfl (RunB.lr (run_neq (.tmp rfl) (.tmp rfl) (by first | exact decide_eq_true (by omega) | exact decide_eq_false (by omega) | exact rfl))) ?_
              refine .det (B := []) rfl rfl (.inl rfl) .nil .nil rfl (RunB.lr (by first | exact run_pick_true (.tmp rfl) (.tmp rfl) | exact run_pick_false (.tmp rfl) .const)) ?_
              refine .det (B := []) rfl rfl (.inl rfl) .nil .nil rfl (RunB.lr (run_move (.tmp rfl))) ?_
              refine .skip rfl rfl ⟨_, _, _, _, rfl, rfl, rfl, rfl⟩ rfl ?_
              refine .skip rfl rfl ⟨_, _, _, _, rfl, rfl, rfl, rfl⟩ rfl ?_
              refine .skip rfl rfl ⟨_, _, _, _, rfl, rfl, rfl, rfl⟩ rfl ?_
              refine .det (B := []) rfl rfl (.inl rfl) .nil .nil rfl (RunB.lr (by first | exact run_pick_true (.tmp rfl) (.tmp rfl) | exact run_pick_false (.tmp rfl) .const)) ?_
              refine .det (B := []) rfl rfl (.inl rfl) .nil .nil rfl (RunB.lr (run_call1 cb47 (.cons (.tmp rfl) (.cons (.tmp rfl) .nil)) (fun w' hS => openErr ho pc lc hm hm2 h8 h3 w' (hp.kept hS.kept)))) ?_
              refine .det (B := []) rfl rfl (.inl rfl) .nil .nil rfl (RunB.lr (run_move (.tmp rfl))) ?_
              refine .det (B := []) rfl rfl (.inl rfl) .nil .nil rfl (RunB.lr (run_extract (.tmp rfl) rfl)) ?_
              refine .det (B := []) rfl rfl (.inl rfl) .nil .nil rfl (RunB.lr (run_extract (.tmp rfl) rfl)) ?_
              refine .det (B := []) rfl rfl (.inl rfl) .nil .nil rfl (RunB.lr (run_assign (.tmp rfl))) ?_
              refine .det (B := []) rfl rfl (.inl rfl) .nil .nil rfl (RunB.lr (run_assign (.tmp rfl))) ?_
              refine chain_nil (ts := [0, 1]) (.cons rfl (.cons rfl .nil)) (by decide) ?_
              refine xw_then ?_
              refine cw_seq ?_
              refine cw_seq ?_
              refine cw_region ?_
              refine lstepB rfl rfl rfl (run_move (.tmp rfl)) ?_
              refine lstepB rfl rfl rfl (run_neq (.tmp rfl) .const (by first | exact decide_eq_true (by omega) | exact decide_eq_false (by omega) | exact rfl)) ?_
              refine lnil ?_
              refine xw_then ?_
              refine cw_cond_true (.tmp rfl) ?_
              refine cw_seq ?_
              refine cw_region ?_
              refine lstepB rfl rfl rfl (run_build_at .nil (fun w => bd32_ w)) ?_
              refine lstepB rfl rfl rfl (run_move (.tmp rfl)) ?_
              refine lstep0 rfl rfl (run_storeN (.tmp rfl) (.tmp rfl) rfl sz32 rfl (by repeat (first | exact Upd.here | apply Upd.there)) (by repeat (first | exact Put.done | apply Put.put | apply Put.skip))) ?_
              refine lstepB rfl rfl rfl (run_assign (.tmp rfl)) ?_
              refine lnil ?_
              refine xw_then ?_
              refine cw_ret ?_
              refine xw_then_ret ?_
              refine xw_retC2 rfl rfl rfl kd32 sz32 (by repeat (first | exact List.Mem.head _ | apply List.Mem.tail)) (by repeat (first | exact Sub.done | apply Sub.take | apply Sub.skip)) (fun w' hS => ⟨rfl, hS.kept⟩)
            | ok L => exact absurd (openR_ok ho).2.1 (by decide)
          ·
            by_cases d3 : b = c
            ·
              have h3B : threeB p.ps.length a b c = false := by simp only [threeB, hA, hB0, hC, decide_eq_false d1, decide_eq_false d2, decide_eq_true d3, Bool.false_and, Bool.and_false, Bool.true_and, Bool.not_true, Bool.not_false]
              cases ho : openR p false with
              | error m =>
                obtain ⟨hR, hm0⟩ := area_err (i := a) (j := b) (k := c) (m := m) (by rw [h3B]; exact ho)
                rw [hR]
                refine .mk <| enter (n := 82) Try.func24 rfl rfl rfl (by repeat (first | exact Fill.nil | apply Fill.cons)) ?_
                refine cw_seq ?_
                refine cw_region ?_
                refine lstep rfl rfl rfl (run_boxN (.tmp rfl)) ?_
                intro b4 _
                refine lstep rfl rfl rfl (run_alloc zr32) ?_
                intro b8 _
                refine lstepB rfl rfl rfl (run_assign .const) ?_
                refine lnil ?_
                refine xw_then ?_
                refine cw_seq ?_
                refine cw_chain2 (σ := [0, 1, 2, 3, 4, 5, 6, 7, 8, 9, 10, 11, 12, 13, 14, 15, 16, 17, 18, 19, 20, 21, 22, 23, 24, 25, 26, 27, 28, 29, 30, 31, 32, 33, 34]) [⟨0, [1], [], [], 0⟩, ⟨0, [1], [], [], 0⟩, ⟨0, [], [], [], 0⟩, ⟨0, [], [], [], 6⟩, ⟨0, [], [], [], 14⟩, ⟨0, [1], [], [], 30⟩, ⟨0, [], [], [], 30⟩, ⟨0, [], [], [], 126⟩, ⟨0, [], [], [], 254⟩, ⟨0, [], [], [], 510⟩, ⟨0, [1], [], [], 1022⟩, ⟨0, [], [], [], 1022⟩, ⟨0, [], [], [], 4094⟩, ⟨0, [], [], [], 8190⟩, ⟨0, [], [], [], 16382⟩, ⟨0, [], [], [], 32766⟩, ⟨0, [], [], [], 32766⟩, ⟨0, [], [], [], 131070⟩, ⟨0, [], [], [], 262142⟩, ⟨0, [], [], [], 524286⟩, ⟨0, [], [], [], 1048574⟩, ⟨0, [], [], [], 1048574⟩, ⟨0, [], [], [], 4194302⟩, ⟨0, [], [], [], 8388606⟩, ⟨0, [], [], [], 16777214⟩, ⟨0, [], [], [], 33554430⟩, ⟨0, [], [], [], 33554430⟩, ⟨0, [], [], [], 134217726⟩, ⟨0, [], [], [], 268435454⟩, ⟨0, [], [], [], 536870911⟩, ⟨0, [], [], [], 1073741823⟩, ⟨0, [], [], [], 2147483647⟩, ⟨0, [], [], [], 2147483647⟩, ⟨0, [], [], [], 4294967295⟩, ⟨0, [], [], [], 17179869183⟩] [(0, _), (1, _)] (by kernel_rfl) (by kernel_rfl) rfl ?_
                refine .det (B := []) rfl rfl (.inl rfl) (.cons rfl .nil) .nil rfl (RunB.lr (run_loadN (.tmp rfl) kd25 sz25 (by repeat (first | exact List.Mem.head _ | apply List.Mem.tail)) (by repeat (first | exact Sub.done | apply Sub.take | apply Sub.skip)))) ?_
                refine .det (B := []) rfl rfl (.inl rfl) (.cons rfl .nil) .nil rfl (RunB.lr (run_loadN (.tmp rfl) kd25 sz25 (by repeat (first | exact List.Mem.head _ | apply List.Mem.tail)) (by repeat (first | exact Sub.done | apply Sub.take | apply Sub.skip)))) ?_
                refine .det (B := []) rfl rfl (.inl rfl) .nil .nil rfl (RunB.lr (run_move (.tmp rfl))) ?_
                refine .det (B := []) rfl rfl (.inl rfl) .nil .nil rfl (RunB.lr (run_call1 cb36 (.cons (.tmp rfl) (.cons (.tmp rfl) .nil)) (fun w' _ => (pegK _ _ _ _ _ _ _ _ w' hm).as (congrArg Value.bool hA)))) ?_
                refine .det (B := []) rfl rfl (.inl rfl) .nil .nil rfl (RunB.lr (run_move (.tmp rfl))) ?_
                refine .det (B := []) rfl rfl (.inr ⟨_, _, _, rfl, rfl, rfl⟩) (.cons rfl .nil) .nil rfl (RunB.lr (run_loadN (.tmp rfl) kd25 sz25 (by repeat (first | exact List.Mem.head _ | apply List.Mem.tail)) (by repeat (first | exact Sub.done | apply Sub.take | apply Sub.skip)))) ?_
                refine .det (B := []) rfl rfl (.inr ⟨_, _, _, rfl, rfl, rfl⟩) .nil .nil rfl (RunB.lr (run_move (.tmp rfl))) ?_
                refine .det (B := []) rfl rfl (.inr ⟨_, _, _, rfl, rfl, rfl⟩) .nil .nil rfl (RunB.lr (run_call1 cb36 (.cons (.tmp rfl) (.cons (.tmp rfl) .nil)) (fun w' _ => (pegK _ _ _ _ _ _ _ _ w' hm).as (congrArg Value.bool hB0)))) ?_
                refine .det (B := []) rfl rfl (.inl rfl) .nil .nil rfl (RunB.lr (by first | exact run_pick_true (.tmp rfl) (.tmp rfl) | exact run_pick_false (.tmp rfl) .const)) ?_
                refine .det (B := []) rfl rfl (.inl rfl) .nil .nil rfl (RunB.lr (run_move (.tmp rfl))) ?_
                refine .det (B := []) rfl rfl (.inr ⟨_, _, _, rfl, rfl, rfl⟩) (.cons rfl .nil) .nil rfl (RunB.lr (run_loadN (.tmp rfl) kd25 sz25 (by repeat (first | exact List.Mem.head _ | apply List.Mem.tail)) (by repeat (first | exact Sub.done | apply Sub.take | apply Sub.skip)))) ?_
                refine .det (B := []) rfl rfl (.inr ⟨_, _, _, rfl, rfl, rfl⟩) .nil .nil rfl (RunB.lr (run_move (.tmp rfl))) ?_
                refine .det (B := []) rfl rfl (.inr ⟨_, _, _, rfl, rfl, rfl⟩) .nil .nil rfl (RunB.lr (run_call1 cb36 (.cons (.tmp rfl) (.cons (.tmp rfl) .nil)) (fun w' _ => (pegK _ _ _ _ _ _ _ _ w' hm).as (congrArg Value.bool hC)))) ?_
                refine .det (B := []) rfl rfl (.inl rfl) .nil .nil rfl (RunB.lr (by first | exact run_pick_true (.tmp rfl) (.tmp rfl) | exact run_pick_false (.tmp rfl) .const)) ?_
                refine .det (B := []) rfl rfl (.inl rfl) .nil .nil rfl (RunB.lr (run_move (.tmp rfl))) ?_
                refine .det (B := []) rfl rfl (.inr ⟨_, _, _, rfl, rfl, rfl⟩) .nil .nil rfl (RunB.lr (run_move (.tmp rfl))) ?_
                refine .det (B := []) rfl rfl (.inr ⟨_, _, _, rfl, rfl, rfl⟩) .nil .nil rfl (RunB.lr (run_move (.tmp rfl))) ?_
                refine .det (B := []) rfl rfl (.inr ⟨_, _, _, rfl, rfl, rfl⟩) .nil .nil rfl (RunB.lr (run_neq (.tmp rfl) (.tmp rfl) (by first | exact decide_eq_true (by omega) | exact decide_eq_false (by omega) | exact rfl))) ?_
                refine .det (B := []) rfl rfl (.inl rfl) .nil .nil rfl (RunB.lr (by first | exact run_pick_true (.tmp rfl) (.tmp rfl) | exact run_pick_false (.tmp rfl) .const)) ?_
                refine .det (B := []) rfl rfl (.inl rfl) .nil .nil rfl (RunB.lr (run_move (.tmp rfl))) ?_
                refine .det (B := []) rfl rfl (.inr ⟨_, _, _, rfl, rfl, rfl⟩) .nil .nil rfl (RunB.lr (run_move (.tmp rfl))) ?_
                refine .det (B := []) rfl rfl (.inr ⟨_, _, _, rfl, rfl, rfl⟩) .nil .nil rfl (RunB.lr (run_move (.tmp rfl))) ?_
                refine .det (B := []) rfl rfl (.inr ⟨_, _, _, rfl, rfl, rfl⟩) .nil .nil rfl (RunB.lr (run_neq (.tmp rfl) (.tmp rfl) (by first | exact decide_eq_true (by omega) | exact decide_eq_false (by omega) | exact rfl))) ?_
                refine .det (B := []) rfl rfl (.inl rfl) .nil .nil rfl (RunB.lr (by first | exact run_pick_true (.tmp rfl) (.tmp rfl) | exact run_pick_false (.tmp rfl) .const)) ?_
                refine .det (B := []) rfl rfl (.inl rfl) .nil .nil rfl (RunB.lr (run_move (.tmp rfl))) ?_
                refine .det (B := []) rfl rfl (.inr ⟨_, _, _, rfl, rfl, rfl⟩) .nil .nil rfl (RunB.lr (run_move (.tmp rfl))) ?_
                refine .det (B := []) rfl rfl (.inr ⟨_, _, _, rfl, rfl, rfl⟩) .nil .nil rfl (RunB.lr (run_move (.tmp rfl))) ?_
                refine .det (B := []) rfl rfl (.inr ⟨_, _, _, rfl, rfl, rfl⟩) .nil .nil rfl (RunB.lr (run_neq (.tmp rfl) (.tmp rfl) (by first | exact decide_eq_true (by omega) | exact decide_eq_false (by omega) | exact rfl))) ?_
                refine .det (B := []) rfl rfl (.inl rfl) .nil .nil rfl (RunB.lr (by first | exact run_pick_true (.tmp rfl) (.tmp rfl) | exact run_pick_false (.tmp rfl) .const)) ?_
                refine .det (B := []) rfl rfl (.inl rfl) .nil .nil rfl (RunB.lr (run_call1 cb47 (.cons (.tmp rfl) (.cons (.tmp rfl) .nil)) (fun w' hS => openErr ho pc lc hm hm2 h8 h3 w' (hp.kept hS.kept)))) ?_
                refine .det (B := []) rfl rfl (.inl rfl) .nil .nil rfl (RunB.lr (run_move (.tmp rfl))) ?_
                refine .det (B := []) rfl rfl (.inl rfl) .nil .nil rfl (RunB.lr (run_extract (.tmp rfl) rfl)) ?_
                refine .det (B := []) rfl rfl (.inl rfl) .nil .nil rfl (RunB.lr (run_extract (.tmp rfl) rfl)) ?_
                refine .det (B := []) rfl rfl (.inl rfl) .nil .nil rfl (RunB.lr (run_assign (.tmp rfl))) ?_
                refine .det (B := []) rfl rfl (.inl rfl) .nil .nil rfl (RunB.lr (run_assign (.tmp rfl))) ?_
                refine chain_nil (ts := [0, 1]) (.cons rfl (.cons rfl .nil)) (by decide) ?_
                refine xw_then ?_
                refine cw_seq ?_
                refine cw_seq ?_
                refine cw_region ?_
                refine lstepB rfl rfl rfl (run_move (.tmp rfl)) ?_
                refine lstepB rfl rfl rfl (run_neq (.tmp rfl) .const (by first | exact decide_eq_true (by omega) | exact decide_eq_false (by omega) | exact rfl)) ?_
                refine lnil ?_
                refine xw_then ?_
                refine cw_cond_true (.tmp rfl) ?_
                refine cw_seq ?_
                refine cw_region ?_
                refine lstepB rfl rfl rfl (run_build_at .nil (fun w => bd32_ w)) ?_
                refine lstepB rfl rfl rfl (run_move (.tmp rfl)) ?_
                refine lstep0 rfl rfl (run_storeN (.tmp rfl) (.tmp rfl) rfl sz32 rfl (by repeat (first | exact Upd.here | apply Upd.there)) (by repeat (first | exact Put.done | apply Put.put | apply Put.skip))) ?_
                refine lstepB rfl rfl rfl (run_assign (.tmp rfl)) ?_
                refine lnil ?_
                refine xw_then ?_
                refine cw_ret ?_
                refine xw_then_ret ?_
                refine xw_retC2 rfl rfl rfl kd32 sz32 (by repeat (first | exact List.Mem.head _ | apply List.Mem.tail)) (by repeat (first | exact Sub.done | apply Sub.take | apply Sub.skip)) (fun w' hS => ⟨rfl, hS.kept⟩)
              | ok L => exact absurd (openR_ok ho).2.1 (by decide)
            ·
              have h3B : threeB p.ps.length a b c = true := by simp only [threeB, hA, hB0, hC, decide_eq_false d1, decide_eq_false d2, decide_eq_false d3]; rfl
              cases ho : openR p true with
              | error m =>
                obtain ⟨hR, hm0⟩ := area_err (i := a) (j := b) (k := c) (m := m) (by rw [h3B]; exact ho)
                rw [hR]
                refine .mk <| enter (n := 82) Try.func24 rfl rfl rfl (by repeat (first | exact Fill.nil | apply Fill.cons)) ?_
                refine cw_seq ?_
                refine cw_region ?_
                refine lstep rfl rfl rfl (run_boxN (.tmp rfl)) ?_
                intro b4 _
                refine lstep rfl rfl rfl (run_alloc zr32) ?_
                intro b8 _
                refine lstepB rfl rfl rfl (run_assign .const) ?_
                refine lnil ?_
                refine xw_then ?_
                refine cw_seq ?_
                refine cw_chain2 (σ := [0, 1, 2, 3, 4, 5, 6, 7, 8, 9, 10, 11, 12, 13, 14, 15, 16, 17, 18, 19, 20, 21, 22, 23, 24, 25, 26, 27, 28, 29, 30, 31, 32, 33, 34]) [⟨0, [1], [], [], 0⟩, ⟨0, [1], [], [], 0⟩, ⟨0, [], [], [], 0⟩, ⟨0, [], [], [], 6⟩, ⟨0, [], [], [], 14⟩, ⟨0, [1], [], [], 30⟩, ⟨0, [], [], [], 30⟩, ⟨0, [], [], [], 126⟩, ⟨0, [], [], [], 254⟩, ⟨0, [], [], [], 510⟩, ⟨0, [1], [], [], 1022⟩, ⟨0, [], [], [], 1022⟩, ⟨0, [], [], [], 4094⟩, ⟨0, [], [], [], 8190⟩, ⟨0, [], [], [], 16382⟩, ⟨0, [], [], [], 32766⟩, ⟨0, [], [], [], 32766⟩, ⟨0, [], [], [], 131070⟩, ⟨0, [], [], [], 262142⟩, ⟨0, [], [], [], 524286⟩, ⟨0, [], [], [], 1048574⟩, ⟨0, [], [], [], 1048574⟩, ⟨0, [], [], [], 4194302⟩, ⟨0, [], [], [], 8388606⟩, ⟨0, [], [], [], 16777214⟩, ⟨0, [], [], [], 33554430⟩, ⟨0, [], [], [], 33554430⟩, ⟨0, [], [], [], 134217726⟩, ⟨0, [], [], [], 268435454⟩, ⟨0, [], [], [], 536870911⟩, ⟨0, [], [], [], 1073741823⟩, ⟨0, [], [], [], 2147483647⟩, ⟨0, [], [], [], 2147483647⟩, ⟨0, [], [], [], 4294967295⟩, ⟨0, [], [], [], 17179869183⟩] [(0, _), (1, _)] (by kernel_rfl) (by kernel_rfl) rfl ?_
                refine .det (B := []) rfl rfl (.inl rfl) (.cons rfl .nil) .nil rfl (RunB.lr (run_loadN (.tmp rfl) kd25 sz25 (by repeat (first | exact List.Mem.head _ | apply List.Mem.tail)) (by repeat (first | exact Sub.done | apply Sub.take | apply Sub.skip)))) ?_
                refine .det (B := []) rfl rfl (.inl rfl) (.cons rfl .nil) .nil rfl (RunB.lr (run_loadN (.tmp rfl) kd25 sz25 (by repeat (first | exact List.Mem.head _ | apply List.Mem.tail)) (by repeat (first | exact Sub.done | apply Sub.take | apply Sub.skip)))) ?_
                refine .det (B := []) rfl rfl (.inl rfl) .nil .nil rfl (RunB.lr (run_move (.tmp rfl))) ?_
                refine .det (B := []) rfl rfl (.inl rfl) .nil .nil rfl (RunB.lr (run_call1 cb36 (.cons (.tmp rfl) (.cons (.tmp rfl) .nil)) (fun w' _ => (pegK _ _ _ _ _ _ _ _ w' hm).as (congrArg Value.bool hA)))) ?_
                refine .det (B := []) rfl rfl (.inl rfl) .nil .nil rfl (RunB.lr (run_move (.tmp rfl))) ?_
                refine .det (B := []) rfl rfl (.inr ⟨_, _, _, rfl, rfl, rfl⟩) (.cons rfl .nil) .nil rfl (RunB.lr (run_loadN (.tmp rfl) kd25 sz25 (by repeat (first | exact List.Mem.head _ | apply List.Mem.tail)) (by repeat (first | exact Sub.done | apply Sub.take | apply Sub.skip)))) ?_
                refine .det (B := []) rfl rfl (.inr ⟨_, _, _, rfl, rfl, rfl⟩) .nil .nil rfl (RunB.lr (run_move (.tmp rfl))) ?_
                refine .det (B := []) rfl rfl (.inr ⟨_, _, _, rfl, rfl, rfl⟩) .nil .nil rfl (RunB.lr (run_call1 cb36 (.cons (.tmp rfl) (.cons (.tmp rfl) .nil)) (fun w' _ => (pegK _ _ _ _ _ _ _ _ w' hm).as (congrArg Value.bool hB0)))) ?_
                refine .det (B := []) rfl rfl (.inl rfl) .nil .nil rfl (RunB.lr (by first | exact run_pick_true (.tmp rfl) (.tmp rfl) | exact run_pick_false (.tmp rfl) .const)) ?_
                refine .det (B := []) rfl rfl (.inl rfl) .nil .nil rfl (RunB.lr (run_move (.tmp rfl))) ?_
                refine .det (B := []) rfl rfl (.inr ⟨_, _, _, rfl, rfl, rfl⟩) (.cons rfl .nil) .nil rfl (RunB.lr (run_loadN (.tmp rfl) kd25 sz25 (by repeat (first | exact List.Mem.head _ | apply List.Mem.tail)) (by repeat (first | exact Sub.done | apply Sub.take | apply Sub.skip)))) ?_
                refine .det (B := []) rfl rfl (.inr ⟨_, _, _, rfl, rfl, rfl⟩) .nil .nil rfl (RunB.lr (run_move (.tmp rfl))) ?_
                refine .det (B := []) rfl rfl (.inr ⟨_, _, _, rfl, rfl, rfl⟩) .nil .nil rfl (RunB.lr (run_call1 cb36 (.cons (.tmp rfl) (.cons (.tmp rfl) .nil)) (fun w' _ => (pegK _ _ _ _ _ _ _ _ w' hm).as (congrArg Value.bool hC)))) ?_
                refine .det (B := []) rfl rfl (.inl rfl) .nil .nil rfl (RunB.lr (by first | exact run_pick_true (.tmp rfl) (.tmp rfl) | exact run_pick_false (.tmp rfl) .const)) ?_
                refine .det (B := []) rfl rfl (.inl rfl) .nil .nil rfl (RunB.lr (run_move (.tmp rfl))) ?_
                refine .det (B := []) rfl rfl (.inr ⟨_, _, _, rfl, rfl, rfl⟩) .nil .nil rfl (RunB.lr (run_move (.tmp rfl))) ?_
                refine .det (B := []) rfl rfl (.inr ⟨_, _, _, rfl, rfl, rfl⟩) .nil .nil rfl (RunB.lr (run_move (.tmp rfl))) ?_
                refine .det (B := []) rfl rfl (.inr ⟨_, _, _, rfl, rfl, rfl⟩) .nil .nil rfl (RunB.lr (run_neq (.tmp rfl) (.tmp rfl) (by first | exact decide_eq_true (by omega) | exact decide_eq_false (by omega) | exact rfl))) ?_
                refine .det (B := []) rfl rfl (.inl rfl) .nil .nil rfl (RunB.lr (by first | exact run_pick_true (.tmp rfl) (.tmp rfl) | exact run_pick_false (.tmp rfl) .const)) ?_
                refine .det (B := []) rfl rfl (.inl rfl) .nil .nil rfl (RunB.lr (run_move (.tmp rfl))) ?_
                refine .det (B := []) rfl rfl (.inr ⟨_, _, _, rfl, rfl, rfl⟩) .nil .nil rfl (RunB.lr (run_move (.tmp rfl))) ?_
                refine .det (B := []) rfl rfl (.inr ⟨_, _, _, rfl, rfl, rfl⟩) .nil .nil rfl (RunB.lr (run_move (.tmp rfl))) ?_
                refine .det (B := []) rfl rfl (.inr ⟨_, _, _, rfl, rfl, rfl⟩) .nil .nil rfl (RunB.lr (run_neq (.tmp rfl) (.tmp rfl) (by first | exact decide_eq_true (by omega) | exact decide_eq_false (by omega) | exact rfl))) ?_
                refine .det (B := []) rfl rfl (.inl rfl) .nil .nil rfl (RunB.lr (by first | exact run_pick_true (.tmp rfl) (.tmp rfl) | exact run_pick_false (.tmp rfl) .const)) ?_
                refine .det (B := []) rfl rfl (.inl rfl) .nil .nil rfl (RunB.lr (run_move (.tmp rfl))) ?_
                refine .det (B := []) rfl rfl (.inr ⟨_, _, _, rfl, rfl, rfl⟩) .nil .nil rfl (RunB.lr (run_move (.tmp rfl))) ?_
                refine .det (B := []) rfl rfl (.inr ⟨_, _, _, rfl, rfl, rfl⟩) .nil .nil rfl (RunB.lr (run_move (.tmp rfl))) ?_
                refine .det (B := []) rfl rfl (.inr ⟨_, _, _, rfl, rfl, rfl⟩) .nil .nil rfl (RunB.lr (run_neq (.tmp rfl) (.tmp rfl) (by first | exact decide_eq_true (by omega) | exact decide_eq_false (by omega) | exact rfl))) ?_
                refine .det (B := []) rfl rfl (.inl rfl) .nil .nil rfl (RunB.lr (by first | exact run_pick_true (.tmp rfl) (.tmp rfl) | exact run_pick_false (.tmp rfl) .const)) ?_
                refine .det (B := []) rfl rfl (.inl rfl) .nil .nil rfl (RunB.lr (run_call1 cb47 (.cons (.tmp rfl) (.cons (.tmp rfl) .nil)) (fun w' hS => openErr ho pc lc hm hm2 h8 h3 w' (hp.kept hS.kept)))) ?_
                refine .det (B := []) rfl rfl (.inl rfl) .nil .nil rfl (RunB.lr (run_move (.tmp rfl))) ?_
                refine .det (B := []) rfl rfl (.inl rfl) .nil .nil rfl (RunB.lr (run_extract (.tmp rfl) rfl)) ?_
                refine .det (B := []) rfl rfl (.inl rfl) .nil .nil rfl (RunB.lr (run_extract (.tmp rfl) rfl)) ?_
                refine .det (B := []) rfl rfl (.inl rfl) .nil .nil rfl (RunB.lr (run_assign (.tmp rfl))) ?_
                refine .det (B := []) rfl rfl (.inl rfl) .nil .nil rfl (RunB.lr (run_assign (.tmp rfl))) ?_
                refine chain_nil (ts := [0, 1]) (.cons rfl (.cons rfl .nil)) (by decide) ?_
                refine xw_then ?_
                refine cw_seq ?_
                refine cw_seq ?_
                refine cw_region ?_
                refine lstepB rfl rfl rfl (run_move (.tmp rfl)) ?_
                refine lstepB rfl rfl rfl (run_neq (.tmp rfl) .const (by first | exact decide_eq_true (by omega) | exact decide_eq_false (by omega) | exact rfl)) ?_
                refine lnil ?_
                refine xw_then ?_
                refine cw_cond_true (.tmp rfl) ?_
                refine cw_seq ?_
                refine cw_region ?_
                refine lstepB rfl rfl rfl (run_build_at .nil (fun w => bd32_ w)) ?_
                refine lstepB rfl rfl rfl (run_move (.tmp rfl)) ?_
                refine lstep0 rfl rfl (run_storeN (.tmp rfl) (.tmp rfl) rfl sz32 rfl (by repeat (first | exact Upd.here | apply Upd.there)) (by repeat (first | exact Put.done | apply Put.put | apply Put.skip))) ?_
                refine lstepB rfl rfl rfl (run_assign (.tmp rfl)) ?_
                refine lnil ?_
                refine xw_then ?_
                refine cw_ret ?_
                refine xw_then_ret ?_
                refine xw_retC2 rfl rfl rfl kd32 sz32 (by repeat (first | exact List.Mem.head _ | apply List.Mem.tail)) (by repeat (first | exact Sub.done | apply Sub.take | apply Sub.skip)) (fun w' hS => ⟨rfl, hS.kept⟩)
              | ok L =>
                obtain ⟨hv, _, rfl, hne⟩ := openR_ok ho
                have hf := fit_of_valid hv
                have h4 := hf.n4
                have hsl := h8 hv
                obtain ⟨ha0, ha1⟩ := isPegB_iff.1 hA
                obtain ⟨ia, rfl⟩ := Int.eq_ofNat_of_zero_le ha0
                obtain ⟨hb0, hb1⟩ := isPegB_iff.1 hB0
                obtain ⟨ib, rfl⟩ := Int.eq_ofNat_of_zero_le hb0
                obtain ⟨hc0, hc1⟩ := isPegB_iff.1 hC
                obtain ⟨ic, rfl⟩ := Int.eq_ofNat_of_zero_le hc0
                have hR := area_eq hv (i := ia) (j := ib) (k := ic) (by omega) (by omega) (by omega) (by omega) (by omega) (by omega) hne
                have hlen : (allF p).length ≤ 1000000 := allS_len hf (h8 hv) (h3 hv) (fullN p)
                rw [hR]
                refine .mk <| enter (n := 82) Try.func24 rfl rfl rfl (by repeat (first | exact Fill.nil | apply Fill.cons)) ?_
                refine cw_seq ?_
                refine cw_region ?_
                refine lstep rfl rfl rfl (run_boxN (.tmp rfl)) ?_
                intro b4 _
                refine lstep rfl rfl rfl (run_alloc zr32) ?_
                intro b8 _
                refine lstepB rfl rfl rfl (run_assign .const) ?_
                refine lnil ?_
                refine xw_then ?_
                refine cw_seq ?_
                refine cw_pivot (j := 29) (σ1 := [0, 1, 2, 3, 4, 5, 6, 7, 8, 9, 10, 11, 12, 13, 14, 15, 16, 17, 18, 19, 20, 21, 22, 23, 24, 25, 26, 27, 28]) (σ2 := [30, 31, 32, 33, 34]) [⟨0, [1], [], [], 0⟩, ⟨0, [1], [], [], 0⟩, ⟨0, [], [], [], 0⟩, ⟨0, [], [], [], 6⟩, ⟨0, [], [], [], 14⟩, ⟨0, [1], [], [], 30⟩, ⟨0, [], [], [], 30⟩, ⟨0, [], [], [], 126⟩, ⟨0, [], [], [], 254⟩, ⟨0, [], [], [], 510⟩, ⟨0, [1], [], [], 1022⟩, ⟨0, [], [], [], 1022⟩, ⟨0, [], [], [], 4094⟩, ⟨0, [], [], [], 8190⟩, ⟨0, [], [], [], 16382⟩, ⟨0, [], [], [], 32766⟩, ⟨0, [], [], [], 32766⟩, ⟨0, [], [], [], 131070⟩, ⟨0, [], [], [], 262142⟩, ⟨0, [], [], [], 524286⟩, ⟨0, [], [], [], 1048574⟩, ⟨0, [], [], [], 1048574⟩, ⟨0, [], [], [], 4194302⟩, ⟨0, [], [], [], 8388606⟩, ⟨0, [], [], [], 16777214⟩, ⟨0, [], [], [], 33554430⟩, ⟨0, [], [], [], 33554430⟩, ⟨0, [], [], [], 134217726⟩, ⟨0, [], [], [], 268435454⟩, ⟨0, [], [], [], 536870911⟩, ⟨0, [], [], [], 1073741823⟩, ⟨0, [], [], [], 2147483647⟩, ⟨0, [], [], [], 2147483647⟩, ⟨0, [], [], [], 4294967295⟩, ⟨0, [], [], [], 17179869183⟩] [(0, _), (1, _)] (by kernel_rfl) (by kernel_rfl) rfl ?_
                refine .det (B := []) rfl rfl (.inl rfl) (.cons rfl .nil) .nil rfl (RunB.lr (run_loadN (.tmp rfl) kd25 sz25 (by repeat (first | exact List.Mem.head _ | apply List.Mem.tail)) (by repeat (first | exact Sub.done | apply Sub.take | apply Sub.skip)))) ?_
                refine .det (B := []) rfl rfl (.inl rfl) (.cons rfl .nil) .nil rfl (RunB.lr (run_loadN (.tmp rfl) kd25 sz25 (by repeat (first | exact List.Mem.head _ | apply List.Mem.tail)) (by repeat (first | exact Sub.done | apply Sub.take | apply Sub.skip)))) ?_
                refine .det (B := []) rfl rfl (.inl rfl) .nil .nil rfl (RunB.lr (run_move (.tmp rfl))) ?_
                refine .det (B := []) rfl rfl (.inl rfl) .nil .nil rfl (RunB.lr (run_call1 cb36 (.cons (.tmp rfl) (.cons (.tmp rfl) .nil)) (fun w' _ => (pegK _ _ _ _ _ _ _ _ w' hm).as (congrArg Value.bool hA)))) ?_
                refine .det (B := []) rfl rfl (.inl rfl) .nil .nil rfl (RunB.lr (run_move (.tmp rfl))) ?_
                refine .det (B := []) rfl rfl (.inr ⟨_, _, _, rfl, rfl, rfl⟩) (.cons rfl .nil) .nil rfl (RunB.lr (run_loadN (.tmp rfl) kd25 sz25 (by repeat (first | exact List.Mem.head _ | apply List.Mem.tail)) (by repeat (first | exact Sub.done | apply Sub.take | apply Sub.skip)))) ?_
                refine .det (B := []) rfl rfl (.inr ⟨_, _, _, rfl, rfl, rfl⟩) .nil .nil rfl (RunB.lr (run_move (.tmp rfl))) ?_
                refine .det (B := []) rfl rfl (.inr ⟨_, _, _, rfl, rfl, rfl⟩) .nil .nil rfl (RunB.lr (run_call1 cb36 (.cons (.tmp rfl) (.cons (.tmp rfl) .nil)) (fun w' _ => (pegK _ _ _ _ _ _ _ _ w' hm).as (congrArg Value.bool hB0)))) ?_
                refine .det (B := []) rfl rfl (.inl rfl) .nil .nil rfl (RunB.lr ((by first | exact run_pick_true (.tmp rfl) (.tmp rfl) | exact run_pick_false (.tmp rfl) .const))) ?_
                refine .det (B := []) rfl rfl (.inl rfl) .nil .nil rfl (RunB.lr (run_move (.tmp rfl))) ?_
                refine .det (B := []) rfl rfl (.inr ⟨_, _, _, rfl, rfl, rfl⟩) (.cons rfl .nil) .nil rfl (RunB.lr (run_loadN (.tmp rfl) kd25 sz25 (by repeat (first | exact List.Mem.head _ | apply List.Mem.tail)) (by repeat (first | exact Sub.done | apply Sub.take | apply Sub.skip)))) ?_
                refine .det (B := []) rfl rfl (.inr ⟨_, _, _, rfl, rfl, rfl⟩) .nil .nil rfl (RunB.lr (run_move (.tmp rfl))) ?_
                refine .det (B := []) rfl rfl (.inr ⟨_, _, _, rfl, rfl, rfl⟩) .nil .nil rfl (RunB.lr (run_call1 cb36 (.cons (.tmp rfl) (.cons (.tmp rfl) .nil)) (fun w' _ => (pegK _ _ _ _ _ _ _ _ w' hm).as (congrArg Value.bool hC)))) ?_
                refine .det (B := []) rfl rfl (.inl rfl) .nil .nil rfl (RunB.lr ((by first | exact run_pick_true (.tmp rfl) (.tmp rfl) | exact run_pick_false (.tmp rfl) .const))) ?_
                refine .det (B := []) rfl rfl (.inl rfl) .nil .nil rfl (RunB.lr (run_move (.tmp rfl))) ?_
                refine .det (B := []) rfl rfl (.inr ⟨_, _, _, rfl, rfl, rfl⟩) .nil .nil rfl (RunB.lr (run_move (.tmp rfl))) ?_
                refine .det (B := []) rfl rfl (.inr ⟨_, _, _, rfl, rfl, rfl⟩) .nil .nil rfl (RunB.lr (run_move (.tmp rfl))) ?_
                refine .det (B := []) rfl rfl (.inr ⟨_, _, _, rfl, rfl, rfl⟩) .nil .nil rfl (RunB.lr (run_neq (.tmp rfl) (.tmp rfl) (by first | exact decide_eq_true (by omega) | exact decide_eq_false (by omega) | exact rfl))) ?_
                refine .det (B := []) rfl rfl (.inl rfl) .nil .nil rfl (RunB.lr ((by first | exact run_pick_true (.tmp rfl) (.tmp rfl) | exact run_pick_false (.tmp rfl) .const))) ?_
                refine .det (B := []) rfl rfl (.inl rfl) .nil .nil rfl (RunB.lr (run_move (.tmp rfl))) ?_
                refine .det (B := []) rfl rfl (.inr ⟨_, _, _, rfl, rfl, rfl⟩) .nil .nil rfl (RunB.lr (run_move (.tmp rfl))) ?_
                refine .det (B := []) rfl rfl (.inr ⟨_, _, _, rfl, rfl, rfl⟩) .nil .nil rfl (RunB.lr (run_move (.tmp rfl))) ?_
                refine .det (B := []) rfl rfl (.inr ⟨_, _, _, rfl, rfl, rfl⟩) .nil .nil rfl (RunB.lr (run_neq (.tmp rfl) (.tmp rfl) (by first | exact decide_eq_true (by omega) | exact decide_eq_false (by omega) | exact rfl))) ?_
                refine .det (B := []) rfl rfl (.inl rfl) .nil .nil rfl (RunB.lr ((by first | exact run_pick_true (.tmp rfl) (.tmp rfl) | exact run_pick_false (.tmp rfl) .const))) ?_
                refine .det (B := []) rfl rfl (.inl rfl) .nil .nil rfl (RunB.lr (run_move (.tmp rfl))) ?_
                refine .det (B := []) rfl rfl (.inr ⟨_, _, _, rfl, rfl, rfl⟩) .nil .nil rfl (RunB.lr (run_move (.tmp rfl))) ?_
                refine .det (B := []) rfl rfl (.inr ⟨_, _, _, rfl, rfl, rfl⟩) .nil .nil rfl (RunB.lr (run_move (.tmp rfl))) ?_
                refine .det (B := []) rfl rfl (.inr ⟨_, _, _, rfl, rfl, rfl⟩) .nil .nil rfl (RunB.lr (run_neq (.tmp rfl) (.tmp rfl) (by first | exact decide_eq_true (by omega) | exact decide_eq_false (by omega) | exact rfl))) ?_
                refine .det (B := []) rfl rfl (.inl rfl) .nil .nil rfl (RunB.lr ((by first | exact run_pick_true (.tmp rfl) (.tmp rfl) | exact run_pick_false (.tmp rfl) .const))) ?_
                refine .nil ?_
                refine pv_call (F := fun (s : Option Addr × Nat) w' => ∃ lo, (∀ b, blk [(b8, Obj.cells [.int .i64 0, .int .i64 0].toArray 32 (0, 0)), (b4, Obj.cells [.int .i64 p.side, .slice pa p.ps.length pc, .slice la p.ls.length lc].toArray 25 (0, 0))] b → b < lo) ∧ TruthsIn lo w' s.1 (allF p)) (r := fun s => .tuple #[.slice s.1 (allF p).length s.2, .int .i64 0]) (ts2 := [0, 1]) rfl cb47 (.cons (.tmp rfl) (.cons (.tmp rfl) .nil)) (.cons rfl (.cons rfl .nil)) (by decide) (fun w' hS => (openOk ho pc lc hm hm2 h8 h3 w' (hp.kept hS.kept)).mono fun e w2 ⟨s, h1, h2, h3⟩ => ⟨s, ⟨w'.heap.size, blk_lt hS, h1⟩, h2, h3⟩) ?_
                rintro ⟨oa, oc⟩ w1 ⟨lo, hlo, ht⟩ hB
                refine .det (B := []) rfl rfl (.inl rfl) .nil .nil rfl (RunB.lr (run_move (.tmp rfl))) ?_
                refine .det (B := []) rfl rfl (.inl rfl) .nil .nil rfl (RunB.lr (run_extract (.tmp rfl) rfl)) ?_
                refine .det (B := []) rfl rfl (.inl rfl) .nil .nil rfl (RunB.lr (run_extract (.tmp rfl) rfl)) ?_
                refine .det (B := []) rfl rfl (.inl rfl) .nil .nil rfl (RunB.lr (run_assign (.tmp rfl))) ?_
                refine .det (B := []) rfl rfl (.inl rfl) .nil .nil rfl (RunB.lr (run_assign (.tmp rfl))) ?_
                refine chain_nil (ts := [0, 1]) (.cons rfl (.cons rfl .nil)) (by decide) ?_
                refine xw_then ?_
                refine cw_seq ?_
                refine cw_seq ?_
                refine cw_region ?_
                refine lstepB rfl rfl rfl (run_move (.tmp rfl)) ?_
                refine lstepB rfl rfl rfl (run_neq (.tmp rfl) .const (by first | exact decide_eq_true (by omega) | exact decide_eq_false (by omega) | exact rfl)) ?_
                refine lnil ?_
                refine xw_then ?_
                refine cw_cond_false (.tmp rfl) ?_
                refine cw_skip ?_
                refine xw_then ?_
                refine cw_seq ?_
                refine cw_region ?_
                refine lstepB rfl rfl rfl (run_build_at .nil (fun w => bd32_ w)) ?_
                refine lstep rfl rfl rfl (run_alloc zr32) ?_
                intro b12 _
                refine lstep0 rfl rfl (run_storeN (.tmp rfl) (.tmp rfl) rfl sz32 rfl (by repeat (first | exact Upd.here | apply Upd.there)) (by repeat (first | exact Put.done | apply Put.put | apply Put.skip))) ?_
                refine lnil ?_
                refine xw_then ?_
                refine cw_seq ?_
                refine cw_seq ?_
                refine cw_region ?_
                refine lstepB rfl rfl rfl (run_assign .const) ?_
                refine lnil ?_
                refine xw_then ?_
                refine cw_block ?_
                refine cw_loop (S := DS) (fun z => [(13, .int .i64 (z.k : Int))]) [(1, _), (2, _), (3, _), (8, _), (9, _), (10, _), (12, _)] (fun z => [(b12, Obj.cells [.int .i64 z.e.lo, .int .i64 z.e.hi].toArray 32 (0, 0)), (b8, Obj.cells [.int .i64 0, .int .i64 0].toArray 32 (0, 0)), (b4, Obj.cells [.int .i64 p.side, .slice pa p.ps.length pc, .slice la p.ls.length lc].toArray 25 (0, 0))]) (fun z => z.e = endsG (((allF p).take z.k).map fun x => twiceI (plAt x.1 ia) (plAt x.1 ib) (plAt x.1 ic)) ∧ z.k ≤ (allF p).length) (fun z => (allF p).length - z.k) ⟨0, ⟨0, 0, false⟩⟩ ⟨rfl, Nat.zero_le _⟩ (by repeat (first | exact Less.nil | refine Less.cons rfl ?_)) (by repeat (first | exact Pick.nil | (apply Pick.cons; focus (repeat (first | exact Del.here | apply Del.there))))) ?_
                intro z hz
                obtain ⟨k, e⟩ := z
                obtain ⟨he, hk⟩ := hz
                simp only at he hk
                try dsimp only
                refine cw_seq ?_
                refine cw_seq ?_
                refine cw_region ?_
                refine lstepB rfl rfl rfl (run_move (.tmp rfl)) ?_
                refine lstepB rfl rfl rfl (run_move (.tmp rfl)) ?_
                refine lstepB rfl rfl rfl (run_len (.tmp rfl) sl80) ?_
                refine lstepB rfl rfl rfl (run_lss (.tmp rfl) (.tmp rfl) (by first | exact decide_eq_true (by omega) | exact decide_eq_false (by omega) | exact rfl)) ?_
                refine lnil ?_
                refine xw_then ?_
                refine cw_cond_p (.tmp rfl) (fun hlt => ?_) (fun hge => ?_)
                ·
                  have hlt' : (k : Int) < ((allF p).length : Int) := hlt
                  have hkl : k < (allF p).length := by omega
                  obtain ⟨⟨l, mv⟩, hx⟩ : ∃ x, (allF p)[k]? = some x := ⟨_, List.getElem?_eq_getElem hkl⟩
                  obtain ⟨b, qa, c, rfl, hb, c1, c2, hq⟩ := ht k _ hx
                  obtain ⟨r1, r2, r3, r4⟩ := allF_range hf hx
                  simp only at r1 r2 r3 r4 c1 c2 hq
                  obtain ⟨s, hs⟩ : ∃ s, l[ia]? = some s := ⟨_, List.getElem?_eq_getElem (by omega)⟩
                  have pl_s : plAt l (ia : Nat) = s := by simp [plAt, List.getD_eq_getElem?_getD, hs]
                  obtain ⟨s1, s2, s3, s4⟩ := r4 _ (List.mem_of_getElem? hs)
                  obtain ⟨qb, qo, rfl, hqb, ds1, ds2⟩ := hq ia s hs
                  obtain ⟨t, ht⟩ : ∃ s, l[ib]? = some s := ⟨_, List.getElem?_eq_getElem (by omega)⟩
                  have pl_t : plAt l (ib : Nat) = t := by simp [plAt, List.getD_eq_getElem?_getD, ht]
                  obtain ⟨t1, t2, t3, t4⟩ := r4 _ (List.mem_of_getElem? ht)
                  obtain ⟨_, _, e_t, _, dt1, dt2⟩ := hq ib t ht
                  simp only [Option.some.injEq, Addr.mk.injEq] at e_t
                  obtain ⟨rfl, rfl, _⟩ := e_t
                  obtain ⟨u, hu⟩ : ∃ s, l[ic]? = some s := ⟨_, List.getElem?_eq_getElem (by omega)⟩
                  have pl_u : plAt l (ic : Nat) = u := by simp [plAt, List.getD_eq_getElem?_getD, hu]
                  obtain ⟨u1, u2, u3, u4⟩ := r4 _ (List.mem_of_getElem? hu)
                  obtain ⟨_, _, e_u, _, du1, du2⟩ := hq ic u hu
                  simp only [Option.some.injEq, Addr.mk.injEq] at e_u
                  obtain ⟨rfl, rfl, _⟩ := e_u
                  have n1 : e.add (twI s t u) = endsG (((allF p).take (k + 1)).map fun x => twiceI (plAt x.1 ia) (plAt x.1 ib) (plAt x.1 ic)) := by
                    have := endsG_at (fun x : List Pl × Int => twiceI (plAt x.1 ia) (plAt x.1 ib) (plAt x.1 ic)) hx he
                    rwa [show twiceI (plAt (l, mv).1 ia) (plAt (l, mv).1 ib) (plAt (l, mv).1 ic) = (twI s t u) from by rw [pl_s, pl_t, pl_u]; rfl] at this
                  refine cw_skip ?_
                  refine xw_then ?_
                  refine cw_seq ?_
                  refine cw_block ?_
                  refine cw_seq ?_
                  refine cw_region ?_
                  refine lstepB rfl rfl rfl (run_move (.tmp rfl)) ?_
                  refine lstepB rfl rfl rfl (run_move (.tmp rfl)) ?_
                  refine lstepB rfl rfl rfl (run_indexAddr (off' := k * 2) (.tmp rfl) (.tmp rfl) el80 (by omega) (Nat.zero_add _)) ?_
                  refine lstepB rfl rfl rfl (run_fieldAddr (.tmp rfl) fa84_0 (by first | exact Nat.zero_add _ | exact rfl)) ?_
                  refine lstepB rfl rfl rfl (run_load1_at (.tmp rfl) kd46 (fun w2 hS => old_of hS hlo hb c1)) ?_
                  refine lstepB rfl rfl rfl (run_assign (.tmp rfl)) ?_
                  refine lnil ?_
                  refine xw_then ?_
                  refine cw_chain2 (σ := [0, 1, 2, 3, 4, 5, 6, 7, 8, 9, 10, 11, 12, 13, 14, 15, 16, 17]) [⟨0, [0], [], [], 0⟩, ⟨0, [], [], [], 0⟩, ⟨0, [], [], [], 0⟩, ⟨0, [], [], [], 6⟩, ⟨0, [], [], [], 14⟩, ⟨0, [], [], [], 0⟩, ⟨0, [], [], [], 0⟩, ⟨0, [], [], [], 96⟩, ⟨0, [], [], [], 224⟩, ⟨0, [], [], [], 0⟩, ⟨0, [], [], [], 0⟩, ⟨0, [], [], [], 1536⟩, ⟨0, [], [], [], 3584⟩, ⟨0, [], [], [], 8190⟩, ⟨0, [], [], [], 0⟩, ⟨0, [], [], [], 16384⟩, ⟨0, [], [], [], 65535⟩, ⟨0, [], [0], [0], 131071⟩] [(0, _), (1, _), (2, _)] (by kernel_rfl) (by kernel_rfl) rfl ?_
                  refine .det (B := []) rfl rfl (.inl rfl) (.cons rfl .nil) .nil rfl (RunB.lr (run_loadN (.tmp rfl) kd32 sz32 (by repeat (first | exact List.Mem.head _ | apply List.Mem.tail)) (by repeat (first | exact Sub.done | apply Sub.take | apply Sub.skip)))) ?_
                  refine .det (B := []) rfl rfl (.inl rfl) .nil .nil rfl (RunB.lr (run_move (.tmp rfl))) ?_
                  refine .det (B := []) rfl rfl (.inl rfl) .nil .nil rfl (RunB.lr (run_move (.tmp rfl))) ?_
                  refine .det (B := []) rfl rfl (.inl rfl) .nil .nil rfl (RunB.lr (run_indexAddr (.tmp rfl) (.tmp rfl) el46 (by omega) rfl)) ?_
                  refine .det (B := []) rfl rfl (.inl rfl) .nil .nil rfl (RunB.lr (run_loadN_at (l := [.int .i64 s.x, .int .i64 s.y]) (.tmp rfl) kd52 sz52 rfl (fun w2 hS j v hj => cells2 (old_of hS hlo hqb ds1) (old_of hS hlo hqb ds2) j v hj))) ?_
                  refine .det (B := []) rfl rfl (.inl rfl) .nil .nil rfl (RunB.lr (run_move (.tmp rfl))) ?_
                  refine .det (B := []) rfl rfl (.inl rfl) .nil .nil rfl (RunB.lr (run_move (.tmp rfl))) ?_
                  refine .det (B := []) rfl rfl (.inl rfl) .nil .nil rfl (RunB.lr (run_indexAddr (.tmp rfl) (.tmp rfl) el46 (by omega) rfl)) ?_
                  refine .det (B := []) rfl rfl (.inl rfl) .nil .nil rfl (RunB.lr (run_loadN_at (l := [.int .i64 t.x, .int .i64 t.y]) (.tmp rfl) kd52 sz52 rfl (fun w2 hS j v hj => cells2 (old_of hS hlo hqb dt1) (old_of hS hlo hqb dt2) j v hj))) ?_
                  refine .det (B := []) rfl rfl (.inl rfl) .nil .nil rfl (RunB.lr (run_move (.tmp rfl))) ?_
                  refine .det (B := []) rfl rfl (.inl rfl) .nil .nil rfl (RunB.lr (run_move (.tmp rfl))) ?_
                  refine .det (B := []) rfl rfl (.inl rfl) .nil .nil rfl (RunB.lr (run_indexAddr (.tmp rfl) (.tmp rfl) el46 (by omega) rfl)) ?_
                  refine .det (B := []) rfl rfl (.inl rfl) .nil .nil rfl (RunB.lr (run_loadN_at (l := [.int .i64 u.x, .int .i64 u.y]) (.tmp rfl) kd52 sz52 rfl (fun w2 hS j v hj => cells2 (old_of hS hlo hqb du1) (old_of hS hlo hqb du2) j v hj))) ?_
                  refine .det (B := []) rfl rfl (.inl rfl) .nil .nil rfl (RunB.lr (run_call1 cb34 (.cons (.tmp rfl) (.cons (.tmp rfl) (.cons (.tmp rfl) .nil))) (fun w _ => twice_any s t u ⟨s1, by omega, s3, by omega⟩ ⟨t1, by omega, t3, by omega⟩ ⟨u1, by omega, u3, by omega⟩ w))) ?_
                  refine .det (B := []) rfl rfl (.inl rfl) .nil .nil rfl (RunB.lr (run_move (.tmp rfl))) ?_
                  refine .det (B := []) rfl rfl (.inl rfl) .nil .nil rfl (RunB.lr (run_eql (p := !e.some) (.tmp rfl) .const (first_eq _ _ hkl he))) ?_
                  refine .det (B := []) rfl rfl (.inl rfl) .nil .nil rfl (RunB.lr (run_call1 cb55 (.cons (.tmp rfl) (.cons (.tmp rfl) (.cons (.tmp rfl) .nil))) (fun w _ => hullK e _ _ rfl w))) ?_
                  refine .det (B := [(0, (_, _))]) rfl rfl (.inl rfl) .nil (.cons rfl .nil) rfl (lr_storeN (.tmp rfl) (.tmp rfl) rfl sz32 rfl (by repeat (first | exact Put.done | apply Put.put | apply Put.skip))) ?_
                  refine chain_nil (ts := [0, 1, 2]) (.cons rfl (.cons rfl (.cons rfl .nil))) (by decide) ?_
                  refine xw_in ?_
                  refine xw_then ?_
                  refine cw_region ?_
                  refine lstepB rfl rfl rfl (run_move (.tmp rfl)) ?_
                  refine lstepB rfl rfl rfl (run_add (.tmp rfl) .const (by first | exact IntWalk.i64_in _ (by omega) | exact rfl)) ?_
                  refine lstepB rfl rfl rfl (run_assign (.tmp rfl)) ?_
                  refine lnil ?_
                  exact xw_round ⟨k + 1, e.add (twI s t u)⟩ ⟨n1, by simp only; omega⟩ (by simp only; omega) (by repeat (first | exact Less.nil | refine Less.cons rfl ?_)) (by repeat (first | exact Pick.nil | (apply Pick.cons; focus (repeat (first | exact Del.here | apply Del.there)))))
                ·
                  refine cw_exit ?_
                  refine xw_then_exit ?_
                  refine xw_then_exit ?_
                  refine xw_in_exit ?_
                  refine xw_then ?_
                  refine cw_seq ?_
                  refine cw_region ?_
                  refine lstepB rfl rfl rfl (run_loadN (.tmp rfl) kd32 sz32 (by repeat (first | exact List.Mem.head _ | apply List.Mem.tail)) (by repeat (first | exact Sub.done | apply Sub.take | apply Sub.skip))) ?_
                  refine lstep0 rfl rfl (run_storeN (.tmp rfl) (.tmp rfl) rfl sz32 rfl (by repeat (first | exact Upd.here | apply Upd.there)) (by repeat (first | exact Put.done | apply Put.put | apply Put.skip))) ?_
                  refine lstepB rfl rfl rfl (run_assign .const) ?_
                  refine lnil ?_
                  refine xw_then ?_
                  refine cw_ret ?_
                  have hge' : ¬ (k : Int) < ((allF p).length : Int) := hge
                  rw [List.take_of_length_le (by omega)] at he
                  rw [← he]
                  refine xw_retC2 rfl rfl rfl kd32 sz32 (by repeat (first | exact List.Mem.head _ | apply List.Mem.tail)) (by repeat (first | exact Sub.done | apply Sub.take | apply Sub.skip)) (fun w' hS => ⟨rfl, hB _ w' hS⟩)
end Go.Proofs.Ytkjciobphbcknaa
namespace Go.Proofs.Ytkjciobphbcknaa
open Go.RowKit Go.Sort

theorem run_neq_span (a b c d : Int) (w : World) : (binOp .neq 32 (.agg #[.int .i64 a, .int .i64 b]) (.agg #[.int .i64 c, .int .i64 d])).run Try.prog w = .ok (.bool (!plEqB a b c d)) w := by
  by_cases h1 : a = c <;> by_cases h2 : b = d <;> simp [go_sem, plEqB, h1, h2]
/-- Pegs without lengths lie where pegs lay. -/
theorem PegsIn.bare {w : World} {p : PegsD} {pa la : Option Addr} (h : PegsIn w p pa la) : PegsIn w (bare p) pa none := ⟨h.1, fun i l hl => by simp [Proofs.Ytkjciobphbcknaa.bare] at hl⟩
/-- 'span', met in a region whose order is open. -/
theorem spanQ (w : World) (a b : Int) (d : Nat) (os : Array Obj) : Calls Try.prog 28 #[.int .i64 a, .int .i64 b] (grow (redrawn w d) os) fun e w'' => e = .returned (.agg #[.int .i64 a, .int .i64 b]) ∧ ∃ p : Regrown, w'' = grow (redrawn w p.d) p.os :=
  Calls.regrown_of ((spanL_any a b _).mono fun e w' ⟨he, hw⟩ => ⟨he, by rw [hw]; exact (Below.refl _ _).alloc (Nat.le_refl _) _⟩)
/-- A struct of three cells at block b. (A plain definition.) -/
def PBox (W : World) (b : Nat) (v0 v1 v2 : Value) : Prop :=
  b < W.heap.size ∧ W.cell? ⟨b, 0, none⟩ = some v0 ∧ W.cell? ⟨b, 1, none⟩ = some v1 ∧ W.cell? ⟨b, 2, none⟩ = some v2 ∧ W.frozen? ⟨b, 0, none⟩ = false ∧ W.frozen? ⟨b, 1, none⟩ = false ∧ W.frozen? ⟨b, 2, none⟩ = false
theorem PBox.kept {W W' : World} {b : Nat} {v0 v1 v2 : Value} (h : PBox W b v0 v1 v2) (k : Kept W W') : PBox W' b v0 v1 v2 := by
  obtain ⟨l, h0, h1, h2, z0, z1, z2⟩ := h
  exact ⟨k.lt l, (k.cells _ _ l).trans h0, (k.cells _ _ l).trans h1, (k.cells _ _ l).trans h2, (k.frozens _ _ l).trans z0, (k.frozens _ _ l).trans z1, (k.frozens _ _ l).trans z2⟩
theorem PBox.set2 {W : World} {b : Nat} {v0 v1 v2 : Value} (h : PBox W b v0 v1 v2) (u : Value) : PBox (W.setCell ⟨b, 2, none⟩ u) b v0 v1 u := by
  obtain ⟨l, h0, h1, h2, z0, z1, z2⟩ := h
  exact ⟨by simpa using l, by rw [World.cell?_setCell_other _ _ _ _ (by simp)]; exact h0, by rw [World.cell?_setCell_other _ _ _ _ (by simp)]; exact h1, World.cell?_setCell_same' _ _ _ (by rw [h2]; rfl), by rw [World.frozen?_setCell]; exact z0, by rw [World.frozen?_setCell]; exact z1, by rw [World.frozen?_setCell]; exact z2⟩
theorem pbox_new (w : World) (v0 v1 v2 : Value) (ty : TypeId) : PBox (w.alloc (Obj.cells #[v0, v1, v2] ty)) w.heap.size v0 v1 v2 :=
  ⟨by simp, by simp [go_sem], by simp [go_sem], by simp [go_sem], by simp [go_sem], by simp [go_sem], by simp [go_sem]⟩
section
variable {p : PegsD} {pa : Option Addr} {pc : Nat} {w : World}
theorem free13 (hm : p.ps.length ≤ 9223372036854775807) (hp : PegsIn w (bare p) pa none) {S : Nat} {A : Int} (hS : movedR (bare p) = .ok (A, (S : Int), true)) :
    Calls Try.prog 13 #[.agg #[.int .i64 p.side, .slice pa p.ps.length pc, .slice none 0 0]] w fun e w' => e = .returned (.tuple #[.int .i64 S, .bool true, .int .i64 0]) ∧ Kept w w' := by
  have h := moved_any (bare p) pa none pc 0 w hm (by simp [bare]) hp
  rw [hS] at h
  exact h
theorem free15 (hm : p.ps.length ≤ 9223372036854775807) (hp : PegsIn w (bare p) pa none) {n : Int} (hS : whereR (bare p) n = .ok ((0, p.side), (0, p.side))) :
    Calls Try.prog 15 #[.agg #[.int .i64 p.side, .slice pa p.ps.length pc, .slice none 0 0], .int .i64 n] w fun e w' => e = .returned (.tuple #[.agg #[.int .i64 0, .int .i64 p.side], .agg #[.int .i64 0, .int .i64 p.side], .int .i64 0]) ∧ Kept w w' := by
  have h := where_any (bare p) n pa none pc 0 w hm (by simp [bare]) hp
  rw [hS] at h
  exact h
theorem free17 (hm : p.ps.length ≤ 9223372036854775807) (hp : PegsIn w (bare p) pa none) {n m : Int} (hS : placesR (bare p) n = .ok m) :
    Calls Try.prog 17 #[.agg #[.int .i64 p.side, .slice pa p.ps.length pc, .slice none 0 0], .int .i64 n] w fun e w' => e = .returned (.tuple #[.int .i64 m, .int .i64 0]) ∧ Kept w w' := by
  have h := places_any (bare p) n pa none pc 0 w hm (by simp [bare]) hp
  rw [hS] at h
  exact h
theorem free25 (hm : p.ps.length ≤ 9223372036854775807) (hp : PegsIn w (bare p) pa none) {n : Int} (hS : proofR (bare p) n = .error 4) :
    Calls Try.prog 25 #[.agg #[.int .i64 p.side, .slice pa p.ps.length pc, .slice none 0 0], .int .i64 n] w fun e w' => e = .returned (.tuple #[.int .i64 0, .int .i64 4]) ∧ Kept w w' := by
  have h := proof_any (bare p) n pa none pc 0 w hm (by simp [bare]) hp
  rw [hS] at h
  exact h
end

set_option maxRecDepth 100000 in
set_option maxHeartbeats 8000000 in
theorem pegFree_main (p : PegsD) (n : Nat) (pa la : Option Addr) (pc lc : Nat) (w : World) (hp : PegsIn w p pa la) (hv : validB p = true) (hn : n < p.ps.length) (hh : heavyB p 4 15 = false) (hd : p.ps.length ≤ 3 ∨ p.side ≤ 9) :
    Calls Try.prog 10 #[.agg #[.int .i64 p.side, .slice pa p.ps.length pc, .slice la p.ls.length lc], .int .i64 n] w fun e w' => e = .returned (.bool true) ∧ Kept w w' := by
  obtain ⟨s0, s1, l4, l6⟩ := validB_sizes hv
  have hvb := validB_bare hv
  obtain ⟨S, hS, hSlt, hSb⟩ := free_moved hvb rfl
  have hm : p.ps.length ≤ 9223372036854775807 := by omega
  have hm2 : p.ls.length ≤ 9223372036854775807 := by omega
  have HS := Lib.hid hS
  have HW : Hid (whereR (bare p) n = .ok ((0, p.side), (0, p.side))) := free_where hvb rfl n hn
  have HPl : Hid (placesR (bare p) n = .ok ((p.side + 1) * (p.side + 1))) := free_places hvb rfl n hn
  have HPr := Lib.hid (free_proof hvb rfl n hn)
  have HSB := Lib.hid hSb
  have HV := Lib.hid hv
  have HH := Lib.hid hh
  have HP := Lib.hid hp
  have HI : Hid (isPegB p.ps.length (n : Int) = true) := by simp [Hid, isPegB, hn]
  have hS16 : S < 64 := by
    have : (2 : Nat) ^ (bare p).ps.length ≤ 2 ^ 4 := Nat.pow_le_pow_right (by omega) l4
    omega
  have hq := run_neq_span
  have hq2 := run_eql_span
  clear hS hSb hv hh hp hvb
  have hg1 : decide ((3 : Int) < (p.ps.length : Int)) = false ∨ decide ((3 : Int) < (p.ps.length : Int)) = true ∧ decide (9 < p.side) = false := by
    rcases hd with h | h
    · left; simp; omega
    · by_cases h3 : 3 < p.ps.length
      · right; exact ⟨by simp; omega, by simp; omega⟩
      · left; simp; omega
  clear hd
  have main : ∀ (hgd : decide ((3 : Int) < (p.ps.length : Int)) = false ∨ decide ((3 : Int) < (p.ps.length : Int)) = true ∧ decide (9 < p.side) = false), Calls Try.prog 10 #[.agg #[.int .i64 p.side, .slice pa p.ps.length pc, .slice la p.ls.length lc], .int .i64 n] w fun e w' => e = .returned (.bool true) ∧ Kept w w' := by
    intro hgd
    rcases hgd with g1 | ⟨g1, g2⟩
    all_goals
      go_enter Try.func10, Try.ntmps10
      go_wp2_with (first
        | (go_at_call 11; refine (heavy_any p _ _ _ _ _ _ _ hm hm2 (HP.out.kept ((Kept.refl _).alloc _))).mono ?_; rintro e f1 ⟨rfl, k1⟩; have kk1 := Kept.step1 (Kept.refl w) k1; have B1 := (pbox_new w _ _ _ _).kept k1; obtain ⟨l1, a10, a11, a12, z10, z11, z12⟩ := id B1; rw [HH.out])
        | (go_at_call 35; refine (rvalid_any p _ _ _ _ _ hm hm2 (HP.out.kept kk1)).mono ?_; rintro e f2 ⟨rfl, k2⟩; have kk2 := kk1.step0 k2; have B2 := B1.kept k2; obtain ⟨l2, a20, a21, a22, z20, z21, z22⟩ := id B2; rw [HV.out])
        | (go_at_call 36; refine (rPeg_any _ _ _ _ _ _ _ _ _ hm).mono ?_; rintro e f3 ⟨rfl, k3⟩; have kk3 := kk2.step0 k3; have B3 := B2.kept k3; obtain ⟨l3, a30, a31, a32, z30, z31, z32⟩ := id B3; rw [HI.out]))
      have B4 := B3.set2 (Value.slice none 0 0)
      have kk4 : Kept w (f3.setCell ⟨w.heap.size, 2, none⟩ (Value.slice none 0 0)) := kk3.setCell (by simp) _
      clear a10 a11 a12 z10 z11 z12 a20 a21 a22 z20 z21 z22 a30 a31 a32 z30 z31 z32 l1 l2 l3 k1 k2 k3 B1 B2 B3 kk1 kk2 kk3
      generalize hW4 : f3.setCell ⟨w.heap.size, 2, none⟩ (Value.slice none 0 0) = W4 at *
      clear hW4
      obtain ⟨l4', a40, a41, a42, z40, z41, z42⟩ := id B4
      go_wp2_with (first
        | (go_at_call 13; refine (free13 hm (HP.out.bare.kept kk4) HS.out).mono ?_; rintro e f5 ⟨rfl, k5⟩; have kk5 := kk4.step0 k5; have B5 := B4.kept k5; obtain ⟨l5, a50, a51, a52, z50, z51, z52⟩ := id B5)
        | (go_at_call 15; refine (free15 hm (HP.out.bare.kept kk5) HW.out).mono ?_; rintro e f6 ⟨rfl, k6⟩; have kk6 := kk5.step0 k6; have B6 := B5.kept k6; obtain ⟨l6', a60, a61, a62, z60, z61, z62⟩ := id B6)
        | (go_at_call 17; refine (free17 hm (HP.out.bare.kept ((kk6.alloc _).alloc _)) HPl.out).mono ?_; rintro e f7 ⟨rfl, k7⟩; have kk7 := ((kk6.alloc _).alloc _).step0 k7; have B7 := (B6.kept (((Kept.refl _).alloc _).alloc _)).kept k7; obtain ⟨l7, a70, a71, a72, z70, z71, z72⟩ := id B7)
        | (go_at_call 25; refine (free25 hm (HP.out.bare.kept kk7) HPr.out).mono ?_; rintro e f8 ⟨rfl, k8⟩; have kk8 := kk7.step0 k8; have B8 := B7.kept k8; obtain ⟨l8, a80, a81, a82, z80, z81, z82⟩ := id B8))
      have kN := Kept.step0 k7 k8
      have HC : Hid (∀ w', Kept f8 w' → (w'.cell? ⟨f6.heap.size, 0, none⟩ = some (.int .i64 0) ∧ w'.cell? ⟨f6.heap.size, 1, none⟩ = some (.int .i64 p.side) ∧ w'.cell? ⟨f6.heap.size + 1, 0, none⟩ = some (.int .i64 0) ∧ w'.cell? ⟨f6.heap.size + 1, 1, none⟩ = some (.int .i64 p.side) ∧ w'.cell? ⟨w.heap.size, 0, none⟩ = some (.int .i64 p.side))) := by
        intro w' k
        refine ⟨?_, ?_, ?_, ?_, (k.cells _ _ l8).trans a80⟩ <;> (rw [(Kept.step0 kN k).cells _ _ (by simp <;> omega)]; simp [go_sem])
      have HK8 := Lib.hid kk8
      have HB8 := Lib.hid B8
      have hl8 : w.heap.size < f8.heap.size := l8
      have hs8 : f6.heap.size + 1 < f8.heap.size := Nat.lt_of_lt_of_le (by simp) (Kept.size kN)
      obtain ⟨x1, x2, x3, x4, x5⟩ := HC.out _ (Kept.refl f8)
      have y1 := cell_regrown x1
      have y2 := cell_regrown x2
      have y3 := cell_regrown x3
      have y4 := cell_regrown x4
      have y5 := cell_regrown x5
      clear x1 x2 x3 x4 x5
      clear k5 k7 k8 kk5 kk6 kk7 kk8 B4 B5 B6 B7 B8 a40 a41 a42 z40 z41 z42 a50 a51 a52 z50 z51 z52 a60 a61 a62 z60 z61 z62 a70 a71 a72 z70 z71 z72 a80 a81 a82 z80 z81 z82 l4' l5 l6' l7 l8 kN kk4
      have q1 : plEqB 0 p.side 0 p.side = true := by simp [plEqB]
      have HQ0 := Lib.hid q1
      have m1 : 0 ≤ (p.side + 1) * (p.side + 1) := Int.mul_nonneg (by omega) (by omega)
      have m2 : (p.side + 1) * (p.side + 1) ≤ 256 := Int.le_trans (Int.mul_le_mul (show p.side + 1 ≤ 16 by omega) (show p.side + 1 ≤ 16 by omega) (by omega) (by omega)) (by decide)
      have w1 : IntKind.i64.wrap (p.side + 1) = p.side + 1 := IntWalk.i64_in _ (by omega)
      have w2 : IntKind.i64.wrap ((p.side + 1) * (p.side + 1)) = (p.side + 1) * (p.side + 1) := IntWalk.i64_in _ (by omega)
      refine wp_region_quiet_below (by kernel_rfl) (by kernel_rfl) ?_
      repeat (first | go_big_quiet_step (exact spanQ _ _ _ _ _) | quiet_step (exact spanQ _ _ _ _ _))
      refine wpQuiet_nil ?_
      intro _ hw'
      obtain ⟨⟨dq, osq⟩, hw''⟩ := hw'
      subst hw''
      clear y1 y2 y3 y4 y5
      have kk9 : Kept w (grow (redrawn f8 dq) osq) := HK8.out.step0 (below_regrown _ _ _)
      have B9 := HB8.out.kept (below_regrown f8 dq osq)
      generalize hW9 : grow (redrawn f8 dq) osq = W9 at *
      clear hW9
      have HK9 := Lib.hid kk9
      have HB9 := Lib.hid B9
      obtain ⟨l9, a90, a91, a92, _, _, _⟩ := B9
      clear w1 w2 m1 m2 q1 hl8 hs8 kk9
      go_wp2
      go_loopw [113, 15, 16, 17] (fun i _ _ _ wr => ∃ k : Nat, k ≤ p.ps.length ∧ i = .int .i64 k ∧ Kept W9 wr) (fun i _ _ _ _ => p.ps.length - (intOf i).toNat)
      case atStart => exact ⟨0, Nat.zero_le _, rfl, Kept.refl _⟩
      case round =>
        obtain ⟨k, hk, rfl, kR⟩ := hrel
        clear l9 a90 a91 a92
        have BR := HB9.out.kept kR
        obtain ⟨lR, aR0, aR1, aR2, _, _, _⟩ := BR
        by_cases hlt : k < p.ps.length
        · obtain ⟨b, o, rfl, hbs, c1, c2, c3, c4⟩ := (HP.out.1.kept (HK9.out.step0 kR)) k (p.ps[k]) (by simp)
          have hbit := bit_run S k hS16 (by omega)
          have hb2 : Nat.testBit S k = !wholeB p.side p.ps[k] := HSB.out k _ (by simp [bare])
          rw [Nat.testBit_eq_decide_div_mod_eq] at hb2
          have hlt2 : S / 2 ^ k % 2 < 2 := Nat.mod_lt _ (by omega)
          have hk0 : (0 : Int) ≤ (k : Int) := by omega
          have HWh : Hid (wholeB p.side p.ps[k] = (decide (p.ps[k].xlo = 0) && decide (p.ps[k].xhi = p.side) && (decide (p.ps[k].ylo = 0) && decide (p.ps[k].yhi = p.side)))) := rfl
          generalize p.ps[k].xlo = xlo at *
          generalize p.ps[k].xhi = xhi at *
          generalize p.ps[k].ylo = ylo at *
          generalize p.ps[k].yhi = yhi at *
          have HKR := Lib.hid kR
          clear kR
          have kA : Kept wr (wr.alloc (Obj.cells #[Value.int IntKind.i64 xlo, Value.int IntKind.i64 xhi, Value.int IntKind.i64 ylo, Value.int IntKind.i64 yhi] 56)) := (Kept.refl wr).alloc _
          have HC2 : Hid (∀ w', Kept (wr.alloc (Obj.cells #[Value.int IntKind.i64 xlo, Value.int IntKind.i64 xhi, Value.int IntKind.i64 ylo, Value.int IntKind.i64 yhi] 56)) w' → (w'.cell? ⟨wr.heap.size, 0, none⟩ = some (.int .i64 xlo) ∧ w'.cell? ⟨wr.heap.size, 1, none⟩ = some (.int .i64 xhi) ∧ w'.cell? ⟨wr.heap.size, 2, none⟩ = some (.int .i64 ylo) ∧ w'.cell? ⟨wr.heap.size, 3, none⟩ = some (.int .i64 yhi) ∧ w'.cell? ⟨w.heap.size, 0, none⟩ = some (.int .i64 p.side))) := by
            intro w' kw
            refine ⟨?_, ?_, ?_, ?_, ((kA.step0 kw).cells _ _ lR).trans aR0⟩ <;> (rw [kw.cells _ _ (by simp)]; simp [go_sem])
          have HKA := Lib.hid kA
          clear kA
          obtain ⟨x1, x2, x3, x4, x5⟩ := HC2.out _ (Kept.refl _)
          have y1 := cell_regrown x1
          have y2 := cell_regrown x2
          have y3 := cell_regrown x3
          have y4 := cell_regrown x4
          have y5 := cell_regrown x5
          have HLT := Lib.hid hlt2
          clear hlt2 x1 x2 x3 x4 x5
          cases hx : plEqB xlo xhi 0 p.side with
          | false =>
            have e1 : S / 2 ^ k % 2 = 1 := by
              have : wholeB p.side p.ps[k] = false := by rw [HWh.out]; simp only [plEqB] at hx; rw [hx]; rfl
              rw [this] at hb2; simpa using hb2
            rw [e1] at hbit
            clear hb2 e1
            go_wp2_with fail
            refine wp_region_quiet_below (by kernel_rfl) (by kernel_rfl) ?_
            repeat (first | go_big_quiet_step (exact spanQ _ _ _ _ _) | quiet_step (exact spanQ _ _ _ _ _))
            refine wpQuiet_nil ?_
            intro _ hw'
            obtain ⟨⟨dq, osq⟩, hw''⟩ := hw'
            subst hw''
            go_wp2
            go_roundw
            case rel => exact ⟨k + 1, by omega, by go_num, HKR.out.step0 (HKA.out.step0 (below_regrown _ _ _))⟩
            case measure => simp [intOf]; omega
          | true =>
            cases hy : plEqB ylo yhi 0 p.side with
            | false =>
              have e1 : S / 2 ^ k % 2 = 1 := by
                have : wholeB p.side p.ps[k] = false := by rw [HWh.out]; simp only [plEqB] at hx hy; rw [hy, hx]; rfl
                rw [this] at hb2; simpa using hb2
              rw [e1] at hbit
              clear hb2 e1
              go_wp2_with fail
              refine wp_region_quiet_below (by kernel_rfl) (by kernel_rfl) ?_
              repeat (first | go_big_quiet_step (exact spanQ _ _ _ _ _) | quiet_step (exact spanQ _ _ _ _ _))
              refine wpQuiet_nil ?_
              intro _ hw'
              obtain ⟨⟨dq, osq⟩, hw''⟩ := hw'
              subst hw''
              go_wp2
              go_roundw
              case rel => exact ⟨k + 1, by omega, by go_num, HKR.out.step0 (HKA.out.step0 (below_regrown _ _ _))⟩
              case measure => simp [intOf]; omega
            | true =>
              have e1 : S / 2 ^ k % 2 = 0 := by
                have : wholeB p.side p.ps[k] = true := by rw [HWh.out]; simp only [plEqB] at hx hy; rw [hy, hx]; rfl
                rw [this] at hb2; have := HLT.out; simp at hb2; omega
              rw [e1] at hbit
              clear hb2 e1
              go_wp2_with fail
              refine wp_region_quiet_below (by kernel_rfl) (by kernel_rfl) ?_
              repeat (first | go_big_quiet_step (exact spanQ _ _ _ _ _) | quiet_step (exact spanQ _ _ _ _ _))
              refine wpQuiet_nil ?_
              intro _ hw'
              obtain ⟨⟨dq, osq⟩, hw''⟩ := hw'
              subst hw''
              go_wp2
              go_roundw
              case rel => exact ⟨k + 1, by omega, by go_num, HKR.out.step0 (HKA.out.step0 (below_regrown _ _ _))⟩
              case measure => simp [intOf]; omega
        · have e : k = p.ps.length := by omega
          subst e
          go_wp2_with (go_at_call 12; refine (alive_any _).mono ?_; rintro e wa ⟨rfl, ka⟩)
          go_ret
          exact ⟨rfl, (HK9.out.step0 kR).step0 ka⟩
  exact main hg1
end Go.Proofs.Ytkjciobphbcknaa
namespace Go.Proofs.Ytkjciobphbcknaa
open Go.RowKit

/-- How many elements, as they are counted. -/
def sizeTo : Nat → Nat → Nat
  | 0, _ => 0
  | f + 1, n => n % 2 + sizeTo f (n / 2)
theorem sizeTo_step (f n : Nat) : sizeTo (f + 1) n = n % 2 + sizeTo f (n / 2) := rfl
theorem sizeTo_zero : ∀ f, sizeTo f 0 = 0
  | 0 => rfl
  | f + 1 => by rw [sizeTo, Nat.zero_div, sizeTo_zero f]
theorem sizeTo_cnt (n : Nat) (h : n < 64) : sizeTo 6 n = cnt n := (by decide +kernel : ∀ n : Fin 64, sizeTo 6 n.1 = cnt n.1) ⟨n, h⟩
theorem sizeTo_bd : ∀ f n, sizeTo f n ≤ f
  | 0, _ => by simp [sizeTo]
  | f + 1, n => by
    have := sizeTo_bd f (n / 2)
    have := Nat.mod_lt n (show 2 > 0 by omega)
    rw [sizeTo]; omega

set_option maxHeartbeats 2000000 in
theorem size_any (n : Nat) (w : World) (h : n < 64) : Calls Try.prog 39 #[.int .i64 n] w fun e w' => e = .returned (.int .i64 (cnt n)) ∧ w' = w := by
  have HC := Lib.hid (sizeTo_cnt n h)
  go_enter Try.func39, Try.ntmps39
  go_wp2
  go_loop [0, 3] (fun s k => ∃ x y : Nat, x < 64 ∧ s = .int .i64 x ∧ y ≤ 6 ∧ k = .int .i64 y ∧ ∃ f : Nat, Hid (x < 2 ^ f ∧ y + f ≤ 6 ∧ y + sizeTo f x = sizeTo 6 n)) (fun s _ => (intOf s).toNat)
  case atStart => exact ⟨n, 0, h, rfl, by omega, rfl, 6, h, by omega, by omega⟩
  case round =>
    obtain ⟨x, y, hx, rfl, hy, rfl, f, HF⟩ := hrel
    by_cases h0 : x = 0
    · have HE : Hid (y = cnt n) := by
        obtain ⟨_, _, h3⟩ := HF.out
        rw [h0, sizeTo_zero, HC.out] at h3
        exact h3
      subst h0
      go_wp2
      go_ret
      exact ⟨by rw [HE.out]; rfl, rfl⟩
    · have hpos : 0 < x := by omega
      have HN : Hid (∃ g : Nat, x / 2 < 2 ^ g ∧ (y + x % 2) + g ≤ 6 ∧ (y + x % 2) + sizeTo g (x / 2) = sizeTo 6 n) := by
        obtain ⟨h1, h2, h3⟩ := HF.out
        cases f with
        | zero => simp at h1; omega
        | succ g =>
          rw [sizeTo_step] at h3
          have := Nat.mod_lt x (show 2 > 0 by omega)
          exact ⟨g, by rw [Nat.pow_succ] at h1; omega, by omega, by omega⟩
      have h2 : (0 : Int) < (x : Int) := by omega
      go_wp2
      go_round
      case rel =>
        obtain ⟨g, g1, g2, g3⟩ := HN.out
        exact ⟨x / 2, y + x % 2, by omega, by go_num, by omega, by go_num, g, g1, g2, g3⟩
      case measure => simp [intOf]; omega
end Go.Proofs.Ytkjciobphbcknaa
namespace Go.Proofs.Ytkjciobphbcknaa
open Go.RowKit

theorem shl_nat (i : Nat) (h : i < 7) : wrap64 (2 ^ i) = 2 ^ i := (by decide +kernel : ∀ i : Fin 7, wrap64 (2 ^ i.1) = 2 ^ i.1) ⟨i, h⟩
theorem moved_part {p : PegsD} {pa la : Option Addr} {pc lc : Nat} {w : World} {set : Nat} {o : Except Int (Int × Int × Bool)} (hv : validB p = true) (hp : PegsIn w (partP p set) pa la) (ho : movedR (partP p set) = o) :
    Calls Try.prog 13 #[.agg #[.int .i64 p.side, .slice pa p.ps.length pc, .slice la (partL set p.ls).length lc]] w
      fun e w' => e = .returned (.tuple #[.int .i64 (valOf (0, 0, false) o).2.1, .bool (valOf (0, 0, false) o).2.2, .int .i64 (errOf o)]) ∧ Kept w w' := by
  have hl := validB_sizes hv
  have hl2 := (fit_of_valid (validB_part hv set)).l6
  have h := moved_any (partP p set) pa la pc lc w (by have : (partP p set).ps.length = p.ps.length := rfl; omega) (by omega) hp
  rw [ho] at h
  exact h

theorem moved_part_ok {p : PegsD} {pa la : Option Addr} {pc lc : Nat} {w : World} {set : Nat} {A S : Int} {b : Bool} (hv : validB p = true) (hp : PegsIn w (partP p set) pa la) (ho : movedR (partP p set) = .ok (A, S, b)) :
    Calls Try.prog 13 #[.agg #[.int .i64 p.side, .slice pa p.ps.length pc, .slice la (partL set p.ls).length lc]] w fun e w' => e = .returned (.tuple #[.int .i64 S, .bool b, .int .i64 0]) ∧ Kept w w' := moved_part hv hp ho
theorem moved_part_err {p : PegsD} {pa la : Option Addr} {pc lc : Nat} {w : World} {set : Nat} {n : Int} (hv : validB p = true) (hp : PegsIn w (partP p set) pa la) (ho : movedR (partP p set) = .error n) :
    Calls Try.prog 13 #[.agg #[.int .i64 p.side, .slice pa p.ps.length pc, .slice la (partL set p.ls).length lc]] w fun e w' => e = .returned (.tuple #[.int .i64 0, .bool false, .int .i64 n]) ∧ Kept w w' := moved_part hv hp ho
set_option maxHeartbeats 2000000 in
theorem proves_any (p : PegsD) (pa la : Option Addr) (pc lc b set i : Nat) (w : World) (hv : validB p = true) (hi : i < p.ps.length) (hset : set < 64) (hB : PBox w b (.int .i64 p.side) (.slice pa p.ps.length pc) (.slice la p.ls.length lc)) (hp : PegsIn w p pa la) :
    Calls Try.prog 37 #[.int .i64 set, .int .i64 i, .pointer (some ⟨b, 0, none⟩)] w fun e w' => e = .returned (.bool (provesR p set i)) ∧ Kept w w' := by
  have HP := Lib.hid hp
  have h6 := (fit_of_valid hv).l6
  have h4 := (fit_of_valid hv).n4
  obtain ⟨l, b0, b1, b2, _, _, _⟩ := hB
  have HV := Lib.hid hv
  have hsh := shl_nat i (by omega)
  have hi0 : (0 : Int) ≤ (i : Int) := by omega
  have hi4 : (i : Int) < 4 := by omega
  have hvp := validB_part hv set
  by_cases hE : truthsL (partP p set) = []
  · have e : movedR (partP p set) = .error 10 := by rw [movedR, if_neg (by simp [hvp]), if_pos hE]
    have HR : Hid (provesR p set i = false) := by rw [Hid, provesR, e]
    have HE := Lib.hid e
    clear hp hv hvp hE e
    go_enter Try.func37, Try.ntmps37
    go_wp2_with (first
      | (go_at_call 38; refine (part_any p.side _ la lc p.ls set _ hset h6 HP.out.2 ⟨_, _, _, rfl⟩).mono ?_; rintro e w1 ⟨la1, lc1, rfl, hl1, _, k1⟩)
      | (go_at_call 13; refine (moved_part_err HV.out ⟨(HP.out.kept k1).1, hl1⟩ HE.out).mono ?_; rintro e w2 ⟨rfl, k2⟩))
    go_ret
    exact ⟨by rw [HR.out]; rfl, k1.step0 k2⟩
  · obtain ⟨S, bb, e, hrest⟩ := movedR_spec hvp hE
    clear hrest
    have HE := Lib.hid e
    cases bb with
    | true =>
      have HR : Hid (provesR p set i = false) := by rw [Hid, provesR, e]; rfl
      clear hp hv hvp hE e
      go_enter Try.func37, Try.ntmps37
      go_wp2_with (first
        | (go_at_call 38; refine (part_any p.side _ la lc p.ls set _ hset h6 HP.out.2 ⟨_, _, _, rfl⟩).mono ?_; rintro e w1 ⟨la1, lc1, rfl, hl1, _, k1⟩)
        | (go_at_call 13; refine (moved_part_ok HV.out ⟨(HP.out.kept k1).1, hl1⟩ HE.out).mono ?_; rintro e w2 ⟨rfl, k2⟩))

      go_ret
      exact ⟨by rw [HR.out]; rfl, k1.step0 k2⟩
    | false =>
      have HR : Hid (provesR p set i = decide ((S : Int) = 2 ^ i)) := by rw [Hid, provesR, e]; simp
      clear hp hv hvp hE e
      go_enter Try.func37, Try.ntmps37
      go_wp2_with (first
        | (go_at_call 38; refine (part_any p.side _ la lc p.ls set _ hset h6 HP.out.2 ⟨_, _, _, rfl⟩).mono ?_; rintro e w1 ⟨la1, lc1, rfl, hl1, _, k1⟩)
        | (go_at_call 13; refine (moved_part_ok HV.out ⟨(HP.out.kept k1).1, hl1⟩ HE.out).mono ?_; rintro e w2 ⟨rfl, k2⟩))
      go_ret
      exact ⟨by rw [HR.out]; rfl, k1.step0 k2⟩
end Go.Proofs.Ytkjciobphbcknaa
namespace Go.Proofs.Ytkjciobphbcknaa
open Go.RowKit En

theorem provS_no {p : PegsD} {set i k : Nat} {x : List Pl × Int} (hx : (allS p set)[k]? = some x) (h : x.2 ≠ (i : Int)) : provS p set i = false := by
  have : (allS p set).all (fun x => decide (x.2 = (i : Int))) = false := by
    rw [List.all_eq_false]; exact ⟨x, List.mem_of_getElem? hx, by simp [h]⟩
  rw [provS, this, Bool.false_and]
theorem provS_all {p : PegsD} {set i : Nat} (h : ∀ k, k < (allS p set).length → ∀ x, (allS p set)[k]? = some x → x.2 = (i : Int)) : provS p set i = decide (0 < (allS p set).length) := by
  have : (allS p set).all (fun x => decide (x.2 = (i : Int))) = true := by
    rw [List.all_eq_true]
    intro x hx
    obtain ⟨k, hk, e⟩ := List.getElem_of_mem hx
    exact decide_eq_true (h k hk x (by rw [List.getElem?_eq_getElem hk, e]))
  rw [provS, this, Bool.true_and]
theorem allS_len2 {p : PegsD} (hv : validB p = true) (h8 : p.side ≤ 8) (h3 : p.ps.length ≤ 3) (set : Nat) : (allS p set).length ≤ 1000000 := allS_len (fit_of_valid hv) h8 h3 set
theorem sizeK (n : Nat) (w : World) (h : n < 64) : Gives Try.prog 39 [.int .i64 (n : Int)] w (.int .i64 (cnt n)) := ⟨(size_any n w h).mono fun _ _ ⟨a, b⟩ => ⟨a, b ▸ Below.refl _ _⟩⟩
set_option maxRecDepth 100000 in
set_option maxHeartbeats 4000000 in
theorem provesK {p : PegsD} {pa la : Option Addr} (hv : validB p = true) (h8 : p.side ≤ 8) (h3 : p.ps.length ≤ 3) (i pc lc set : Nat) (hset : set < 1000000) (w : World) (hp : PegsIn w p pa la) :
    Gives Try.prog 68 [.agg [.int .i64 p.side, .slice pa p.ps.length pc, .slice la p.ls.length lc].toArray, .int .i64 (set : Int), .int .i64 (i : Int)] w (.bool (provS p set i)) := by
  have hf := fit_of_valid hv
  have hlen := allS_len2 hv h8 h3 set
  refine .mk <| enter (n := 28) Try.func68 rfl rfl rfl (by repeat (first | exact Fill.nil | apply Fill.cons)) ?_
  refine cw_seq ?_
  refine cw_region ?_
  refine lstep rfl rfl rfl (run_boxN (.tmp rfl)) ?_
  intro b3 _
  refine lstepB rfl rfl rfl (run_assign .const) ?_
  refine lnil ?_
  refine xw_then ?_
  refine cw_seq ?_
  refine cw_region ?_
  refine lstepB rfl rfl rfl (run_loadN (.tmp rfl) kd25 sz25 (by repeat (first | exact List.Mem.head _ | apply List.Mem.tail)) (by repeat (first | exact Sub.done | apply Sub.take | apply Sub.skip))) ?_
  refine lstepB rfl rfl rfl (run_move (.tmp rfl)) ?_
  refine lcall_base (F := fun (s : Option Addr × Nat) w' => ∃ lo, TruthsIn lo w' s.1 (allS p set)) (r := fun s => .slice s.1 (allS p set).length s.2) rfl rfl cb80 (.cons (.tmp rfl) (.cons (.tmp rfl) .nil)) (fun w' hS => (allK hf h8 h3 pc lc set hset w' (hp.kept hS.kept)).mono fun e w2 ⟨s, h1, h2, h3⟩ => ⟨s, ⟨_, h1⟩, h2, below_two hS.kept h3⟩) ?_
  rintro ⟨oa, oc⟩ w1 ⟨lo, ht⟩ hB
  refine lstepB rfl rfl rfl (run_assign (.tmp rfl)) ?_
  refine lnil ?_
  refine xw_then ?_
  refine cw_seq ?_
  refine cw_seq ?_
  refine cw_region ?_
  refine lstepB rfl rfl rfl (run_assign .const) ?_
  refine lnil ?_
  refine xw_then ?_
  refine cw_block ?_
  refine cw_loop (S := Nat) (fun k => [(8, .int .i64 (k : Int))]) [(2, _), (6, _), (7, _)] (fun k => []) (fun k => k ≤ (allS p set).length ∧ ∀ j, j < k → ∀ x, (allS p set)[j]? = some x → x.2 = (i : Int)) (fun k => (allS p set).length - k) 0 ⟨Nat.zero_le _, fun j h => absurd h (Nat.not_lt_zero j)⟩ (by repeat (first | exact Less.nil | refine Less.cons rfl ?_)) (by repeat (first | exact Pick.nil | (apply Pick.cons; focus (repeat (first | exact Del.here | apply Del.there))))) ?_
  intro k hz
  obtain ⟨hk, hall⟩ := hz
  try dsimp only
  refine cw_seq ?_
  refine cw_seq ?_
  refine cw_region ?_
  refine lstepB rfl rfl rfl (run_move (.tmp rfl)) ?_
  refine lstepB rfl rfl rfl (run_move (.tmp rfl)) ?_
  refine lstepB rfl rfl rfl (run_len (.tmp rfl) sl80) ?_
  refine lstepB rfl rfl rfl (run_lss (.tmp rfl) (.tmp rfl) (by first | exact decide_eq_true (by omega) | exact decide_eq_false (by omega) | exact rfl)) ?_
  refine lnil ?_
  refine xw_then ?_
  refine cw_cond_p (.tmp rfl) (fun hlt => ?_) (fun hge => ?_)
  ·
    have hlt' : (k : Int) < ((allS p set).length : Int) := hlt
    have hkl : k < (allS p set).length := by omega
    obtain ⟨⟨l, mv⟩, hx⟩ : ∃ x, (allS p set)[k]? = some x := ⟨_, List.getElem?_eq_getElem hkl⟩
    obtain ⟨b, qa, c, rfl, hb, c1, c2, hq⟩ := ht k _ hx
    simp only at c2
    by_cases hm : mv = (i : Int)
    ·
      refine cw_skip ?_
      refine xw_then ?_
      refine cw_seq ?_
      refine cw_block ?_
      refine cw_seq ?_
      refine cw_region ?_
      refine lstepB rfl rfl rfl (run_move (.tmp rfl)) ?_
      refine lstepB rfl rfl rfl (run_move (.tmp rfl)) ?_
      refine lstepB rfl rfl rfl (run_indexAddr (off' := k * 2) (.tmp rfl) (.tmp rfl) el80 (by omega) (Nat.zero_add _)) ?_
      refine lstepB rfl rfl rfl (run_fieldAddr (.tmp rfl) fa84_1 (by first | exact Nat.zero_add _ | exact rfl)) ?_
      refine lstepB rfl rfl rfl (run_load1_at (.tmp rfl) kd3 (fun w' hS => hS.old_cell (fun h => h) c2)) ?_
      refine lstepB rfl rfl rfl (run_move (.tmp rfl)) ?_
      refine lstepB rfl rfl rfl (run_neq (.tmp rfl) (.tmp rfl) (by first | exact decide_eq_true (by omega) | exact decide_eq_false (by omega) | exact rfl)) ?_
      refine lnil ?_
      refine xw_then ?_
      refine cw_cond_false (.tmp rfl) ?_
      refine cw_skip ?_
      refine xw_in ?_
      refine xw_then ?_
      refine cw_region ?_
      refine lstepB rfl rfl rfl (run_move (.tmp rfl)) ?_
      refine lstepB rfl rfl rfl (run_add (.tmp rfl) .const (by first | exact IntWalk.i64_in _ (by omega) | exact rfl)) ?_
      refine lstepB rfl rfl rfl (run_assign (.tmp rfl)) ?_
      refine lnil ?_
      exact xw_round (k + 1) ⟨by omega, upto_succ (q := fun k => ∀ x, (allS p set)[k]? = some x → x.2 = (i : Int)) hall (fun x h => by rw [hx] at h; cases h; exact hm)⟩ (by omega) (by repeat (first | exact Less.nil | refine Less.cons rfl ?_)) (by repeat (first | exact Pick.nil | (apply Pick.cons; focus (repeat (first | exact Del.here | apply Del.there)))))
    ·
      refine cw_skip ?_
      refine xw_then ?_
      refine cw_seq ?_
      refine cw_block ?_
      refine cw_seq ?_
      refine cw_region ?_
      refine lstepB rfl rfl rfl (run_move (.tmp rfl)) ?_
      refine lstepB rfl rfl rfl (run_move (.tmp rfl)) ?_
      refine lstepB rfl rfl rfl (run_indexAddr (off' := k * 2) (.tmp rfl) (.tmp rfl) el80 (by omega) (Nat.zero_add _)) ?_
      refine lstepB rfl rfl rfl (run_fieldAddr (.tmp rfl) fa84_1 (by first | exact Nat.zero_add _ | exact rfl)) ?_
      refine lstepB rfl rfl rfl (run_load1_at (.tmp rfl) kd3 (fun w' hS => hS.old_cell (fun h => h) c2)) ?_
      refine lstepB rfl rfl rfl (run_move (.tmp rfl)) ?_
      refine lstepB rfl rfl rfl (run_neq (.tmp rfl) (.tmp rfl) (by first | exact decide_eq_true (by omega) | exact decide_eq_false (by omega) | exact rfl)) ?_
      refine lnil ?_
      refine xw_then ?_
      refine cw_cond_true (.tmp rfl) ?_
      refine cw_seq ?_
      refine cw_region ?_
      refine lstepB rfl rfl rfl (run_assign .const) ?_
      refine lnil ?_
      refine xw_then ?_
      refine cw_ret ?_
      refine xw_in_ret ?_
      refine xw_then_ret ?_
      refine xw_then_ret ?_
      refine xw_in_ret ?_
      refine xw_then_ret ?_
      refine xw_ret1 Try.results68 rfl (fun w' hS => ⟨by rw [provS_no hx hm], below_two hB hS.kept⟩)
  ·
    have hge' : ¬ (k : Int) < ((allS p set).length : Int) := hge
    have hkk : k = (allS p set).length := by omega
    subst hkk
    refine cw_exit ?_
    refine xw_then_exit ?_
    refine xw_then_exit ?_
    refine xw_in_exit ?_
    refine xw_then ?_
    refine cw_seq ?_
    refine cw_region ?_
    refine lstepB rfl rfl rfl (run_move (.tmp rfl)) ?_
    refine lstepB rfl rfl rfl (run_len (.tmp rfl) sl80) ?_
    refine lstepB rfl rfl rfl (run_gtr (p := decide (0 < (allS p set).length)) (.tmp rfl) .const (decide_eq_decide.2 (by omega))) ?_
    refine lstepB rfl rfl rfl (run_assign (.tmp rfl)) ?_
    refine lnil ?_
    refine xw_then ?_
    refine cw_ret ?_
    refine xw_ret1 Try.results68 rfl (fun w' hS => ⟨by rw [provS_all hall], below_two hB hS.kept⟩)
structure LQ where
  k : Nat
  b : Int
set_option maxRecDepth 100000 in
set_option maxHeartbeats 4000000 in
theorem proofRK {p : PegsD} {pa la : Option Addr} (n : Int) (pc lc : Nat) (hm : p.ps.length ≤ 9223372036854775807) (hm2 : p.ls.length ≤ 9223372036854775807) (h8 : validB p = true → p.side ≤ 8) (h3 : validB p = true → p.ps.length ≤ 3) (w : World) (hp : PegsIn w p pa la) :
    Gives Try.prog 26 [.agg [.int .i64 p.side, .slice pa p.ps.length pc, .slice la p.ls.length lc].toArray, .int .i64 n] w (.tuple [.int .i64 (valOf 0 (proofR p n)), .int .i64 (errOf (proofR p n))].toArray) := by
  cases hv : validB p with
  | false =>
    have hR : proofR p n = .error 1 := by rw [proofR, checkR_arg hv]
    rw [hR]
    refine .mk <| enter (n := 40) Try.func26 rfl rfl rfl (by repeat (first | exact Fill.nil | apply Fill.cons)) ?_
    refine cw_seq ?_
    refine cw_region ?_
    refine lstep rfl rfl rfl (run_boxN (.tmp rfl)) ?_
    intro b2 _
    refine lstepB rfl rfl rfl (run_assign .const) ?_
    refine lstepB rfl rfl rfl (run_assign .const) ?_
    refine lnil ?_
    refine xw_then ?_
    refine cw_seq ?_
    refine cw_seq ?_
    refine cw_region ?_
    refine lstepB rfl rfl rfl (run_loadN (.tmp rfl) kd25 sz25 (by repeat (first | exact List.Mem.head _ | apply List.Mem.tail)) (by repeat (first | exact Sub.done | apply Sub.take | apply Sub.skip))) ?_
    refine lstepB rfl rfl rfl (run_call1 cb35 (.cons (.tmp rfl) .nil) (fun w' hS => (validK p pa la pc lc w' hm hm2 (hp.kept hS.kept)).as (congrArg Value.bool hv))) ?_
    refine lstepB rfl rfl rfl (run_not (.tmp rfl) (by first | exact Bool.not_true | exact Bool.not_false | exact rfl)) ?_
    refine lnil ?_
    refine xw_then ?_
    refine cw_cond_true (.tmp rfl) ?_
    refine cw_seq ?_
    refine cw_region ?_
    refine lstepB rfl rfl rfl (run_assign .const) ?_
    refine lstepB rfl rfl rfl (run_assign .const) ?_
    refine lnil ?_
    refine xw_then ?_
    refine cw_ret ?_
    refine xw_then_ret ?_
    refine xw_ret2 Try.results26 rfl rfl (fun w' hS => ⟨rfl, hS.kept⟩)
  | true =>
    cases hpg : isPegB p.ps.length n with
    | false =>
      have hR : proofR p n = .error 2 := by rw [proofR, checkR_bad hv (i := n) (by simp) (fun hc => by rw [isPegB_iff.2 hc] at hpg; cases hpg)]
      rw [hR]
      refine .mk <| enter (n := 40) Try.func26 rfl rfl rfl (by repeat (first | exact Fill.nil | apply Fill.cons)) ?_
      refine cw_seq ?_
      refine cw_region ?_
      refine lstep rfl rfl rfl (run_boxN (.tmp rfl)) ?_
      intro b2 _
      refine lstepB rfl rfl rfl (run_assign .const) ?_
      refine lstepB rfl rfl rfl (run_assign .const) ?_
      refine lnil ?_
      refine xw_then ?_
      refine cw_seq ?_
      refine cw_seq ?_
      refine cw_region ?_
      refine lstepB rfl rfl rfl (run_loadN (.tmp rfl) kd25 sz25 (by repeat (first | exact List.Mem.head _ | apply List.Mem.tail)) (by repeat (first | exact Sub.done | apply Sub.take | apply Sub.skip))) ?_
      refine lstepB rfl rfl rfl (run_call1 cb35 (.cons (.tmp rfl) .nil) (fun w' hS => (validK p pa la pc lc w' hm hm2 (hp.kept hS.kept)).as (congrArg Value.bool hv))) ?_
      refine lstepB rfl rfl rfl (run_not (.tmp rfl) (by first | exact Bool.not_true | exact Bool.not_false | exact rfl)) ?_
      refine lnil ?_
      refine xw_then ?_
      refine cw_cond_false (.tmp rfl) ?_
      refine cw_skip ?_
      refine xw_then ?_
      refine cw_seq ?_
      refine cw_seq ?_
      refine cw_region ?_
      refine lstepB rfl rfl rfl (run_loadN (.tmp rfl) kd25 sz25 (by repeat (first | exact List.Mem.head _ | apply List.Mem.tail)) (by repeat (first | exact Sub.done | apply Sub.take | apply Sub.skip))) ?_
      refine lstepB rfl rfl rfl (run_move (.tmp rfl)) ?_
      refine lstepB rfl rfl rfl (run_call1 cb36 (.cons (.tmp rfl) (.cons (.tmp rfl) .nil)) (fun w' _ => (pegK _ _ _ _ _ _ _ _ w' hm).as (congrArg Value.bool hpg))) ?_
      refine lstepB rfl rfl rfl (run_not (.tmp rfl) (by first | exact Bool.not_true | exact Bool.not_false | exact rfl)) ?_
      refine lnil ?_
      refine xw_then ?_
      refine cw_cond_true (.tmp rfl) ?_
      refine cw_seq ?_
      refine cw_region ?_
      refine lstepB rfl rfl rfl (run_assign .const) ?_
      refine lstepB rfl rfl rfl (run_assign .const) ?_
      refine lnil ?_
      refine xw_then ?_
      refine cw_ret ?_
      refine xw_then_ret ?_
      refine xw_ret2 Try.results26 rfl rfl (fun w' hS => ⟨rfl, hS.kept⟩)
    | true =>
      obtain ⟨hn0, hn1⟩ := isPegB_iff.1 hpg
      obtain ⟨i, rfl⟩ := Int.eq_ofNat_of_zero_le hn0
      have hf := fit_of_valid hv
      have h6 := hf.l6
      have p64 := pow64 p.ls.length h6
      have hil : i < p.ps.length := by omega
      refine .mk <| enter (n := 40) Try.func26 rfl rfl rfl (by repeat (first | exact Fill.nil | apply Fill.cons)) ?_
      refine cw_seq ?_
      refine cw_region ?_
      refine lstep rfl rfl rfl (run_boxN (.tmp rfl)) ?_
      intro b2 _
      refine lstepB rfl rfl rfl (run_assign .const) ?_
      refine lstepB rfl rfl rfl (run_assign .const) ?_
      refine lnil ?_
      refine xw_then ?_
      refine cw_seq ?_
      refine cw_seq ?_
      refine cw_region ?_
      refine lstepB rfl rfl rfl (run_loadN (.tmp rfl) kd25 sz25 (by repeat (first | exact List.Mem.head _ | apply List.Mem.tail)) (by repeat (first | exact Sub.done | apply Sub.take | apply Sub.skip))) ?_
      refine lstepB rfl rfl rfl (run_call1 cb35 (.cons (.tmp rfl) .nil) (fun w' hS => (validK p pa la pc lc w' hm hm2 (hp.kept hS.kept)).as (congrArg Value.bool hv))) ?_
      refine lstepB rfl rfl rfl (run_not (.tmp rfl) (by first | exact Bool.not_true | exact Bool.not_false | exact rfl)) ?_
      refine lnil ?_
      refine xw_then ?_
      refine cw_cond_false (.tmp rfl) ?_
      refine cw_skip ?_
      refine xw_then ?_
      refine cw_seq ?_
      refine cw_seq ?_
      refine cw_region ?_
      refine lstepB rfl rfl rfl (run_loadN (.tmp rfl) kd25 sz25 (by repeat (first | exact List.Mem.head _ | apply List.Mem.tail)) (by repeat (first | exact Sub.done | apply Sub.take | apply Sub.skip))) ?_
      refine lstepB rfl rfl rfl (run_move (.tmp rfl)) ?_
      refine lstepB rfl rfl rfl (run_call1 cb36 (.cons (.tmp rfl) (.cons (.tmp rfl) .nil)) (fun w' _ => (pegK _ _ _ _ _ _ _ _ w' hm).as (congrArg Value.bool hpg))) ?_
      refine lstepB rfl rfl rfl (run_not (.tmp rfl) (by first | exact Bool.not_true | exact Bool.not_false | exact rfl)) ?_
      refine lnil ?_
      refine xw_then ?_
      refine cw_cond_false (.tmp rfl) ?_
      refine cw_skip ?_
      refine xw_then ?_
      refine cw_seq ?_
      refine cw_region ?_
      refine lstepB rfl rfl rfl (run_assign .const) ?_
      refine lnil ?_
      refine xw_then ?_
      refine cw_seq ?_
      refine cw_seq ?_
      refine cw_region ?_
      refine lstepB rfl rfl rfl (run_assign .const) ?_
      refine lnil ?_
      refine xw_then ?_
      refine cw_block ?_
      refine cw_loop (S := LQ) (fun z => [(6, .int .i64 z.b), (7, .int .i64 (z.k : Int))]) [(1, _), (2, _), (4, _), (5, _)] (fun z => [(b2, Obj.cells [.int .i64 p.side, .slice pa p.ps.length pc, .slice la p.ls.length lc].toArray 25 (0, 0))]) (fun z => BestI (fun y => provS p y i) z.k z.b ∧ z.k ≤ 2 ^ p.ls.length) (fun z => 2 ^ p.ls.length - z.k) ⟨0, -1⟩ ⟨BestI.start _, Nat.zero_le _⟩ (by repeat (first | exact Less.nil | refine Less.cons rfl ?_)) (by repeat (first | exact Pick.nil | (apply Pick.cons; focus (repeat (first | exact Del.here | apply Del.there))))) ?_
      intro z hz
      obtain ⟨k, b⟩ := z
      obtain ⟨hI, hk⟩ := hz
      simp only at hI hk
      try dsimp only
      refine cw_seq ?_
      refine cw_seq ?_
      refine cw_region ?_
      refine lstepB rfl rfl rfl (run_move (.tmp rfl)) ?_
      refine lstepB rfl rfl rfl (run_loadN (.tmp rfl) kd25 sz25 (by repeat (first | exact List.Mem.head _ | apply List.Mem.tail)) (by repeat (first | exact Sub.done | apply Sub.take | apply Sub.skip))) ?_
      refine lstepB rfl rfl rfl (run_call1 cb67 (.cons (.tmp rfl) .nil) (fun w' _ => everyK p.ls.length h6 _ _ _ _ _ _ w')) ?_
      refine lstepB rfl rfl rfl (run_leq (.tmp rfl) (.tmp rfl) (by first | exact decide_eq_true (by omega) | exact decide_eq_false (by omega) | exact rfl)) ?_
      refine lnil ?_
      refine xw_then ?_
      refine cw_cond_p (.tmp rfl) (fun hle => ?_) (fun hgt => ?_)
      ·
        have hle' : (k : Int) ≤ ((2 ^ p.ls.length - 1 : Nat) : Int) := hle
        have hk64 : k < 64 := by omega
        have hlo := hI.lo
        have hltb := hI.lt
        by_cases hb : b < 0
        ·
          cases hpv : provS p k i with
          | false =>
            refine cw_skip ?_
            refine xw_then ?_
            refine cw_seq ?_
            refine cw_block ?_
            refine cw_seq ?_
            refine cw_region ?_
            refine lstepB rfl rfl rfl (run_move (.tmp rfl)) ?_
            refine lstepB rfl rfl rfl (run_lss (.tmp rfl) .const (by first | exact decide_eq_true (by omega) | exact decide_eq_false (by omega) | exact rfl)) ?_
            refine lstepB rfl rfl rfl (run_move (.tmp rfl)) ?_
            refine lskip rfl rfl rfl rfl rfl rfl rfl ?_
            refine lskip rfl rfl rfl rfl rfl rfl rfl ?_
            refine lskip rfl rfl rfl rfl rfl rfl rfl ?_
            refine lskip rfl rfl rfl rfl rfl rfl rfl ?_
            refine lskip rfl rfl rfl rfl rfl rfl rfl ?_
            refine lstepB rfl rfl rfl (by first | exact run_pick_true (.tmp rfl) .const | exact run_pick_false (.tmp rfl) (.tmp rfl)) ?_
            refine lstepB rfl rfl rfl (run_move (.tmp rfl)) ?_
            refine lyes rfl rfl rfl rfl ?_
            refine gstepB rfl rfl (run_loadN (.tmp rfl) kd25 sz25 (by repeat (first | exact List.Mem.head _ | apply List.Mem.tail)) (by repeat (first | exact Sub.done | apply Sub.take | apply Sub.skip))) ?_
            refine lyes rfl rfl rfl rfl ?_
            refine gstepB rfl rfl (run_move (.tmp rfl)) ?_
            refine lyes rfl rfl rfl rfl ?_
            refine gstepB rfl rfl (run_move (.tmp rfl)) ?_
            refine lyes rfl rfl rfl rfl ?_
            refine gstepB rfl rfl (run_call1 cb68 (.cons (.tmp rfl) (.cons (.tmp rfl) (.cons (.tmp rfl) .nil))) (fun w' hS => (provesK hv (h8 hv) (h3 hv) i pc lc k (by omega) w' (hp.kept hS.kept)).as (congrArg Value.bool hpv))) ?_
            refine lstepB rfl rfl rfl (by first | exact run_pick_true (.tmp rfl) (.tmp rfl) | exact run_pick_false (.tmp rfl) .const) ?_
            refine lnil ?_
            refine xw_then ?_
            refine cw_cond_false (.tmp rfl) ?_
            refine cw_skip ?_
            refine xw_in ?_
            refine xw_then ?_
            refine cw_region ?_
            refine lstepB rfl rfl rfl (run_move (.tmp rfl)) ?_
            refine lstepB rfl rfl rfl (run_add (.tmp rfl) .const (by first | exact IntWalk.i64_in _ (by omega) | exact rfl)) ?_
            refine lstepB rfl rfl rfl (run_assign (.tmp rfl)) ?_
            refine lnil ?_
            exact xw_round ⟨k + 1, b⟩ ⟨hI.no hpv, by simp only; omega⟩ (by simp only; omega) (by repeat (first | exact Less.nil | refine Less.cons rfl ?_)) (by repeat (first | exact Pick.nil | (apply Pick.cons; focus (repeat (first | exact Del.here | apply Del.there)))))
          | true =>
            refine cw_skip ?_
            refine xw_then ?_
            refine cw_seq ?_
            refine cw_block ?_
            refine cw_seq ?_
            refine cw_region ?_
            refine lstepB rfl rfl rfl (run_move (.tmp rfl)) ?_
            refine lstepB rfl rfl rfl (run_lss (.tmp rfl) .const (by first | exact decide_eq_true (by omega) | exact decide_eq_false (by omega) | exact rfl)) ?_
            refine lstepB rfl rfl rfl (run_move (.tmp rfl)) ?_
            refine lskip rfl rfl rfl rfl rfl rfl rfl ?_
            refine lskip rfl rfl rfl rfl rfl rfl rfl ?_
            refine lskip rfl rfl rfl rfl rfl rfl rfl ?_
            refine lskip rfl rfl rfl rfl rfl rfl rfl ?_
            refine lskip rfl rfl rfl rfl rfl rfl rfl ?_
            refine lstepB rfl rfl rfl (by first | exact run_pick_true (.tmp rfl) .const | exact run_pick_false (.tmp rfl) (.tmp rfl)) ?_
            refine lstepB rfl rfl rfl (run_move (.tmp rfl)) ?_
            refine lyes rfl rfl rfl rfl ?_
            refine gstepB rfl rfl (run_loadN (.tmp rfl) kd25 sz25 (by repeat (first | exact List.Mem.head _ | apply List.Mem.tail)) (by repeat (first | exact Sub.done | apply Sub.take | apply Sub.skip))) ?_
            refine lyes rfl rfl rfl rfl ?_
            refine gstepB rfl rfl (run_move (.tmp rfl)) ?_
            refine lyes rfl rfl rfl rfl ?_
            refine gstepB rfl rfl (run_move (.tmp rfl)) ?_
            refine lyes rfl rfl rfl rfl ?_
            refine gstepB rfl rfl (run_call1 cb68 (.cons (.tmp rfl) (.cons (.tmp rfl) (.cons (.tmp rfl) .nil))) (fun w' hS => (provesK hv (h8 hv) (h3 hv) i pc lc k (by omega) w' (hp.kept hS.kept)).as (congrArg Value.bool hpv))) ?_
            refine lstepB rfl rfl rfl (by first | exact run_pick_true (.tmp rfl) (.tmp rfl) | exact run_pick_false (.tmp rfl) .const) ?_
            refine lnil ?_
            refine xw_then ?_
            refine cw_cond_true (.tmp rfl) ?_
            refine cw_region ?_
            refine lstepB rfl rfl rfl (run_move (.tmp rfl)) ?_
            refine lstepB rfl rfl rfl (run_assign (.tmp rfl)) ?_
            refine lnil ?_
            refine xw_in ?_
            refine xw_then ?_
            refine cw_region ?_
            refine lstepB rfl rfl rfl (run_move (.tmp rfl)) ?_
            refine lstepB rfl rfl rfl (run_add (.tmp rfl) .const (by first | exact IntWalk.i64_in _ (by omega) | exact rfl)) ?_
            refine lstepB rfl rfl rfl (run_assign (.tmp rfl)) ?_
            refine lnil ?_
            exact xw_round ⟨k + 1, (k : Int)⟩ ⟨hI.yes hpv (.inl hb), by simp only; omega⟩ (by simp only; omega) (by repeat (first | exact Less.nil | refine Less.cons rfl ?_)) (by repeat (first | exact Pick.nil | (apply Pick.cons; focus (repeat (first | exact Del.here | apply Del.there)))))
        ·
          obtain ⟨x, rfl⟩ := Int.eq_ofNat_of_zero_le (show 0 ≤ b by omega)
          by_cases hc : cnt k < cnt x
          ·
            cases hpv : provS p k i with
            | false =>
              refine cw_skip ?_
              refine xw_then ?_
              refine cw_seq ?_
              refine cw_block ?_
              refine cw_seq ?_
              refine cw_region ?_
              refine lstepB rfl rfl rfl (run_move (.tmp rfl)) ?_
              refine lstepB rfl rfl rfl (run_lss (.tmp rfl) .const (by first | exact decide_eq_true (by omega) | exact decide_eq_false (by omega) | exact rfl)) ?_
              refine lstepB rfl rfl rfl (run_move (.tmp rfl)) ?_
              refine lyes rfl rfl rfl rfl ?_
              refine gstepB rfl rfl (run_move (.tmp rfl)) ?_
              refine lyes rfl rfl rfl rfl ?_
              refine gstepB rfl rfl (run_call1 cb39 (.cons (.tmp rfl) .nil) (fun w' _ => sizeK k w' hk64)) ?_
              refine lyes rfl rfl rfl rfl ?_
              refine gstepB rfl rfl (run_move (.tmp rfl)) ?_
              refine lyes rfl rfl rfl rfl ?_
              refine gstepB rfl rfl (run_call1 cb39 (.cons (.tmp rfl) .nil) (fun w' _ => sizeK x w' (by omega))) ?_
              refine lyes rfl rfl rfl rfl ?_
              refine gstepB rfl rfl (run_lss (.tmp rfl) (.tmp rfl) (by first | exact decide_eq_true (by omega) | exact decide_eq_false (by omega) | exact rfl)) ?_
              refine lstepB rfl rfl rfl (by first | exact run_pick_true (.tmp rfl) .const | exact run_pick_false (.tmp rfl) (.tmp rfl)) ?_
              refine lstepB rfl rfl rfl (run_move (.tmp rfl)) ?_
              refine lyes rfl rfl rfl rfl ?_
              refine gstepB rfl rfl (run_loadN (.tmp rfl) kd25 sz25 (by repeat (first | exact List.Mem.head _ | apply List.Mem.tail)) (by repeat (first | exact Sub.done | apply Sub.take | apply Sub.skip))) ?_
              refine lyes rfl rfl rfl rfl ?_
              refine gstepB rfl rfl (run_move (.tmp rfl)) ?_
              refine lyes rfl rfl rfl rfl ?_
              refine gstepB rfl rfl (run_move (.tmp rfl)) ?_
              refine lyes rfl rfl rfl rfl ?_
              refine gstepB rfl rfl (run_call1 cb68 (.cons (.tmp rfl) (.cons (.tmp rfl) (.cons (.tmp rfl) .nil))) (fun w' hS => (provesK hv (h8 hv) (h3 hv) i pc lc k (by omega) w' (hp.kept hS.kept)).as (congrArg Value.bool hpv))) ?_
              refine lstepB rfl rfl rfl (by first | exact run_pick_true (.tmp rfl) (.tmp rfl) | exact run_pick_false (.tmp rfl) .const) ?_
              refine lnil ?_
              refine xw_then ?_
              refine cw_cond_false (.tmp rfl) ?_
              refine cw_skip ?_
              refine xw_in ?_
              refine xw_then ?_
              refine cw_region ?_
              refine lstepB rfl rfl rfl (run_move (.tmp rfl)) ?_
              refine lstepB rfl rfl rfl (run_add (.tmp rfl) .const (by first | exact IntWalk.i64_in _ (by omega) | exact rfl)) ?_
              refine lstepB rfl rfl rfl (run_assign (.tmp rfl)) ?_
              refine lnil ?_
              exact xw_round ⟨k + 1, (x : Int)⟩ ⟨hI.no hpv, by simp only; omega⟩ (by simp only; omega) (by repeat (first | exact Less.nil | refine Less.cons rfl ?_)) (by repeat (first | exact Pick.nil | (apply Pick.cons; focus (repeat (first | exact Del.here | apply Del.there)))))
            | true =>
              refine cw_skip ?_
              refine xw_then ?_
              refine cw_seq ?_
              refine cw_block ?_
              refine cw_seq ?_
              refine cw_region ?_
              refine lstepB rfl rfl rfl (run_move (.tmp rfl)) ?_
              refine lstepB rfl rfl rfl (run_lss (.tmp rfl) .const (by first | exact decide_eq_true (by omega) | exact decide_eq_false (by omega) | exact rfl)) ?_
              refine lstepB rfl rfl rfl (run_move (.tmp rfl)) ?_
              refine lyes rfl rfl rfl rfl ?_
              refine gstepB rfl rfl (run_move (.tmp rfl)) ?_
              refine lyes rfl rfl rfl rfl ?_
              refine gstepB rfl rfl (run_call1 cb39 (.cons (.tmp rfl) .nil) (fun w' _ => sizeK k w' hk64)) ?_
              refine lyes rfl rfl rfl rfl ?_
              refine gstepB rfl rfl (run_move (.tmp rfl)) ?_
              refine lyes rfl rfl rfl rfl ?_
              refine gstepB rfl rfl (run_call1 cb39 (.cons (.tmp rfl) .nil) (fun w' _ => sizeK x w' (by omega))) ?_
              refine lyes rfl rfl rfl rfl ?_
              refine gstepB rfl rfl (run_lss (.tmp rfl) (.tmp rfl) (by first | exact decide_eq_true (by omega) | exact decide_eq_false (by omega) | exact rfl)) ?_
              refine lstepB rfl rfl rfl (by first | exact run_pick_true (.tmp rfl) .const | exact run_pick_false (.tmp rfl) (.tmp rfl)) ?_
              refine lstepB rfl rfl rfl (run_move (.tmp rfl)) ?_
              refine lyes rfl rfl rfl rfl ?_
              refine gstepB rfl rfl (run_loadN (.tmp rfl) kd25 sz25 (by repeat (first | exact List.Mem.head _ | apply List.Mem.tail)) (by repeat (first | exact Sub.done | apply Sub.take | apply Sub.skip))) ?_
              refine lyes rfl rfl rfl rfl ?_
              refine gstepB rfl rfl (run_move (.tmp rfl)) ?_
              refine lyes rfl rfl rfl rfl ?_
              refine gstepB rfl rfl (run_move (.tmp rfl)) ?_
              refine lyes rfl rfl rfl rfl ?_
              refine gstepB rfl rfl (run_call1 cb68 (.cons (.tmp rfl) (.cons (.tmp rfl) (.cons (.tmp rfl) .nil))) (fun w' hS => (provesK hv (h8 hv) (h3 hv) i pc lc k (by omega) w' (hp.kept hS.kept)).as (congrArg Value.bool hpv))) ?_
              refine lstepB rfl rfl rfl (by first | exact run_pick_true (.tmp rfl) (.tmp rfl) | exact run_pick_false (.tmp rfl) .const) ?_
              refine lnil ?_
              refine xw_then ?_
              refine cw_cond_true (.tmp rfl) ?_
              refine cw_region ?_
              refine lstepB rfl rfl rfl (run_move (.tmp rfl)) ?_
              refine lstepB rfl rfl rfl (run_assign (.tmp rfl)) ?_
              refine lnil ?_
              refine xw_in ?_
              refine xw_then ?_
              refine cw_region ?_
              refine lstepB rfl rfl rfl (run_move (.tmp rfl)) ?_
              refine lstepB rfl rfl rfl (run_add (.tmp rfl) .const (by first | exact IntWalk.i64_in _ (by omega) | exact rfl)) ?_
              refine lstepB rfl rfl rfl (run_assign (.tmp rfl)) ?_
              refine lnil ?_
              exact xw_round ⟨k + 1, (k : Int)⟩ ⟨hI.yes hpv (.inr ⟨x, rfl, hc⟩), by simp only; omega⟩ (by simp only; omega) (by repeat (first | exact Less.nil | refine Less.cons rfl ?_)) (by repeat (first | exact Pick.nil | (apply Pick.cons; focus (repeat (first | exact Del.here | apply Del.there)))))
          ·
            refine cw_skip ?_
            refine xw_then ?_
            refine cw_seq ?_
            refine cw_block ?_
            refine cw_seq ?_
            refine cw_region ?_
            refine lstepB rfl rfl rfl (run_move (.tmp rfl)) ?_
            refine lstepB rfl rfl rfl (run_lss (.tmp rfl) .const (by first | exact decide_eq_true (by omega) | exact decide_eq_false (by omega) | exact rfl)) ?_
            refine lstepB rfl rfl rfl (run_move (.tmp rfl)) ?_
            refine lyes rfl rfl rfl rfl ?_
            refine gstepB rfl rfl (run_move (.tmp rfl)) ?_
            refine lyes rfl rfl rfl rfl ?_
            refine gstepB rfl rfl (run_call1 cb39 (.cons (.tmp rfl) .nil) (fun w' _ => sizeK k w' hk64)) ?_
            refine lyes rfl rfl rfl rfl ?_
            refine gstepB rfl rfl (run_move (.tmp rfl)) ?_
            refine lyes rfl rfl rfl rfl ?_
            refine gstepB rfl rfl (run_call1 cb39 (.cons (.tmp rfl) .nil) (fun w' _ => sizeK x w' (by omega))) ?_
            refine lyes rfl rfl rfl rfl ?_
            refine gstepB rfl rfl (run_lss (.tmp rfl) (.tmp rfl) (by first | exact decide_eq_true (by omega) | exact decide_eq_false (by omega) | exact rfl)) ?_
            refine lstepB rfl rfl rfl (by first | exact run_pick_true (.tmp rfl) .const | exact run_pick_false (.tmp rfl) (.tmp rfl)) ?_
            refine lstepB rfl rfl rfl (run_move (.tmp rfl)) ?_
            refine lskip rfl rfl rfl rfl rfl rfl rfl ?_
            refine lskip rfl rfl rfl rfl rfl rfl rfl ?_
            refine lskip rfl rfl rfl rfl rfl rfl rfl ?_
            refine lskip rfl rfl rfl rfl rfl rfl rfl ?_
            refine lstepB rfl rfl rfl (by first | exact run_pick_true (.tmp rfl) (.tmp rfl) | exact run_pick_false (.tmp rfl) .const) ?_
            refine lnil ?_
            refine xw_then ?_
            refine cw_cond_false (.tmp rfl) ?_
            refine cw_skip ?_
            refine xw_in ?_
            refine xw_then ?_
            refine cw_region ?_
            refine lstepB rfl rfl rfl (run_move (.tmp rfl)) ?_
            refine lstepB rfl rfl rfl (run_add (.tmp rfl) .const (by first | exact IntWalk.i64_in _ (by omega) | exact rfl)) ?_
            refine lstepB rfl rfl rfl (run_assign (.tmp rfl)) ?_
            refine lnil ?_
            exact xw_round ⟨k + 1, (x : Int)⟩ ⟨hI.worse rfl hc, by simp only; omega⟩ (by simp only; omega) (by repeat (first | exact Less.nil | refine Less.cons rfl ?_)) (by repeat (first | exact Pick.nil | (apply Pick.cons; focus (repeat (first | exact Del.here | apply Del.there)))))
      ·
        have hgt' : ¬ (k : Int) ≤ ((2 ^ p.ls.length - 1 : Nat) : Int) := hgt
        obtain rfl : k = 2 ^ p.ls.length := by omega
        rw [hI.proof hv hil]
        by_cases hb : b < 0
        ·
          refine cw_exit ?_
          refine xw_then_exit ?_
          refine xw_then_exit ?_
          refine xw_in_exit ?_
          refine xw_then ?_
          refine cw_seq ?_
          refine cw_seq ?_
          refine cw_region ?_
          refine lstepB rfl rfl rfl (run_move (.tmp rfl)) ?_
          refine lstepB rfl rfl rfl (run_lss (.tmp rfl) .const (by first | exact decide_eq_true (by omega) | exact decide_eq_false (by omega) | exact rfl)) ?_
          refine lnil ?_
          refine xw_then ?_
          refine cw_cond_true (.tmp rfl) ?_
          refine cw_seq ?_
          refine cw_region ?_
          refine lstepB rfl rfl rfl (run_assign .const) ?_
          refine lstepB rfl rfl rfl (run_assign .const) ?_
          refine lnil ?_
          refine xw_then ?_
          refine cw_ret ?_
          refine xw_then_ret ?_
          refine xw_ret2 Try.results26 rfl rfl (fun w' hS => ⟨by rw [if_pos hb]; rfl, hS.kept⟩)
        ·
          refine cw_exit ?_
          refine xw_then_exit ?_
          refine xw_then_exit ?_
          refine xw_in_exit ?_
          refine xw_then ?_
          refine cw_seq ?_
          refine cw_seq ?_
          refine cw_region ?_
          refine lstepB rfl rfl rfl (run_move (.tmp rfl)) ?_
          refine lstepB rfl rfl rfl (run_lss (.tmp rfl) .const (by first | exact decide_eq_true (by omega) | exact decide_eq_false (by omega) | exact rfl)) ?_
          refine lnil ?_
          refine xw_then ?_
          refine cw_cond_false (.tmp rfl) ?_
          refine cw_skip ?_
          refine xw_then ?_
          refine cw_seq ?_
          refine cw_region ?_
          refine lstepB rfl rfl rfl (run_move (.tmp rfl)) ?_
          refine lstepB rfl rfl rfl (run_assign (.tmp rfl)) ?_
          refine lstepB rfl rfl rfl (run_assign .const) ?_
          refine lnil ?_
          refine xw_then ?_
          refine cw_ret ?_
          refine xw_ret2 Try.results26 rfl rfl (fun w' hS => ⟨by rw [if_neg hb]; rfl, hS.kept⟩)
end Go.Proofs.Ytkjciobphbcknaa
namespace Go.Proofs.Ytkjciobphbcknaa
open Go.RowKit En

set_option maxRecDepth 100000 in
set_option maxHeartbeats 4000000 in
theorem pegFar_any (p : PegsD) (a b c : Int) (pa la : Option Addr) (pc lc : Nat) (w : World) (hm : p.ps.length ≤ 9223372036854775807) (hm2 : p.ls.length ≤ 9223372036854775807) (hp : PegsIn w p pa la) :
    Gives Try.prog 4 [.agg [.int .i64 p.side, .slice pa p.ps.length pc, .slice la p.ls.length lc].toArray, .int .i64 a, .int .i64 b, .int .i64 c] w (.bool true) := by
  cases hh : heavyB p 3 7 with
  | true =>
    refine .mk <| enter (n := 97) Try.func4 rfl rfl rfl (by repeat (first | exact Fill.nil | apply Fill.cons)) ?_
    refine cw_seq ?_
    refine cw_region ?_
    refine lstep rfl rfl rfl (run_boxN (.tmp rfl)) ?_
    intro b4 _
    refine lstepB rfl rfl rfl (run_assign .const) ?_
    refine lnil ?_
    refine xw_then ?_
    refine cw_seq ?_
    refine cw_seq ?_
    refine cw_region ?_
    refine lstepB rfl rfl rfl (run_loadN (.tmp rfl) kd25 sz25 (by repeat (first | exact List.Mem.head _ | apply List.Mem.tail)) (by repeat (first | exact Sub.done | apply Sub.take | apply Sub.skip))) ?_
    refine lstepB rfl rfl rfl (run_call1 cb11 (.cons (.tmp rfl) (.cons .const (.cons .const .nil))) (fun w' hS => (heavyK p 3 7 pa la pc lc w' hm hm2 (hp.kept hS.kept)).as (congrArg Value.bool hh))) ?_
    refine lnil ?_
    refine xw_then ?_
    refine cw_cond_true (.tmp rfl) ?_
    refine cw_seq ?_
    refine cw_region ?_
    refine lstepB rfl rfl rfl (run_call1 cb12 .nil (fun w' _ => ⟨alive_any w'⟩)) ?_
    refine lstepB rfl rfl rfl (run_assign (.tmp rfl)) ?_
    refine lnil ?_
    refine xw_then ?_
    refine cw_ret ?_
    refine xw_then_ret ?_
    refine xw_ret1 Try.results4 rfl (fun w' hS => ⟨rfl, hS.kept⟩)
  | false =>
    obtain ⟨h8, h3⟩ := light hh
    replace h8 : validB p = true → p.side ≤ 8 := fun hv => by have := h8 hv; omega
    replace h3 : validB p = true → p.ps.length ≤ 3 := fun hv => by have := h3 hv; omega
    refine .mk <| enter (n := 97) Try.func4 rfl rfl rfl (by repeat (first | exact Fill.nil | apply Fill.cons)) ?_
    refine cw_seq ?_
    refine cw_region ?_
    refine lstep rfl rfl rfl (run_boxN (.tmp rfl)) ?_
    intro b4 _
    refine lstepB rfl rfl rfl (run_assign .const) ?_
    refine lnil ?_
    refine xw_then ?_
    refine cw_seq ?_
    refine cw_seq ?_
    refine cw_region ?_
    refine lstepB rfl rfl rfl (run_loadN (.tmp rfl) kd25 sz25 (by repeat (first | exact List.Mem.head _ | apply List.Mem.tail)) (by repeat (first | exact Sub.done | apply Sub.take | apply Sub.skip))) ?_
    refine lstepB rfl rfl rfl (run_call1 cb11 (.cons (.tmp rfl) (.cons .const (.cons .const .nil))) (fun w' hS => (heavyK p 3 7 pa la pc lc w' hm hm2 (hp.kept hS.kept)).as (congrArg Value.bool hh))) ?_
    refine lnil ?_
    refine xw_then ?_
    refine cw_cond_false (.tmp rfl) ?_
    refine cw_skip ?_
    refine xw_then ?_
    refine cw_seq ?_
    refine cw_region ?_
    refine lstepB rfl rfl rfl (run_loadN (.tmp rfl) kd25 sz25 (by repeat (first | exact List.Mem.head _ | apply List.Mem.tail)) (by repeat (first | exact Sub.done | apply Sub.take | apply Sub.skip))) ?_
    refine lstepB rfl rfl rfl (run_move (.tmp rfl)) ?_
    refine lstepB rfl rfl rfl (run_move (.tmp rfl)) ?_
    refine lstepB rfl rfl rfl (run_call1 cb21 (.cons (.tmp rfl) (.cons (.tmp rfl) (.cons (.tmp rfl) .nil))) (fun w' hS => ⟨(apartF_any p a b pa la pc lc w' hm hm2 (hp.kept hS.kept)).mono fun e w2 ⟨h1, k⟩ => ⟨h1, k⟩⟩)) ?_
    refine lstepB rfl rfl rfl (run_move (.tmp rfl)) ?_
    refine lstepB rfl rfl rfl (run_extract (.tmp rfl) rfl) ?_
    refine lstepB rfl rfl rfl (run_extract (.tmp rfl) rfl) ?_
    refine lstep rfl rfl rfl (run_alloc zr32) ?_
    intro b9 _
    refine lstep0 rfl rfl (run_storeN (.tmp rfl) (.tmp rfl) rfl sz32 rfl (by repeat (first | exact Upd.here | apply Upd.there)) (by repeat (first | exact Put.done | apply Put.put | apply Put.skip))) ?_
    refine lstepB rfl rfl rfl (run_assign (.tmp rfl)) ?_
    refine lnil ?_
    refine xw_then ?_
    refine cw_seq ?_
    refine cw_region ?_
    refine lstepB rfl rfl rfl (run_loadN (.tmp rfl) kd25 sz25 (by repeat (first | exact List.Mem.head _ | apply List.Mem.tail)) (by repeat (first | exact Sub.done | apply Sub.take | apply Sub.skip))) ?_
    refine lstepB rfl rfl rfl (run_move (.tmp rfl)) ?_
    refine lstepB rfl rfl rfl (run_move (.tmp rfl)) ?_
    refine lstepB rfl rfl rfl (run_call1 cb22 (.cons (.tmp rfl) (.cons (.tmp rfl) (.cons (.tmp rfl) .nil))) (fun w' hS => apartRK a b pc lc hm hm2 h8 h3 w' (hp.kept hS.kept))) ?_
    refine lstepB rfl rfl rfl (run_move (.tmp rfl)) ?_
    refine lstepB rfl rfl rfl (run_extract (.tmp rfl) rfl) ?_
    refine lstepB rfl rfl rfl (run_extract (.tmp rfl) rfl) ?_
    refine lstep rfl rfl rfl (run_alloc zr32) ?_
    intro b11 _
    refine lstep0 rfl rfl (run_storeN (.tmp rfl) (.tmp rfl) rfl sz32 rfl (by repeat (first | exact Upd.here | apply Upd.there)) (by repeat (first | exact Put.done | apply Put.put | apply Put.skip))) ?_
    refine lstepB rfl rfl rfl (run_assign (.tmp rfl)) ?_
    refine lnil ?_
    refine xw_then ?_
    refine cw_seq ?_
    refine cw_region ?_
    refine lstepB rfl rfl rfl (run_loadN (.tmp rfl) kd25 sz25 (by repeat (first | exact List.Mem.head _ | apply List.Mem.tail)) (by repeat (first | exact Sub.done | apply Sub.take | apply Sub.skip))) ?_
    refine lstepB rfl rfl rfl (run_move (.tmp rfl)) ?_
    refine lstepB rfl rfl rfl (run_move (.tmp rfl)) ?_
    refine lstepB rfl rfl rfl (run_move (.tmp rfl)) ?_
    refine lstepB rfl rfl rfl (run_call1 cb23 (.cons (.tmp rfl) (.cons (.tmp rfl) (.cons (.tmp rfl) (.cons (.tmp rfl) .nil)))) (fun w' hS => ⟨(areaF_any p a b c pa la pc lc w' hm hm2 (hp.kept hS.kept)).mono fun e w2 ⟨h1, k⟩ => ⟨h1, k⟩⟩)) ?_
    refine lstepB rfl rfl rfl (run_move (.tmp rfl)) ?_
    refine lstepB rfl rfl rfl (run_extract (.tmp rfl) rfl) ?_
    refine lstepB rfl rfl rfl (run_extract (.tmp rfl) rfl) ?_
    refine lstep rfl rfl rfl (run_alloc zr32) ?_
    intro b13 _
    refine lstep0 rfl rfl (run_storeN (.tmp rfl) (.tmp rfl) rfl sz32 rfl (by repeat (first | exact Upd.here | apply Upd.there)) (by repeat (first | exact Put.done | apply Put.put | apply Put.skip))) ?_
    refine lstepB rfl rfl rfl (run_assign (.tmp rfl)) ?_
    refine lnil ?_
    refine xw_then ?_
    refine cw_seq ?_
    refine cw_region ?_
    refine lstepB rfl rfl rfl (run_loadN (.tmp rfl) kd25 sz25 (by repeat (first | exact List.Mem.head _ | apply List.Mem.tail)) (by repeat (first | exact Sub.done | apply Sub.take | apply Sub.skip))) ?_
    refine lstepB rfl rfl rfl (run_move (.tmp rfl)) ?_
    refine lstepB rfl rfl rfl (run_move (.tmp rfl)) ?_
    refine lstepB rfl rfl rfl (run_move (.tmp rfl)) ?_
    refine lstepB rfl rfl rfl (run_call1 cb24 (.cons (.tmp rfl) (.cons (.tmp rfl) (.cons (.tmp rfl) (.cons (.tmp rfl) .nil)))) (fun w' hS => areaRK a b c pc lc hm hm2 h8 h3 w' (hp.kept hS.kept))) ?_
    refine lstepB rfl rfl rfl (run_move (.tmp rfl)) ?_
    refine lstepB rfl rfl rfl (run_extract (.tmp rfl) rfl) ?_
    refine lstepB rfl rfl rfl (run_extract (.tmp rfl) rfl) ?_
    refine lstep rfl rfl rfl (run_alloc zr32) ?_
    intro b15 _
    refine lstep0 rfl rfl (run_storeN (.tmp rfl) (.tmp rfl) rfl sz32 rfl (by repeat (first | exact Upd.here | apply Upd.there)) (by repeat (first | exact Put.done | apply Put.put | apply Put.skip))) ?_
    refine lstepB rfl rfl rfl (run_assign (.tmp rfl)) ?_
    refine lnil ?_
    refine xw_then ?_
    refine cw_seq ?_
    refine cw_region ?_
    refine lstepB rfl rfl rfl (run_loadN (.tmp rfl) kd25 sz25 (by repeat (first | exact List.Mem.head _ | apply List.Mem.tail)) (by repeat (first | exact Sub.done | apply Sub.take | apply Sub.skip))) ?_
    refine lstepB rfl rfl rfl (run_move (.tmp rfl)) ?_
    refine lstepB rfl rfl rfl (run_call1 cb25 (.cons (.tmp rfl) (.cons (.tmp rfl) .nil)) (fun w' hS => ⟨(proof_any p a pa la pc lc w' hm hm2 (hp.kept hS.kept)).mono fun e w2 ⟨h1, k⟩ => ⟨h1, k⟩⟩)) ?_
    refine lstepB rfl rfl rfl (run_move (.tmp rfl)) ?_
    refine lstepB rfl rfl rfl (run_extract (.tmp rfl) rfl) ?_
    refine lstepB rfl rfl rfl (run_extract (.tmp rfl) rfl) ?_
    refine lstepB rfl rfl rfl (run_assign (.tmp rfl)) ?_
    refine lstepB rfl rfl rfl (run_assign (.tmp rfl)) ?_
    refine lnil ?_
    refine xw_then ?_
    refine cw_seq ?_
    refine cw_region ?_
    refine lstepB rfl rfl rfl (run_loadN (.tmp rfl) kd25 sz25 (by repeat (first | exact List.Mem.head _ | apply List.Mem.tail)) (by repeat (first | exact Sub.done | apply Sub.take | apply Sub.skip))) ?_
    refine lstepB rfl rfl rfl (run_move (.tmp rfl)) ?_
    refine lstepB rfl rfl rfl (run_call1 cb26 (.cons (.tmp rfl) (.cons (.tmp rfl) .nil)) (fun w' hS => proofRK a pc lc hm hm2 h8 h3 w' (hp.kept hS.kept))) ?_
    refine lstepB rfl rfl rfl (run_move (.tmp rfl)) ?_
    refine lstepB rfl rfl rfl (run_extract (.tmp rfl) rfl) ?_
    refine lstepB rfl rfl rfl (run_extract (.tmp rfl) rfl) ?_
    refine lstepB rfl rfl rfl (run_assign (.tmp rfl)) ?_
    refine lstepB rfl rfl rfl (run_assign (.tmp rfl)) ?_
    refine lnil ?_
    refine xw_then ?_
    refine cw_seq ?_
    refine cw_region ?_
    refine lstepB rfl rfl rfl (run_loadN (.tmp rfl) kd32 sz32 (by repeat (first | exact List.Mem.head _ | apply List.Mem.tail)) (by repeat (first | exact Sub.done | apply Sub.take | apply Sub.skip))) ?_
    refine lstepB rfl rfl rfl (run_loadN (.tmp rfl) kd32 sz32 (by repeat (first | exact List.Mem.head _ | apply List.Mem.tail)) (by repeat (first | exact Sub.done | apply Sub.take | apply Sub.skip))) ?_
    refine lstepB rfl rfl rfl (run_eql_agg (.tmp rfl) (.tmp rfl) eg32 (eql32 (r := true) (by simp))) ?_
    refine lstepB rfl rfl rfl (run_move (.tmp rfl)) ?_
    refine lyes rfl rfl rfl rfl ?_
    refine gstepB rfl rfl (run_move (.tmp rfl)) ?_
    refine lyes rfl rfl rfl rfl ?_
    refine gstepB rfl rfl (run_move (.tmp rfl)) ?_
    refine lyes rfl rfl rfl rfl ?_
    refine gstepB rfl rfl (run_eql (.tmp rfl) (.tmp rfl) (by first | exact decide_eq_true (by omega) | exact decide_eq_false (by omega) | exact rfl)) ?_
    refine lstepB rfl rfl rfl (by first | exact run_pick_true (.tmp rfl) (.tmp rfl) | exact run_pick_false (.tmp rfl) .const) ?_
    refine lstepB rfl rfl rfl (run_move (.tmp rfl)) ?_
    refine lyes rfl rfl rfl rfl ?_
    refine gstepB rfl rfl (run_loadN (.tmp rfl) kd32 sz32 (by repeat (first | exact List.Mem.head _ | apply List.Mem.tail)) (by repeat (first | exact Sub.done | apply Sub.take | apply Sub.skip))) ?_
    refine lyes rfl rfl rfl rfl ?_
    refine gstepB rfl rfl (run_loadN (.tmp rfl) kd32 sz32 (by repeat (first | exact List.Mem.head _ | apply List.Mem.tail)) (by repeat (first | exact Sub.done | apply Sub.take | apply Sub.skip))) ?_
    refine lyes rfl rfl rfl rfl ?_
    refine gstepB rfl rfl (run_eql_agg (.tmp rfl) (.tmp rfl) eg32 (eql32 (r := true) (by simp))) ?_
    refine lstepB rfl rfl rfl (by first | exact run_pick_true (.tmp rfl) (.tmp rfl) | exact run_pick_false (.tmp rfl) .const) ?_
    refine lstepB rfl rfl rfl (run_move (.tmp rfl)) ?_
    refine lyes rfl rfl rfl rfl ?_
    refine gstepB rfl rfl (run_move (.tmp rfl)) ?_
    refine lyes rfl rfl rfl rfl ?_
    refine gstepB rfl rfl (run_move (.tmp rfl)) ?_
    refine lyes rfl rfl rfl rfl ?_
    refine gstepB rfl rfl (run_eql (.tmp rfl) (.tmp rfl) (by first | exact decide_eq_true (by omega) | exact decide_eq_false (by omega) | exact rfl)) ?_
    refine lstepB rfl rfl rfl (by first | exact run_pick_true (.tmp rfl) (.tmp rfl) | exact run_pick_false (.tmp rfl) .const) ?_
    refine lstepB rfl rfl rfl (run_move (.tmp rfl)) ?_
    refine lyes rfl rfl rfl rfl ?_
    refine gstepB rfl rfl (run_move (.tmp rfl)) ?_
    refine lyes rfl rfl rfl rfl ?_
    refine gstepB rfl rfl (run_move (.tmp rfl)) ?_
    refine lyes rfl rfl rfl rfl ?_
    refine gstepB rfl rfl (run_eql (.tmp rfl) (.tmp rfl) (by first | exact decide_eq_true (by omega) | exact decide_eq_false (by omega) | exact rfl)) ?_
    refine lstepB rfl rfl rfl (by first | exact run_pick_true (.tmp rfl) (.tmp rfl) | exact run_pick_false (.tmp rfl) .const) ?_
    refine lstepB rfl rfl rfl (run_move (.tmp rfl)) ?_
    refine lyes rfl rfl rfl rfl ?_
    refine gstepB rfl rfl (run_move (.tmp rfl)) ?_
    refine lyes rfl rfl rfl rfl ?_
    refine gstepB rfl rfl (run_move (.tmp rfl)) ?_
    refine lyes rfl rfl rfl rfl ?_
    refine gstepB rfl rfl (run_eql (.tmp rfl) (.tmp rfl) (by first | exact decide_eq_true (by omega) | exact decide_eq_false (by omega) | exact rfl)) ?_
    refine lstepB rfl rfl rfl (by first | exact run_pick_true (.tmp rfl) (.tmp rfl) | exact run_pick_false (.tmp rfl) .const) ?_
    refine lstepB rfl rfl rfl (run_move (.tmp rfl)) ?_
    refine lyes rfl rfl rfl rfl ?_
    refine gstepB rfl rfl (run_call1 cb12 .nil (fun w' _ => ⟨alive_any w'⟩)) ?_
    refine lstepB rfl rfl rfl (by first | exact run_pick_true (.tmp rfl) (.tmp rfl) | exact run_pick_false (.tmp rfl) .const) ?_
    refine lstepB rfl rfl rfl (run_assign (.tmp rfl)) ?_
    refine lnil ?_
    refine xw_then ?_
    refine cw_ret ?_
    refine xw_ret1 Try.results4 rfl (fun w' hS => ⟨rfl, hS.kept⟩)
end Go.Proofs.Ytkjciobphbcknaa
namespace Go.Proofs.Ytkjciobphbcknaa.pegFar
open Go.ChangeShapes Go.WideShapes Go.ChangeAt Go.RowKit Go.Joins Go.Deep

theorem own : ownKnob Try.prog.godebug = none := by kernel_rfl
theorem laidOut : laidOutB Try.prog = true := by kernel_rfl

set_option maxRecDepth 100000 in
theorem lifted (os : Os) (started : os.Started) (H : Type) (enc : TypeId × Value → H) :
    ReturnsInHanded {} Try.checked os 4 .any (Rows.pegFarSpec.pre6 enc Try.prog Try.f4 Rows.pegFarRow.domain false) (Rows.pegFarSpec.post enc Try.prog Try.f4 false true false false) := by
  refine returnsInHanded_of_change (C := Try.checked) own started (by kernel_rfl) Try.func4
    (ChangeSpec.witness6 (enc := enc) (C := Try.checked) false ⟨#[], #[.agg #[.int .i64 0, .slice none 0 0, .slice none 0 0], .int .i64 0, .int .i64 0, .int .i64 0], []⟩ 8 (by kernel_rfl) (by kernel_rfl) (by kernel_rfl) (by kernel_rfl)) ?_
  intro W base args ds gs before hval0 hW _ _
  have hval : ∀ (j : Nat) t v, Try.f4.params[j]? = some t → args[j]? = some v → Value.okWide Try.prog W .any base t v := hval0
  have hW' := hW
  obtain ⟨q, r, hA0, hV, rfl, _, _⟩ := hW
  have hA : DataW.TrodAll enc Try.prog W 0 (fun _ => true) true Try.f4.params.toList args.toList ds q := hA0
  rw [Try.params4] at hA hval
  obtain ⟨v0, v1, v2, v3, d0, d1, d2, d3, p0, p1, p2, p3, rfl, rfl, rfl, h0, h1, h2, h3⟩ := trodAll_four hA
  obtain ⟨p, pa, la, pc, lc, rfl, hp, hm, hm2⟩ := open_pegs (hval 0 25 v0 rfl rfl) h0
  obtain ⟨n, rfl, rfl, rfl, _⟩ := open_int Try.underlying3 (hval 1 3 v1 rfl rfl) h1
  obtain ⟨b, rfl, rfl, rfl, _⟩ := open_int Try.underlying3 (hval 2 3 v2 rfl rfl) h2
  obtain ⟨c, rfl, rfl, rfl, _⟩ := open_int Try.underlying3 (hval 3 3 v3 rfl rfl) h3
  refine (pegFar_any p n b c pa la pc lc W hm hm2 hp).1.mono fun e W' ⟨he, hk⟩ => ?_
  subst he
  exact ⟨_, rfl, law_post (ts := [25, 3, 3, 3]) laidOut Try.underlying4 rfl (by rw [Try.params4]) (by intro t ht; simp at ht; rcases ht with rfl | rfl <;> exact ⟨by kernel_rfl, of_decide_eq_true (by kernel_rfl)⟩) rfl hW' (fun h => by subst h; rfl) hk⟩

theorem over : Rows.pegFarRow.holds Try.pinned (OpenSpec.ofChange Rows.pegFarSpec) :=
  OpenClaim.holds_of_wide 4 Try.f4 rfl rfl rfl rfl rfl rfl rfl ⟨rfl, rfl, rfl, rfl, rfl⟩ rfl rfl rfl rfl rfl (by kernel_rfl) Try.func4 (by kernel_rfl)
    (of_decide_eq_true (by kernel_rfl)) (by unfold Func.isWrapper; first | (rw [if_pos (by decide +kernel)]; kernel_rfl) | (rw [if_neg (by decide +kernel)]; exact ⟨rfl, rfl⟩))
    (fun os started H enc _ => lifted os started H enc)

theorem proved : Rows.PegFarSaid := over
end Go.Proofs.Ytkjciobphbcknaa.pegFar
