/- Soil: the document's own mixes: along. -/
import Derived.Test.YtfmbnobkenngaaaID
namespace Go.Proofs.Ytfmbnobkenngaaa
open Go.RowKit En

def hereL (g : GroundD) (K : Int) (first : Bool) (N : List S3) (i : Nat) : List S3 := (allM.take i).filter (okM g K first N)
theorem here_yes {g : GroundD} {K : Int} {first : Bool} {N : List S3} {i : Nat} {s : S3} (hi : allM[i]? = some s) (h : okM g K first N s = true) : hereL g K first N (i + 1) = hereL g K first N i ++ [s] := by
  simp [hereL, List.take_add_one, hi, h]
theorem here_no {g : GroundD} {K : Int} {first : Bool} {N : List S3} {i : Nat} {s : S3} (hi : allM[i]? = some s) (h : okM g K first N s = false) : hereL g K first N (i + 1) = hereL g K first N i := by
  simp [hereL, List.take_add_one, hi, h]
theorem here_len (g : GroundD) (K : Int) (first : Bool) (N : List S3) (i : Nat) : (hereL g K first N i).length ≤ 231 := by
  have h1 : (hereL g K first N i).length ≤ (allM.take i).length := List.length_filter_le ..
  have h2 : (allM.take i).length ≤ allM.length := by rw [List.length_take]; omega
  have h3 : allM.length = 231 := by decide +kernel
  omega
theorem here_all (g : GroundD) (fr d : Int) (m : Nat) : hereL g (fr + d * (m : Int)) (decide (m = 0)) (nowF g fr d m) allM.length = nowF g fr d (m + 1) := by
  simp [hereL, nowF]
theorem allM_len : allM.length = 231 := by decide +kernel
theorem now_len (g : GroundD) (fr d : Int) : ∀ m, (nowF g fr d m).length ≤ 231
  | 0 => by simp [nowF]
  | m + 1 => by rw [← here_all]; exact here_len ..
theorem now_ok {g : GroundD} {fr d : Int} {m : Nat} {s : S3} (h : s ∈ nowF g fr d m) : okS s := by
  cases m with
  | zero => cases h
  | succ m => rw [nowF, List.mem_filter] at h; exact mem_all.1 h.1
set_option maxRecDepth 100000 in
set_option maxHeartbeats 4000000 in
theorem alongZK (g : GroundD) (pa : Option Addr) (pc : Nat) (at' fr d : Int) (M : Nat) (hd : d = 1 ∨ d = -1) (hat : at' = fr + d * (M : Int)) (hB : ∀ m : Nat, m ≤ M → 0 ≤ fr + d * (m : Int) ∧ fr + d * (m : Int) ≤ 40) (hch : 0 ≤ g.change ∧ g.change ≤ 20) (hgm : g.pits.length ≤ 1000000) (w : World) (hp : PitsAt w pa g.pits) : CallsF Try.prog 85 (([.agg [.int .i64 g.long, .int .i64 g.rise, .int .i64 g.change, .slice pa g.pits.length pc].toArray, .int .i64 at', .int .i64 fr, .int .i64 d] : List Value)).toArray w fun e w' => ∃ q : Option (Nat × Nat × List Value), (match q with | none => (nowF g fr d (M + 1)) = [] | some q => 1 ≤ ((nowF g fr d (M + 1))).length ∧ InRow 2 ((nowF g fr d (M + 1))).length q.2.1 q.2.2 (ssC ((nowF g fr d (M + 1))))) ∧ e = .returned (match q with | none => .slice none 0 0 | some q => .slice (some ⟨q.1, 0, none⟩) (nowF g fr d (M + 1)).length q.2.1) ∧ St w NoT (match q with | none => [] | some q => [(q.1, Obj.cells q.2.2.toArray 92 (0, 0))]) w' := by
 have hal := allM_len
 refine enter (n := 72) Try.func85 rfl rfl rfl (by repeat (first | exact Fill.nil | apply Fill.cons)) ?_
 refine cw_seq ?_
 refine cw_region ?_
 refine lstep rfl rfl rfl (run_boxN (.tmp rfl)) ?_
 intro b4 _
 refine lstepB rfl rfl rfl (run_assign .const) ?_
 refine lnil ?_
 refine xw_then ?_
 refine cw_seq ?_
 refine cw_region ?_
 refine lstep rfl rfl rfl (LR.runs (R := []) (A := []) (lr_gives cb101 .nil (fun w2 hS => mixesZK w2)) (by repeat (first | exact Pick.nil | (apply Pick.cons; focus (repeat (first | exact Del.here | apply Del.there))))) (by repeat (first | exact Dels.nil | (apply Dels.cons; focus (repeat (first | exact Del.here | apply Del.there)))))) ?_
 intro ⟨gL, cL, rL⟩ hL
 dsimp only at hL ⊢
 refine lstepB rfl rfl rfl (run_assign (.tmp rfl)) ?_
 refine lnil ?_
 refine xw_then ?_
 refine cw_seq ?_
 refine cw_region ?_
 refine lstepB rfl rfl rfl (run_assign .const) ?_
 refine lnil ?_
 refine xw_then ?_
 refine cw_seq ?_
 refine cw_region ?_
 refine lstepB rfl rfl rfl (runB_to (run_move (.tmp rfl)) (congrArg (Value.int .i64) (show fr = fr + d * ((0 : Nat) : Int) by simp))) ?_
 refine lstepB rfl rfl rfl (run_assign (.tmp rfl)) ?_
 refine lnil ?_
 refine xw_then ?_
 refine cw_block ?_
 refine cw_loop (S := Nat × Option (Nat × Nat × List Value)) (fun s => [(11, .int .i64 (fr + d * ((s.1 : Nat) : Int))), (10, match s.2 with | none => .slice none 0 0 | some q => .slice (some ⟨q.1, 0, none⟩) (nowF g fr d s.1).length q.2.1)]) [(1, _), (2, _), (3, _), (4, _), (9, _)] (fun s => (match s.2 with | none => [] | some q => [(q.1, Obj.cells q.2.2.toArray 92 (0, 0))]) ++ [(gL, Obj.cells rL.toArray 92 (0, 0)), (b4, Obj.cells [.int .i64 g.long, .int .i64 g.rise, .int .i64 g.change, .slice pa g.pits.length pc].toArray 24 (0, 0))]) (fun s => s.1 ≤ M ∧ (match s.2 with | none => (nowF g fr d s.1) = [] | some q => 0 < s.1 ∧ 1 ≤ (nowF g fr d s.1).length ∧ InRow 2 (nowF g fr d s.1).length q.2.1 q.2.2 (ssC (nowF g fr d s.1)))) (fun s => M + 1 - s.1) (0, none) ⟨Nat.zero_le _, rfl⟩ (by repeat (first | exact Less.nil | refine Less.cons rfl ?_)) (by repeat (first | exact Pick.nil | (apply Pick.cons; focus (repeat (first | exact Del.here | apply Del.there))))) ?_
 intro s hs
 obtain ⟨m, o⟩ := s
 obtain ⟨hm, ho⟩ := hs
 dsimp only at hm ho ⊢
 obtain ⟨hB1, hB2⟩ := hB m hm
 obtain ⟨K, hK⟩ : ∃ K, fr + d * (m : Int) = K := ⟨_, rfl⟩
 have hKn : K + d = fr + d * ((m + 1 : Nat) : Int) := by rw [← hK, Int.natCast_add, Int.mul_add]; simp only [Int.natCast_one, Int.mul_one]; omega
 have hK0 : m = 0 → K = fr := fun h => by rw [← hK, h]; simp
 have hK1 : m ≠ 0 → K ≠ fr := fun h => by rcases hd with rfl | rfl <;> omega
 have hKM : m = M → K = at' := fun h => by rw [← hK, hat, h]
 have hKN : m ≠ M → K ≠ at' := fun h => by rcases hd with rfl | rfl <;> omega
 have hall := here_all g fr d m
 have hnl := now_len g fr d m
 have hnok : ∀ s, s ∈ nowF g fr d m → okS s := fun s h => now_ok h
 obtain ⟨N, hN⟩ : ∃ N, nowF g fr d m = N := ⟨_, rfl⟩
 rw [hK] at hB1 hB2 hall ⊢
 rw [hN] at hall ho hnl hnok ⊢
 have hdb : -1 ≤ d ∧ d ≤ 1 := by omega
 cases o
 case none =>
  dsimp only at ho ⊢
  have hNe := ho
  by_cases hm0 : m = 0
  ·
   have hm0d : decide (m = 0) = true := decide_eq_true hm0
   have hKf := hK0 hm0
   rw [hm0d] at hall
   refine cw_seq ?_
   refine cw_block ?_
   refine cw_seq ?_
   refine cw_region ?_
   refine lstepB rfl rfl rfl (run_assign .const) ?_
   refine lnil ?_
   refine xw_then ?_
   refine cw_seq ?_
   refine cw_seq ?_
   refine cw_region ?_
   refine lstepB rfl rfl rfl (run_assign .const) ?_
   refine lnil ?_
   refine xw_then ?_
   refine cw_block ?_
   refine cw_loop (S := Nat × Option (Nat × Nat × List Value)) (fun s => [(13, .int .i64 ((s.1 : Nat) : Int)), (12, match s.2 with | none => .slice none 0 0 | some q => .slice (some ⟨q.1, 0, none⟩) (hereL g K true N s.1).length q.2.1)]) [(1, _), (2, _), (3, _), (4, _), (9, _), (10, _), (11, _)] (fun s => (match s.2 with | none => [] | some q => [(q.1, Obj.cells q.2.2.toArray 92 (0, 0))]) ++ [(gL, Obj.cells rL.toArray 92 (0, 0)), (b4, Obj.cells [.int .i64 g.long, .int .i64 g.rise, .int .i64 g.change, .slice pa g.pits.length pc].toArray 24 (0, 0))]) (fun s => s.1 ≤ allM.length ∧ (match s.2 with | none => (hereL g K true N s.1) = [] | some q => 1 ≤ ((hereL g K true N s.1)).length ∧ InRow 2 ((hereL g K true N s.1)).length q.2.1 q.2.2 (ssC ((hereL g K true N s.1))))) (fun s => allM.length - s.1) (0, none) ⟨Nat.zero_le _, rfl⟩ (by repeat (first | exact Less.nil | refine Less.cons rfl ?_)) (by repeat (first | exact Pick.nil | (apply Pick.cons; focus (repeat (first | exact Del.here | apply Del.there))))) ?_
   intro s hs
   obtain ⟨i, o⟩ := s
   obtain ⟨hi, ho2⟩ := hs
   dsimp only at hi ho2 ⊢
   cases o
   case none =>
    dsimp only at ho2 ⊢
    refine cw_seq ?_
    refine cw_seq ?_
    refine cw_region ?_
    refine lstepB rfl rfl rfl (run_move (.tmp rfl)) ?_
    refine lstepB rfl rfl rfl (run_move (.tmp rfl)) ?_
    refine lstepB rfl rfl rfl (run_len (.tmp rfl) sl89) ?_
    refine lstepB rfl rfl rfl (run_lss (.tmp rfl) (.tmp rfl) rfl) ?_
    refine lnil ?_
    refine xw_then ?_
    refine cw_cond_p (.tmp rfl) (fun hl => ?_) (fun hl => ?_)
    ·
     obtain ⟨s, hsi⟩ : ∃ s, allM[i]? = some s := ⟨_, List.getElem?_eq_getElem (by omega)⟩
     have hso : okS s := mem_all.1 (List.mem_of_getElem? hsi)
     have hhl := here_len g K true N i
     refine cw_skip ?_
     refine xw_then ?_
     refine cw_seq ?_
     refine cw_block ?_
     refine cw_seq ?_
     refine cw_region ?_
     refine lstepB rfl rfl rfl (run_move (.tmp rfl)) ?_
     refine lstepB rfl rfl rfl (run_move (.tmp rfl)) ?_
     refine lstepB rfl rfl rfl (run_eql (p := true) (.tmp rfl) (.tmp rfl) (decide_eq_true hKf)) ?_
     refine lstepB rfl rfl rfl (run_assign (.tmp rfl)) ?_
     refine lnil ?_
     refine xw_then ?_
     refine cw_seq ?_
     refine cw_seq ?_
     refine cw_region ?_
     refine lstepB rfl rfl rfl (run_assign .const) ?_
     refine lnil ?_
     refine xw_then ?_
     refine cw_block ?_
     refine cw_loop (S := Nat) (fun j => [(15, .int .i64 ((j : Nat) : Int))]) [(1, _), (2, _), (3, _), (4, _), (9, _), (10, _), (11, _), (12, _), (13, _), (14, _)] (fun j => [(gL, Obj.cells rL.toArray 92 (0, 0)), (b4, Obj.cells [.int .i64 g.long, .int .i64 g.rise, .int .i64 g.change, .slice pa g.pits.length pc].toArray 24 (0, 0))]) (fun j => j = 0) (fun j => 0 - j) 0 rfl (by repeat (first | exact Less.nil | refine Less.cons rfl ?_)) (by repeat (first | exact Pick.nil | (apply Pick.cons; focus (repeat (first | exact Del.here | apply Del.there))))) ?_
     intro j hj
     subst hj
     refine cw_seq ?_
     refine cw_seq ?_
     refine cw_region ?_
     refine lstepB rfl rfl rfl (run_move (.tmp rfl)) ?_
     refine lstepB rfl rfl rfl (run_move (.tmp rfl)) ?_
     refine lstepB rfl rfl rfl (run_len (.tmp rfl) sl89) ?_
     refine lstepB rfl rfl rfl (run_lss (p := false) (.tmp rfl) (.tmp rfl) (decide_eq_false (by omega))) ?_
     refine lstepB rfl rfl rfl (run_move (.tmp rfl)) ?_
     refine lskip rfl rfl rfl rfl rfl rfl rfl ?_
     refine lskip rfl rfl rfl rfl rfl rfl rfl ?_
     refine lstepB rfl rfl rfl (by first | exact run_pick_true (.tmp rfl) (.tmp rfl) | exact run_pick_false (.tmp rfl) .const) ?_
     refine lnil ?_
     refine xw_then ?_
     refine cw_cond_false (.tmp rfl) ?_
     cases hf : fitsB g K s
     ·
      refine cw_exit ?_
      refine xw_then_exit ?_
      refine xw_then_exit ?_
      refine xw_in_exit ?_
      refine xw_then ?_
      refine cw_seq ?_
      refine cw_chain2 (σ := [0, 1, 2, 3, 4, 5, 6, 7, 8, 9]) [⟨0, [], [], [], 0⟩, ⟨0, [], [], [], 1⟩, ⟨0, [1], [], [], 3⟩, ⟨0, [], [], [], 3⟩, ⟨0, [], [], [], 3⟩, ⟨0, [], [], [], 3⟩, ⟨0, [], [], [], 51⟩, ⟨0, [0], [], [], 115⟩, ⟨0, [], [], [], 255⟩, ⟨0, [], [], [], 511⟩] [(0, _), (1, _)] (by kernel_rfl) (by kernel_rfl) rfl ?_
      refine .det (B := []) rfl rfl (.inl rfl) .nil .nil rfl (RunB.lr (run_move (.tmp rfl))) ?_
      refine .det (B := []) rfl rfl (.inl rfl) .nil .nil rfl (RunB.lr (run_move (.tmp rfl))) ?_
      refine .det (B := []) rfl rfl (.inr ⟨_, _, _, rfl, rfl, rfl⟩) (.cons rfl .nil) .nil rfl (RunB.lr (run_loadN (.tmp rfl) kd24 sz24 (by repeat (first | exact List.Mem.head _ | apply List.Mem.tail)) (by repeat (first | exact Sub.done | apply Sub.take | apply Sub.skip)))) ?_
      refine .det (B := []) rfl rfl (.inr ⟨_, _, _, rfl, rfl, rfl⟩) .nil .nil rfl (RunB.lr (run_move (.tmp rfl))) ?_
      refine .det (B := []) rfl rfl (.inr ⟨_, _, _, rfl, rfl, rfl⟩) .nil .nil rfl (RunB.lr (run_move (.tmp rfl))) ?_
      refine .det (B := []) rfl rfl (.inr ⟨_, _, _, rfl, rfl, rfl⟩) .nil .nil rfl (RunB.lr (run_move (.tmp rfl))) ?_
      refine .det (B := []) rfl rfl (.inr ⟨_, _, _, rfl, rfl, rfl⟩) .nil .nil rfl (RunB.lr (run_indexAddr (i := i) (off' := i * 2) (.tmp rfl) (.tmp rfl) el89 (by omega) (Nat.zero_add _))) ?_
      refine .det (B := []) rfl rfl (.inr ⟨_, _, _, rfl, rfl, rfl⟩) (.cons rfl .nil) .nil rfl (RunB.lr (run_loadN_own (l := sC s) (.tmp rfl) kd92 sz92 (by repeat (first | exact List.Mem.head _ | apply List.Mem.tail)) rfl (fun j' v hj' => hL.get (ssC_at allM i s hsi j' v hj')))) ?_
      refine .det (B := []) rfl rfl (.inr ⟨_, _, _, rfl, rfl, rfl⟩) .nil .nil rfl (RunB.lr (run_call1 cb103 (.cons (.tmp rfl) (.cons (.tmp rfl) (.cons (.tmp rfl) .nil))) (fun w hS => (fitsZK g pa pc K s hso hgm w (hp.kept hS.kept)).as (congrArg Value.bool hf)))) ?_
      refine .det (B := []) rfl rfl (.inl rfl) .nil .nil rfl (RunB.lr (by first | exact run_pick_true (.tmp rfl) (.tmp rfl) | exact run_pick_false (.tmp rfl) .const)) ?_
      refine chain_nil (ts := [0, 1]) (.cons rfl (.cons rfl .nil)) (by decide) ?_
      refine xw_then ?_
      refine cw_cond_false (.tmp rfl) ?_
      have hokm : okM g K true N s = false := by simp [okM, hf]
      have hst := here_no hsi hokm
      refine cw_skip ?_
      refine xw_in ?_
      refine xw_then ?_
      refine cw_region ?_
      refine lstepB rfl rfl rfl (run_move (.tmp rfl)) ?_
      refine lstepB rfl rfl rfl (run_add (.tmp rfl) .const (by first | exact IntWalk.i64_in _ (by omega) | exact rfl)) ?_
      refine lstepB rfl rfl rfl (run_assign (.tmp rfl)) ?_
      refine lnil ?_
      exact xw_round (i + 1, none) ⟨by simp only; omega, hst.trans ho2⟩ (by show allM.length - (i + 1) < allM.length - i; omega) (by repeat (first | exact Less.nil | refine Less.cons rfl ?_)) (by repeat (first | exact Pick.nil | (apply Pick.cons; focus (repeat (first | exact Del.here | apply Del.there)))))
     ·
      refine cw_exit ?_
      refine xw_then_exit ?_
      refine xw_then_exit ?_
      refine xw_in_exit ?_
      refine xw_then ?_
      refine cw_seq ?_
      refine cw_chain2 (σ := [0, 1, 2, 3, 4, 5, 6, 7, 8, 9]) [⟨0, [], [], [], 0⟩, ⟨0, [], [], [], 1⟩, ⟨0, [1], [], [], 3⟩, ⟨0, [], [], [], 3⟩, ⟨0, [], [], [], 3⟩, ⟨0, [], [], [], 3⟩, ⟨0, [], [], [], 51⟩, ⟨0, [0], [], [], 115⟩, ⟨0, [], [], [], 255⟩, ⟨0, [], [], [], 511⟩] [(0, _), (1, _)] (by kernel_rfl) (by kernel_rfl) rfl ?_
      refine .det (B := []) rfl rfl (.inl rfl) .nil .nil rfl (RunB.lr (run_move (.tmp rfl))) ?_
      refine .det (B := []) rfl rfl (.inl rfl) .nil .nil rfl (RunB.lr (run_move (.tmp rfl))) ?_
      refine .det (B := []) rfl rfl (.inr ⟨_, _, _, rfl, rfl, rfl⟩) (.cons rfl .nil) .nil rfl (RunB.lr (run_loadN (.tmp rfl) kd24 sz24 (by repeat (first | exact List.Mem.head _ | apply List.Mem.tail)) (by repeat (first | exact Sub.done | apply Sub.take | apply Sub.skip)))) ?_
      refine .det (B := []) rfl rfl (.inr ⟨_, _, _, rfl, rfl, rfl⟩) .nil .nil rfl (RunB.lr (run_move (.tmp rfl))) ?_
      refine .det (B := []) rfl rfl (.inr ⟨_, _, _, rfl, rfl, rfl⟩) .nil .nil rfl (RunB.lr (run_move (.tmp rfl))) ?_
      refine .det (B := []) rfl rfl (.inr ⟨_, _, _, rfl, rfl, rfl⟩) .nil .nil rfl (RunB.lr (run_move (.tmp rfl))) ?_
      refine .det (B := []) rfl rfl (.inr ⟨_, _, _, rfl, rfl, rfl⟩) .nil .nil rfl (RunB.lr (run_indexAddr (i := i) (off' := i * 2) (.tmp rfl) (.tmp rfl) el89 (by omega) (Nat.zero_add _))) ?_
      refine .det (B := []) rfl rfl (.inr ⟨_, _, _, rfl, rfl, rfl⟩) (.cons rfl .nil) .nil rfl (RunB.lr (run_loadN_own (l := sC s) (.tmp rfl) kd92 sz92 (by repeat (first | exact List.Mem.head _ | apply List.Mem.tail)) rfl (fun j' v hj' => hL.get (ssC_at allM i s hsi j' v hj')))) ?_
      refine .det (B := []) rfl rfl (.inr ⟨_, _, _, rfl, rfl, rfl⟩) .nil .nil rfl (RunB.lr (run_call1 cb103 (.cons (.tmp rfl) (.cons (.tmp rfl) (.cons (.tmp rfl) .nil))) (fun w hS => (fitsZK g pa pc K s hso hgm w (hp.kept hS.kept)).as (congrArg Value.bool hf)))) ?_
      refine .det (B := []) rfl rfl (.inl rfl) .nil .nil rfl (RunB.lr (by first | exact run_pick_true (.tmp rfl) (.tmp rfl) | exact run_pick_false (.tmp rfl) .const)) ?_
      refine chain_nil (ts := [0, 1]) (.cons rfl (.cons rfl .nil)) (by decide) ?_
      refine xw_then ?_
      refine cw_cond_true (.tmp rfl) ?_
      have hokm : okM g K true N s = true := by simp [okM, hf]
      have hst := here_yes hsi hokm
      refine cw_region ?_
      refine lstepB rfl rfl rfl (run_move (.tmp rfl)) ?_
      refine lstepB rfl rfl rfl (run_move (.tmp rfl)) ?_
      refine lstepB rfl rfl rfl (run_move (.tmp rfl)) ?_
      refine lstepB rfl rfl rfl (run_indexAddr (i := i) (off' := i * 2) (.tmp rfl) (.tmp rfl) el89 (by omega) (Nat.zero_add _)) ?_
      refine lstepB rfl rfl rfl (run_loadN_own (l := sC s) (.tmp rfl) kd92 sz92 (by repeat (first | exact List.Mem.head _ | apply List.Mem.tail)) rfl (fun j' v hj' => hL.get (ssC_at allM i s hsi j' v hj'))) ?_
      refine lstep rfl rfl rfl (LR.runs (lr_buildSlice_at (.cons (.tmp rfl) .nil) (fun w => bs89_1_0 w)) (by repeat (first | exact Pick.nil | (apply Pick.cons; focus (repeat (first | exact Del.here | apply Del.there))))) (by repeat (first | exact Dels.nil | (apply Dels.cons; focus (repeat (first | exact Del.here | apply Del.there)))))) ?_
      intro b65 _
      refine lstep rfl rfl rfl (LR.runs (R := [(b65, _)]) (A := []) (lr_append_nil ap89 (.tmp rfl) (.tmp rfl) (news := sC s) rfl (by omega) (by omega) (by decide) (news_own (by repeat (first | exact List.Mem.head _ | apply List.Mem.tail)))) (by repeat (first | exact Pick.nil | (apply Pick.cons; focus (repeat (first | exact Del.here | apply Del.there))))) (by repeat (first | exact Dels.nil | (apply Dels.cons; focus (repeat (first | exact Del.here | apply Del.there)))))) ?_
      intro ⟨gT, cgT, rgT⟩ hgT
      have hle : 1 = (hereL g K true N (i + 1)).length := by rw [hst, ho2]; rfl
      have hT : InRow 2 (hereL g K true N (i + 1)).length cgT rgT (ssC (hereL g K true N (i + 1))) := by rw [← hle, hst, ho2]; exact hgT
      dsimp only
      rw [(show Value.slice (some ⟨gT, 0, none⟩) 1 cgT = Value.slice (some ⟨gT, 0, none⟩) (hereL g K true N (i + 1)).length cgT from congrArg (fun n => Value.slice (some ⟨gT, 0, none⟩) n cgT) hle)]
      refine lstepB rfl rfl rfl (run_assign (.tmp rfl)) ?_
      refine lnil ?_
      refine xw_in ?_
      refine xw_then ?_
      refine cw_region ?_
      refine lstepB rfl rfl rfl (run_move (.tmp rfl)) ?_
      refine lstepB rfl rfl rfl (run_add (.tmp rfl) .const (by first | exact IntWalk.i64_in _ (by omega) | exact rfl)) ?_
      refine lstepB rfl rfl rfl (run_assign (.tmp rfl)) ?_
      refine lnil ?_
      exact xw_round (i + 1, some (gT, cgT, rgT)) ⟨by simp only; omega, by simp only; omega, hT⟩ (by show allM.length - (i + 1) < allM.length - i; omega) (by repeat (first | exact Less.nil | refine Less.cons rfl ?_)) (by repeat (first | exact Pick.nil | (apply Pick.cons; focus (repeat (first | exact Del.here | apply Del.there)))))
    ·
     obtain rfl : i = allM.length := by omega
     rw [hall] at ho2
     by_cases hmM : m = M
     ·
      refine cw_exit ?_
      refine xw_then_exit ?_
      refine xw_then_exit ?_
      refine xw_in_exit ?_
      refine xw_then ?_
      refine cw_seq ?_
      refine cw_region ?_
      refine lstepB rfl rfl rfl (run_move (.tmp rfl)) ?_
      refine lstepB rfl rfl rfl (run_assign (.tmp rfl)) ?_
      refine lnil ?_
      refine xw_then ?_
      refine cw_seq ?_
      refine cw_region ?_
      refine lstepB rfl rfl rfl (run_move (.tmp rfl)) ?_
      refine lstepB rfl rfl rfl (run_move (.tmp rfl)) ?_
      refine lstepB rfl rfl rfl (run_eql (p := true) (.tmp rfl) (.tmp rfl) (decide_eq_true (hKM hmM))) ?_
      refine lnil ?_
      refine xw_then ?_
      refine cw_cond_true (.tmp rfl) ?_
      subst hmM
      refine cw_seq ?_
      refine cw_region ?_
      refine lstepB rfl rfl rfl (run_move (.tmp rfl)) ?_
      refine lstepB rfl rfl rfl (run_assign (.tmp rfl)) ?_
      refine lnil ?_
      refine xw_then ?_
      refine cw_ret ?_
      refine xw_in_ret ?_
      refine xw_then_ret ?_
      refine xw_then_ret ?_
      refine xw_in_ret ?_
      refine xw_ret1 Try.results85 rfl (fun w hS => ⟨none, ho2, rfl, hS.pick (by repeat (first | exact Pick.nil | (apply Pick.cons; focus (repeat (first | exact Del.here | apply Del.there)))))⟩)
     ·
      refine cw_exit ?_
      refine xw_then_exit ?_
      refine xw_then_exit ?_
      refine xw_in_exit ?_
      refine xw_then ?_
      refine cw_seq ?_
      refine cw_region ?_
      refine lstepB rfl rfl rfl (run_move (.tmp rfl)) ?_
      refine lstepB rfl rfl rfl (run_assign (.tmp rfl)) ?_
      refine lnil ?_
      refine xw_then ?_
      refine cw_seq ?_
      refine cw_region ?_
      refine lstepB rfl rfl rfl (run_move (.tmp rfl)) ?_
      refine lstepB rfl rfl rfl (run_move (.tmp rfl)) ?_
      refine lstepB rfl rfl rfl (run_eql (p := false) (.tmp rfl) (.tmp rfl) (decide_eq_false (hKN hmM))) ?_
      refine lnil ?_
      refine xw_then ?_
      refine cw_cond_false (.tmp rfl) ?_
      refine cw_skip ?_
      refine xw_in ?_
      refine xw_then ?_
      refine cw_region ?_
      refine lstepB rfl rfl rfl (run_move (.tmp rfl)) ?_
      refine lstepB rfl rfl rfl (run_move (.tmp rfl)) ?_
      refine lstepB rfl rfl rfl (run_add (c := fr + d * ((m + 1 : Nat) : Int)) (.tmp rfl) (.tmp rfl) (by rw [IntWalk.i64_in _ (by omega)]; exact hKn)) ?_
      refine lstepB rfl rfl rfl (run_assign (.tmp rfl)) ?_
      refine lnil ?_
      exact xw_round (m + 1, none) ⟨by simp only; omega, ho2⟩ (by show M + 1 - (m + 1) < M + 1 - m; omega) (by repeat (first | exact Less.nil | refine Less.cons rfl ?_)) (by repeat (first | exact Pick.nil | (apply Pick.cons; focus (repeat (first | exact Del.here | apply Del.there)))))
   case some q =>
    obtain ⟨gY, cY, rY⟩ := q
    dsimp only at ho2 ⊢
    obtain ⟨hn2, hY⟩ := ho2
    refine cw_seq ?_
    refine cw_seq ?_
    refine cw_region ?_
    refine lstepB rfl rfl rfl (run_move (.tmp rfl)) ?_
    refine lstepB rfl rfl rfl (run_move (.tmp rfl)) ?_
    refine lstepB rfl rfl rfl (run_len (.tmp rfl) sl89) ?_
    refine lstepB rfl rfl rfl (run_lss (.tmp rfl) (.tmp rfl) rfl) ?_
    refine lnil ?_
    refine xw_then ?_
    refine cw_cond_p (.tmp rfl) (fun hl => ?_) (fun hl => ?_)
    ·
     obtain ⟨s, hsi⟩ : ∃ s, allM[i]? = some s := ⟨_, List.getElem?_eq_getElem (by omega)⟩
     have hso : okS s := mem_all.1 (List.mem_of_getElem? hsi)
     have hhl := here_len g K true N i
     refine cw_skip ?_
     refine xw_then ?_
     refine cw_seq ?_
     refine cw_block ?_
     refine cw_seq ?_
     refine cw_region ?_
     refine lstepB rfl rfl rfl (run_move (.tmp rfl)) ?_
     refine lstepB rfl rfl rfl (run_move (.tmp rfl)) ?_
     refine lstepB rfl rfl rfl (run_eql (p := true) (.tmp rfl) (.tmp rfl) (decide_eq_true hKf)) ?_
     refine lstepB rfl rfl rfl (run_assign (.tmp rfl)) ?_
     refine lnil ?_
     refine xw_then ?_
     refine cw_seq ?_
     refine cw_seq ?_
     refine cw_region ?_
     refine lstepB rfl rfl rfl (run_assign .const) ?_
     refine lnil ?_
     refine xw_then ?_
     refine cw_block ?_
     refine cw_loop (S := Nat) (fun j => [(15, .int .i64 ((j : Nat) : Int))]) [(1, _), (2, _), (3, _), (4, _), (9, _), (10, _), (11, _), (12, _), (13, _), (14, _)] (fun j => ((gY, Obj.cells rY.toArray 92 (0, 0)) :: [(gL, Obj.cells rL.toArray 92 (0, 0)), (b4, Obj.cells [.int .i64 g.long, .int .i64 g.rise, .int .i64 g.change, .slice pa g.pits.length pc].toArray 24 (0, 0))])) (fun j => j = 0) (fun j => 0 - j) 0 rfl (by repeat (first | exact Less.nil | refine Less.cons rfl ?_)) (by repeat (first | exact Pick.nil | (apply Pick.cons; focus (repeat (first | exact Del.here | apply Del.there))))) ?_
     intro j hj
     subst hj
     refine cw_seq ?_
     refine cw_seq ?_
     refine cw_region ?_
     refine lstepB rfl rfl rfl (run_move (.tmp rfl)) ?_
     refine lstepB rfl rfl rfl (run_move (.tmp rfl)) ?_
     refine lstepB rfl rfl rfl (run_len (.tmp rfl) sl89) ?_
     refine lstepB rfl rfl rfl (run_lss (p := false) (.tmp rfl) (.tmp rfl) (decide_eq_false (by omega))) ?_
     refine lstepB rfl rfl rfl (run_move (.tmp rfl)) ?_
     refine lskip rfl rfl rfl rfl rfl rfl rfl ?_
     refine lskip rfl rfl rfl rfl rfl rfl rfl ?_
     refine lstepB rfl rfl rfl (by first | exact run_pick_true (.tmp rfl) (.tmp rfl) | exact run_pick_false (.tmp rfl) .const) ?_
     refine lnil ?_
     refine xw_then ?_
     refine cw_cond_false (.tmp rfl) ?_
     cases hf : fitsB g K s
     ·
      refine cw_exit ?_
      refine xw_then_exit ?_
      refine xw_then_exit ?_
      refine xw_in_exit ?_
      refine xw_then ?_
      refine cw_seq ?_
      refine cw_chain2 (σ := [0, 1, 2, 3, 4, 5, 6, 7, 8, 9]) [⟨0, [], [], [], 0⟩, ⟨0, [], [], [], 1⟩, ⟨0, [2], [], [], 3⟩, ⟨0, [], [], [], 3⟩, ⟨0, [], [], [], 3⟩, ⟨0, [], [], [], 3⟩, ⟨0, [], [], [], 51⟩, ⟨0, [1], [], [], 115⟩, ⟨0, [], [], [], 255⟩, ⟨0, [], [], [], 511⟩] [(0, _), (1, _), (2, _)] (by kernel_rfl) (by kernel_rfl) rfl ?_
      refine .det (B := []) rfl rfl (.inl rfl) .nil .nil rfl (RunB.lr (run_move (.tmp rfl))) ?_
      refine .det (B := []) rfl rfl (.inl rfl) .nil .nil rfl (RunB.lr (run_move (.tmp rfl))) ?_
      refine .det (B := []) rfl rfl (.inr ⟨_, _, _, rfl, rfl, rfl⟩) (.cons rfl .nil) .nil rfl (RunB.lr (run_loadN (.tmp rfl) kd24 sz24 (by repeat (first | exact List.Mem.head _ | apply List.Mem.tail)) (by repeat (first | exact Sub.done | apply Sub.take | apply Sub.skip)))) ?_
      refine .det (B := []) rfl rfl (.inr ⟨_, _, _, rfl, rfl, rfl⟩) .nil .nil rfl (RunB.lr (run_move (.tmp rfl))) ?_
      refine .det (B := []) rfl rfl (.inr ⟨_, _, _, rfl, rfl, rfl⟩) .nil .nil rfl (RunB.lr (run_move (.tmp rfl))) ?_
      refine .det (B := []) rfl rfl (.inr ⟨_, _, _, rfl, rfl, rfl⟩) .nil .nil rfl (RunB.lr (run_move (.tmp rfl))) ?_
      refine .det (B := []) rfl rfl (.inr ⟨_, _, _, rfl, rfl, rfl⟩) .nil .nil rfl (RunB.lr (run_indexAddr (i := i) (off' := i * 2) (.tmp rfl) (.tmp rfl) el89 (by omega) (Nat.zero_add _))) ?_
      refine .det (B := []) rfl rfl (.inr ⟨_, _, _, rfl, rfl, rfl⟩) (.cons rfl .nil) .nil rfl (RunB.lr (run_loadN_own (l := sC s) (.tmp rfl) kd92 sz92 (by repeat (first | exact List.Mem.head _ | apply List.Mem.tail)) rfl (fun j' v hj' => hL.get (ssC_at allM i s hsi j' v hj')))) ?_
      refine .det (B := []) rfl rfl (.inr ⟨_, _, _, rfl, rfl, rfl⟩) .nil .nil rfl (RunB.lr (run_call1 cb103 (.cons (.tmp rfl) (.cons (.tmp rfl) (.cons (.tmp rfl) .nil))) (fun w hS => (fitsZK g pa pc K s hso hgm w (hp.kept hS.kept)).as (congrArg Value.bool hf)))) ?_
      refine .det (B := []) rfl rfl (.inl rfl) .nil .nil rfl (RunB.lr (by first | exact run_pick_true (.tmp rfl) (.tmp rfl) | exact run_pick_false (.tmp rfl) .const)) ?_
      refine chain_nil (ts := [0, 1, 2]) (.cons rfl (.cons rfl (.cons rfl .nil))) (by decide) ?_
      refine xw_then ?_
      refine cw_cond_false (.tmp rfl) ?_
      have hokm : okM g K true N s = false := by simp [okM, hf]
      have hst := here_no hsi hokm
      rw [← hst] at hn2 hY ⊢
      refine cw_skip ?_
      refine xw_in ?_
      refine xw_then ?_
      refine cw_region ?_
      refine lstepB rfl rfl rfl (run_move (.tmp rfl)) ?_
      refine lstepB rfl rfl rfl (run_add (.tmp rfl) .const (by first | exact IntWalk.i64_in _ (by omega) | exact rfl)) ?_
      refine lstepB rfl rfl rfl (run_assign (.tmp rfl)) ?_
      refine lnil ?_
      exact xw_round (i + 1, some (gY, cY, rY)) ⟨by simp only; omega, hn2, hY⟩ (by show allM.length - (i + 1) < allM.length - i; omega) (by repeat (first | exact Less.nil | refine Less.cons rfl ?_)) (by repeat (first | exact Pick.nil | (apply Pick.cons; focus (repeat (first | exact Del.here | apply Del.there)))))
     ·
      refine cw_exit ?_
      refine xw_then_exit ?_
      refine xw_then_exit ?_
      refine xw_in_exit ?_
      refine xw_then ?_
      refine cw_seq ?_
      refine cw_chain2 (σ := [0, 1, 2, 3, 4, 5, 6, 7, 8, 9]) [⟨0, [], [], [], 0⟩, ⟨0, [], [], [], 1⟩, ⟨0, [2], [], [], 3⟩, ⟨0, [], [], [], 3⟩, ⟨0, [], [], [], 3⟩, ⟨0, [], [], [], 3⟩, ⟨0, [], [], [], 51⟩, ⟨0, [1], [], [], 115⟩, ⟨0, [], [], [], 255⟩, ⟨0, [], [], [], 511⟩] [(0, _), (1, _), (2, _)] (by kernel_rfl) (by kernel_rfl) rfl ?_
      refine .det (B := []) rfl rfl (.inl rfl) .nil .nil rfl (RunB.lr (run_move (.tmp rfl))) ?_
      refine .det (B := []) rfl rfl (.inl rfl) .nil .nil rfl (RunB.lr (run_move (.tmp rfl))) ?_
      refine .det (B := []) rfl rfl (.inr ⟨_, _, _, rfl, rfl, rfl⟩) (.cons rfl .nil) .nil rfl (RunB.lr (run_loadN (.tmp rfl) kd24 sz24 (by repeat (first | exact List.Mem.head _ | apply List.Mem.tail)) (by repeat (first | exact Sub.done | apply Sub.take | apply Sub.skip)))) ?_
      refine .det (B := []) rfl rfl (.inr ⟨_, _, _, rfl, rfl, rfl⟩) .nil .nil rfl (RunB.lr (run_move (.tmp rfl))) ?_
      refine .det (B := []) rfl rfl (.inr ⟨_, _, _, rfl, rfl, rfl⟩) .nil .nil rfl (RunB.lr (run_move (.tmp rfl))) ?_
      refine .det (B := []) rfl rfl (.inr ⟨_, _, _, rfl, rfl, rfl⟩) .nil .nil rfl (RunB.lr (run_move (.tmp rfl))) ?_
      refine .det (B := []) rfl rfl (.inr ⟨_, _, _, rfl, rfl, rfl⟩) .nil .nil rfl (RunB.lr (run_indexAddr (i := i) (off' := i * 2) (.tmp rfl) (.tmp rfl) el89 (by omega) (Nat.zero_add _))) ?_
      refine .det (B := []) rfl rfl (.inr ⟨_, _, _, rfl, rfl, rfl⟩) (.cons rfl .nil) .nil rfl (RunB.lr (run_loadN_own (l := sC s) (.tmp rfl) kd92 sz92 (by repeat (first | exact List.Mem.head _ | apply List.Mem.tail)) rfl (fun j' v hj' => hL.get (ssC_at allM i s hsi j' v hj')))) ?_
      refine .det (B := []) rfl rfl (.inr ⟨_, _, _, rfl, rfl, rfl⟩) .nil .nil rfl (RunB.lr (run_call1 cb103 (.cons (.tmp rfl) (.cons (.tmp rfl) (.cons (.tmp rfl) .nil))) (fun w hS => (fitsZK g pa pc K s hso hgm w (hp.kept hS.kept)).as (congrArg Value.bool hf)))) ?_
      refine .det (B := []) rfl rfl (.inl rfl) .nil .nil rfl (RunB.lr (by first | exact run_pick_true (.tmp rfl) (.tmp rfl) | exact run_pick_false (.tmp rfl) .const)) ?_
      refine chain_nil (ts := [0, 1, 2]) (.cons rfl (.cons rfl (.cons rfl .nil))) (by decide) ?_
      refine xw_then ?_
      refine cw_cond_true (.tmp rfl) ?_
      have hokm : okM g K true N s = true := by simp [okM, hf]
      have hst := here_yes hsi hokm
      refine cw_region ?_
      refine lstepB rfl rfl rfl (run_move (.tmp rfl)) ?_
      refine lstepB rfl rfl rfl (run_move (.tmp rfl)) ?_
      refine lstepB rfl rfl rfl (run_move (.tmp rfl)) ?_
      refine lstepB rfl rfl rfl (run_indexAddr (i := i) (off' := i * 2) (.tmp rfl) (.tmp rfl) el89 (by omega) (Nat.zero_add _)) ?_
      refine lstepB rfl rfl rfl (run_loadN_own (l := sC s) (.tmp rfl) kd92 sz92 (by repeat (first | exact List.Mem.head _ | apply List.Mem.tail)) rfl (fun j' v hj' => hL.get (ssC_at allM i s hsi j' v hj'))) ?_
      refine lstep rfl rfl rfl (LR.runs (lr_buildSlice_at (.cons (.tmp rfl) .nil) (fun w => bs89_1_0 w)) (by repeat (first | exact Pick.nil | (apply Pick.cons; focus (repeat (first | exact Del.here | apply Del.there))))) (by repeat (first | exact Dels.nil | (apply Dels.cons; focus (repeat (first | exact Del.here | apply Del.there)))))) ?_
      intro b65 _
      refine lstep rfl rfl rfl (LR.runs (R := [(b65, _)]) (A := [(gY, _)]) (lr_append_row ap89 (.tmp rfl) hY (.tmp rfl) (news := sC s) rfl rfl (by omega) (by unfold maxLen; omega) (news_own (by repeat (first | exact List.Mem.head _ | apply List.Mem.tail)))) (by repeat (first | exact Pick.nil | (apply Pick.cons; focus (repeat (first | exact Del.here | apply Del.there))))) (by repeat (first | exact Dels.nil | (apply Dels.cons; focus (repeat (first | exact Del.here | apply Del.there)))))) ?_
      intro ⟨gT, cgT, rgT⟩ hgT
      have hle : (hereL g K true N i).length + 1 = (hereL g K true N (i + 1)).length := by rw [hst, List.length_append]; rfl
      have hT : InRow 2 (hereL g K true N (i + 1)).length cgT rgT (ssC (hereL g K true N (i + 1))) := by rw [← hle, hst, ssC_append]; exact hgT
      dsimp only
      rw [(show Value.slice (some ⟨gT, 0, none⟩) ((hereL g K true N i).length + 1) cgT = Value.slice (some ⟨gT, 0, none⟩) (hereL g K true N (i + 1)).length cgT from congrArg (fun n => Value.slice (some ⟨gT, 0, none⟩) n cgT) hle)]
      refine lstepB rfl rfl rfl (run_assign (.tmp rfl)) ?_
      refine lnil ?_
      refine xw_in ?_
      refine xw_then ?_
      refine cw_region ?_
      refine lstepB rfl rfl rfl (run_move (.tmp rfl)) ?_
      refine lstepB rfl rfl rfl (run_add (.tmp rfl) .const (by first | exact IntWalk.i64_in _ (by omega) | exact rfl)) ?_
      refine lstepB rfl rfl rfl (run_assign (.tmp rfl)) ?_
      refine lnil ?_
      exact xw_round (i + 1, some (gT, cgT, rgT)) ⟨by simp only; omega, by simp only; omega, hT⟩ (by show allM.length - (i + 1) < allM.length - i; omega) (by repeat (first | exact Less.nil | refine Less.cons rfl ?_)) (by repeat (first | exact Pick.nil | (apply Pick.cons; focus (repeat (first | exact Del.here | apply Del.there)))))
    ·
     obtain rfl : i = allM.length := by omega
     rw [hall] at hn2 hY ⊢
     by_cases hmM : m = M
     ·
      refine cw_exit ?_
      refine xw_then_exit ?_
      refine xw_then_exit ?_
      refine xw_in_exit ?_
      refine xw_then ?_
      refine cw_seq ?_
      refine cw_region ?_
      refine lstepB rfl rfl rfl (run_move (.tmp rfl)) ?_
      refine lstepB rfl rfl rfl (run_assign (.tmp rfl)) ?_
      refine lnil ?_
      refine xw_then ?_
      refine cw_seq ?_
      refine cw_region ?_
      refine lstepB rfl rfl rfl (run_move (.tmp rfl)) ?_
      refine lstepB rfl rfl rfl (run_move (.tmp rfl)) ?_
      refine lstepB rfl rfl rfl (run_eql (p := true) (.tmp rfl) (.tmp rfl) (decide_eq_true (hKM hmM))) ?_
      refine lnil ?_
      refine xw_then ?_
      refine cw_cond_true (.tmp rfl) ?_
      subst hmM
      refine cw_seq ?_
      refine cw_region ?_
      refine lstepB rfl rfl rfl (run_move (.tmp rfl)) ?_
      refine lstepB rfl rfl rfl (run_assign (.tmp rfl)) ?_
      refine lnil ?_
      refine xw_then ?_
      refine cw_ret ?_
      refine xw_in_ret ?_
      refine xw_then_ret ?_
      refine xw_then_ret ?_
      refine xw_in_ret ?_
      refine xw_ret1 Try.results85 rfl (fun w hS => ⟨(some (gY, cY, rY)), ⟨hn2, hY⟩, rfl, hS.pick (by repeat (first | exact Pick.nil | (apply Pick.cons; focus (repeat (first | exact Del.here | apply Del.there)))))⟩)
     ·
      refine cw_exit ?_
      refine xw_then_exit ?_
      refine xw_then_exit ?_
      refine xw_in_exit ?_
      refine xw_then ?_
      refine cw_seq ?_
      refine cw_region ?_
      refine lstepB rfl rfl rfl (run_move (.tmp rfl)) ?_
      refine lstepB rfl rfl rfl (run_assign (.tmp rfl)) ?_
      refine lnil ?_
      refine xw_then ?_
      refine cw_seq ?_
      refine cw_region ?_
      refine lstepB rfl rfl rfl (run_move (.tmp rfl)) ?_
      refine lstepB rfl rfl rfl (run_move (.tmp rfl)) ?_
      refine lstepB rfl rfl rfl (run_eql (p := false) (.tmp rfl) (.tmp rfl) (decide_eq_false (hKN hmM))) ?_
      refine lnil ?_
      refine xw_then ?_
      refine cw_cond_false (.tmp rfl) ?_
      refine cw_skip ?_
      refine xw_in ?_
      refine xw_then ?_
      refine cw_region ?_
      refine lstepB rfl rfl rfl (run_move (.tmp rfl)) ?_
      refine lstepB rfl rfl rfl (run_move (.tmp rfl)) ?_
      refine lstepB rfl rfl rfl (run_add (c := fr + d * ((m + 1 : Nat) : Int)) (.tmp rfl) (.tmp rfl) (by rw [IntWalk.i64_in _ (by omega)]; exact hKn)) ?_
      refine lstepB rfl rfl rfl (run_assign (.tmp rfl)) ?_
      refine lnil ?_
      exact xw_round (m + 1, some (gY, cY, rY)) ⟨by simp only; omega, ⟨by simp only; omega, hn2, hY⟩⟩ (by show M + 1 - (m + 1) < M + 1 - m; omega) (by repeat (first | exact Less.nil | refine Less.cons rfl ?_)) (by repeat (first | exact Pick.nil | (apply Pick.cons; focus (repeat (first | exact Del.here | apply Del.there)))))
  ·
   have hm0d : decide (m = 0) = false := decide_eq_false hm0
   have hKf := hK1 hm0
   rw [hm0d] at hall
   refine cw_seq ?_
   refine cw_block ?_
   refine cw_seq ?_
   refine cw_region ?_
   refine lstepB rfl rfl rfl (run_assign .const) ?_
   refine lnil ?_
   refine xw_then ?_
   refine cw_seq ?_
   refine cw_seq ?_
   refine cw_region ?_
   refine lstepB rfl rfl rfl (run_assign .const) ?_
   refine lnil ?_
   refine xw_then ?_
   refine cw_block ?_
   refine cw_loop (S := Nat × Option (Nat × Nat × List Value)) (fun s => [(13, .int .i64 ((s.1 : Nat) : Int)), (12, match s.2 with | none => .slice none 0 0 | some q => .slice (some ⟨q.1, 0, none⟩) (hereL g K false N s.1).length q.2.1)]) [(1, _), (2, _), (3, _), (4, _), (9, _), (10, _), (11, _)] (fun s => (match s.2 with | none => [] | some q => [(q.1, Obj.cells q.2.2.toArray 92 (0, 0))]) ++ [(gL, Obj.cells rL.toArray 92 (0, 0)), (b4, Obj.cells [.int .i64 g.long, .int .i64 g.rise, .int .i64 g.change, .slice pa g.pits.length pc].toArray 24 (0, 0))]) (fun s => s.1 ≤ allM.length ∧ (match s.2 with | none => (hereL g K false N s.1) = [] | some q => 1 ≤ ((hereL g K false N s.1)).length ∧ InRow 2 ((hereL g K false N s.1)).length q.2.1 q.2.2 (ssC ((hereL g K false N s.1))))) (fun s => allM.length - s.1) (0, none) ⟨Nat.zero_le _, rfl⟩ (by repeat (first | exact Less.nil | refine Less.cons rfl ?_)) (by repeat (first | exact Pick.nil | (apply Pick.cons; focus (repeat (first | exact Del.here | apply Del.there))))) ?_
   intro s hs
   obtain ⟨i, o⟩ := s
   obtain ⟨hi, ho2⟩ := hs
   dsimp only at hi ho2 ⊢
   cases o
   case none =>
    dsimp only at ho2 ⊢
    refine cw_seq ?_
    refine cw_seq ?_
    refine cw_region ?_
    refine lstepB rfl rfl rfl (run_move (.tmp rfl)) ?_
    refine lstepB rfl rfl rfl (run_move (.tmp rfl)) ?_
    refine lstepB rfl rfl rfl (run_len (.tmp rfl) sl89) ?_
    refine lstepB rfl rfl rfl (run_lss (.tmp rfl) (.tmp rfl) rfl) ?_
    refine lnil ?_
    refine xw_then ?_
    refine cw_cond_p (.tmp rfl) (fun hl => ?_) (fun hl => ?_)
    ·
     obtain ⟨s, hsi⟩ : ∃ s, allM[i]? = some s := ⟨_, List.getElem?_eq_getElem (by omega)⟩
     have hso : okS s := mem_all.1 (List.mem_of_getElem? hsi)
     have hhl := here_len g K false N i
     refine cw_skip ?_
     refine xw_then ?_
     refine cw_seq ?_
     refine cw_block ?_
     refine cw_seq ?_
     refine cw_region ?_
     refine lstepB rfl rfl rfl (run_move (.tmp rfl)) ?_
     refine lstepB rfl rfl rfl (run_move (.tmp rfl)) ?_
     refine lstepB rfl rfl rfl (run_eql (p := false) (.tmp rfl) (.tmp rfl) (decide_eq_false hKf)) ?_
     refine lstepB rfl rfl rfl (run_assign (.tmp rfl)) ?_
     refine lnil ?_
     refine xw_then ?_
     refine cw_seq ?_
     refine cw_seq ?_
     refine cw_region ?_
     refine lstepB rfl rfl rfl (run_assign .const) ?_
     refine lnil ?_
     refine xw_then ?_
     refine cw_block ?_
     refine cw_loop (S := Nat) (fun j => [(15, .int .i64 ((j : Nat) : Int))]) [(1, _), (2, _), (3, _), (4, _), (9, _), (10, _), (11, _), (12, _), (13, _), (14, _)] (fun j => [(gL, Obj.cells rL.toArray 92 (0, 0)), (b4, Obj.cells [.int .i64 g.long, .int .i64 g.rise, .int .i64 g.change, .slice pa g.pits.length pc].toArray 24 (0, 0))]) (fun j => j = 0) (fun j => 0 - j) 0 rfl (by repeat (first | exact Less.nil | refine Less.cons rfl ?_)) (by repeat (first | exact Pick.nil | (apply Pick.cons; focus (repeat (first | exact Del.here | apply Del.there))))) ?_
     intro j hj
     subst hj
     refine cw_seq ?_
     refine cw_seq ?_
     refine cw_region ?_
     refine lstepB rfl rfl rfl (run_move (.tmp rfl)) ?_
     refine lstepB rfl rfl rfl (run_move (.tmp rfl)) ?_
     refine lstepB rfl rfl rfl (run_len (.tmp rfl) sl89) ?_
     refine lstepB rfl rfl rfl (run_lss (p := false) (.tmp rfl) (.tmp rfl) (decide_eq_false (by omega))) ?_
     refine lstepB rfl rfl rfl (run_move (.tmp rfl)) ?_
     refine lskip rfl rfl rfl rfl rfl rfl rfl ?_
     refine lskip rfl rfl rfl rfl rfl rfl rfl ?_
     refine lstepB rfl rfl rfl (by first | exact run_pick_true (.tmp rfl) (.tmp rfl) | exact run_pick_false (.tmp rfl) .const) ?_
     refine lnil ?_
     refine xw_then ?_
     refine cw_cond_false (.tmp rfl) ?_
     skip
     refine cw_exit ?_
     refine xw_then_exit ?_
     refine xw_then_exit ?_
     refine xw_in_exit ?_
     refine xw_then ?_
     refine cw_seq ?_
     refine cw_chain2 (σ := [0, 1, 2, 3, 4, 5, 6, 7, 8, 9]) [⟨0, [], [], [], 0⟩, ⟨0, [], [], [], 1⟩, ⟨0, [1], [], [], 3⟩, ⟨0, [], [], [], 3⟩, ⟨0, [], [], [], 3⟩, ⟨0, [], [], [], 3⟩, ⟨0, [], [], [], 51⟩, ⟨0, [0], [], [], 115⟩, ⟨0, [], [], [], 255⟩, ⟨0, [], [], [], 511⟩] [(0, _), (1, _)] (by kernel_rfl) (by kernel_rfl) rfl ?_
     refine .det (B := []) rfl rfl (.inl rfl) .nil .nil rfl (RunB.lr (run_move (.tmp rfl))) ?_
     refine .det (B := []) rfl rfl (.inl rfl) .nil .nil rfl (RunB.lr (run_move (.tmp rfl))) ?_
     refine .skip rfl rfl ⟨_, _, _, _, rfl, rfl, rfl, rfl⟩ rfl (by first | rfl | kernel_rfl) ?_
     refine .skip rfl rfl ⟨_, _, _, _, rfl, rfl, rfl, rfl⟩ rfl (by first | rfl | kernel_rfl) ?_
     refine .skip rfl rfl ⟨_, _, _, _, rfl, rfl, rfl, rfl⟩ rfl (by first | rfl | kernel_rfl) ?_
     refine .skip rfl rfl ⟨_, _, _, _, rfl, rfl, rfl, rfl⟩ rfl (by first | rfl | kernel_rfl) ?_
     refine .skip rfl rfl ⟨_, _, _, _, rfl, rfl, rfl, rfl⟩ rfl (by first | rfl | kernel_rfl) ?_
     refine .skip rfl rfl ⟨_, _, _, _, rfl, rfl, rfl, rfl⟩ rfl (by first | rfl | kernel_rfl) ?_
     refine .skip rfl rfl ⟨_, _, _, _, rfl, rfl, rfl, rfl⟩ rfl (by first | rfl | kernel_rfl) ?_
     refine .det (B := []) rfl rfl (.inl rfl) .nil .nil rfl (RunB.lr (by first | exact run_pick_true (.tmp rfl) (.tmp rfl) | exact run_pick_false (.tmp rfl) .const)) ?_
     refine chain_nil (ts := [0, 1]) (.cons rfl (.cons rfl .nil)) (by decide) ?_
     refine xw_then ?_
     refine cw_cond_false (.tmp rfl) ?_
     have hokm : okM g K false N s = false := by simp [okM, hNe]
     have hst := here_no hsi hokm
     refine cw_skip ?_
     refine xw_in ?_
     refine xw_then ?_
     refine cw_region ?_
     refine lstepB rfl rfl rfl (run_move (.tmp rfl)) ?_
     refine lstepB rfl rfl rfl (run_add (.tmp rfl) .const (by first | exact IntWalk.i64_in _ (by omega) | exact rfl)) ?_
     refine lstepB rfl rfl rfl (run_assign (.tmp rfl)) ?_
     refine lnil ?_
     exact xw_round (i + 1, none) ⟨by simp only; omega, hst.trans ho2⟩ (by show allM.length - (i + 1) < allM.length - i; omega) (by repeat (first | exact Less.nil | refine Less.cons rfl ?_)) (by repeat (first | exact Pick.nil | (apply Pick.cons; focus (repeat (first | exact Del.here | apply Del.there)))))
    ·
     obtain rfl : i = allM.length := by omega
     rw [hall] at ho2
     by_cases hmM : m = M
     ·
      refine cw_exit ?_
      refine xw_then_exit ?_
      refine xw_then_exit ?_
      refine xw_in_exit ?_
      refine xw_then ?_
      refine cw_seq ?_
      refine cw_region ?_
      refine lstepB rfl rfl rfl (run_move (.tmp rfl)) ?_
      refine lstepB rfl rfl rfl (run_assign (.tmp rfl)) ?_
      refine lnil ?_
      refine xw_then ?_
      refine cw_seq ?_
      refine cw_region ?_
      refine lstepB rfl rfl rfl (run_move (.tmp rfl)) ?_
      refine lstepB rfl rfl rfl (run_move (.tmp rfl)) ?_
      refine lstepB rfl rfl rfl (run_eql (p := true) (.tmp rfl) (.tmp rfl) (decide_eq_true (hKM hmM))) ?_
      refine lnil ?_
      refine xw_then ?_
      refine cw_cond_true (.tmp rfl) ?_
      subst hmM
      refine cw_seq ?_
      refine cw_region ?_
      refine lstepB rfl rfl rfl (run_move (.tmp rfl)) ?_
      refine lstepB rfl rfl rfl (run_assign (.tmp rfl)) ?_
      refine lnil ?_
      refine xw_then ?_
      refine cw_ret ?_
      refine xw_in_ret ?_
      refine xw_then_ret ?_
      refine xw_then_ret ?_
      refine xw_in_ret ?_
      refine xw_ret1 Try.results85 rfl (fun w hS => ⟨none, ho2, rfl, hS.pick (by repeat (first | exact Pick.nil | (apply Pick.cons; focus (repeat (first | exact Del.here | apply Del.there)))))⟩)
     ·
      refine cw_exit ?_
      refine xw_then_exit ?_
      refine xw_then_exit ?_
      refine xw_in_exit ?_
      refine xw_then ?_
      refine cw_seq ?_
      refine cw_region ?_
      refine lstepB rfl rfl rfl (run_move (.tmp rfl)) ?_
      refine lstepB rfl rfl rfl (run_assign (.tmp rfl)) ?_
      refine lnil ?_
      refine xw_then ?_
      refine cw_seq ?_
      refine cw_region ?_
      refine lstepB rfl rfl rfl (run_move (.tmp rfl)) ?_
      refine lstepB rfl rfl rfl (run_move (.tmp rfl)) ?_
      refine lstepB rfl rfl rfl (run_eql (p := false) (.tmp rfl) (.tmp rfl) (decide_eq_false (hKN hmM))) ?_
      refine lnil ?_
      refine xw_then ?_
      refine cw_cond_false (.tmp rfl) ?_
      refine cw_skip ?_
      refine xw_in ?_
      refine xw_then ?_
      refine cw_region ?_
      refine lstepB rfl rfl rfl (run_move (.tmp rfl)) ?_
      refine lstepB rfl rfl rfl (run_move (.tmp rfl)) ?_
      refine lstepB rfl rfl rfl (run_add (c := fr + d * ((m + 1 : Nat) : Int)) (.tmp rfl) (.tmp rfl) (by rw [IntWalk.i64_in _ (by omega)]; exact hKn)) ?_
      refine lstepB rfl rfl rfl (run_assign (.tmp rfl)) ?_
      refine lnil ?_
      exact xw_round (m + 1, none) ⟨by simp only; omega, ho2⟩ (by show M + 1 - (m + 1) < M + 1 - m; omega) (by repeat (first | exact Less.nil | refine Less.cons rfl ?_)) (by repeat (first | exact Pick.nil | (apply Pick.cons; focus (repeat (first | exact Del.here | apply Del.there)))))
   case some q =>
    obtain ⟨gY, cY, rY⟩ := q
    dsimp only at ho2 ⊢
    obtain ⟨hn2, hY⟩ := ho2
    refine cw_seq ?_
    refine cw_seq ?_
    refine cw_region ?_
    refine lstepB rfl rfl rfl (run_move (.tmp rfl)) ?_
    refine lstepB rfl rfl rfl (run_move (.tmp rfl)) ?_
    refine lstepB rfl rfl rfl (run_len (.tmp rfl) sl89) ?_
    refine lstepB rfl rfl rfl (run_lss (.tmp rfl) (.tmp rfl) rfl) ?_
    refine lnil ?_
    refine xw_then ?_
    refine cw_cond_p (.tmp rfl) (fun hl => ?_) (fun hl => ?_)
    ·
     obtain ⟨s, hsi⟩ : ∃ s, allM[i]? = some s := ⟨_, List.getElem?_eq_getElem (by omega)⟩
     have hso : okS s := mem_all.1 (List.mem_of_getElem? hsi)
     have hhl := here_len g K false N i
     refine cw_skip ?_
     refine xw_then ?_
     refine cw_seq ?_
     refine cw_block ?_
     refine cw_seq ?_
     refine cw_region ?_
     refine lstepB rfl rfl rfl (run_move (.tmp rfl)) ?_
     refine lstepB rfl rfl rfl (run_move (.tmp rfl)) ?_
     refine lstepB rfl rfl rfl (run_eql (p := false) (.tmp rfl) (.tmp rfl) (decide_eq_false hKf)) ?_
     refine lstepB rfl rfl rfl (run_assign (.tmp rfl)) ?_
     refine lnil ?_
     refine xw_then ?_
     refine cw_seq ?_
     refine cw_seq ?_
     refine cw_region ?_
     refine lstepB rfl rfl rfl (run_assign .const) ?_
     refine lnil ?_
     refine xw_then ?_
     refine cw_block ?_
     refine cw_loop (S := Nat) (fun j => [(15, .int .i64 ((j : Nat) : Int))]) [(1, _), (2, _), (3, _), (4, _), (9, _), (10, _), (11, _), (12, _), (13, _), (14, _)] (fun j => ((gY, Obj.cells rY.toArray 92 (0, 0)) :: [(gL, Obj.cells rL.toArray 92 (0, 0)), (b4, Obj.cells [.int .i64 g.long, .int .i64 g.rise, .int .i64 g.change, .slice pa g.pits.length pc].toArray 24 (0, 0))])) (fun j => j = 0) (fun j => 0 - j) 0 rfl (by repeat (first | exact Less.nil | refine Less.cons rfl ?_)) (by repeat (first | exact Pick.nil | (apply Pick.cons; focus (repeat (first | exact Del.here | apply Del.there))))) ?_
     intro j hj
     subst hj
     refine cw_seq ?_
     refine cw_seq ?_
     refine cw_region ?_
     refine lstepB rfl rfl rfl (run_move (.tmp rfl)) ?_
     refine lstepB rfl rfl rfl (run_move (.tmp rfl)) ?_
     refine lstepB rfl rfl rfl (run_len (.tmp rfl) sl89) ?_
     refine lstepB rfl rfl rfl (run_lss (p := false) (.tmp rfl) (.tmp rfl) (decide_eq_false (by omega))) ?_
     refine lstepB rfl rfl rfl (run_move (.tmp rfl)) ?_
     refine lskip rfl rfl rfl rfl rfl rfl rfl ?_
     refine lskip rfl rfl rfl rfl rfl rfl rfl ?_
     refine lstepB rfl rfl rfl (by first | exact run_pick_true (.tmp rfl) (.tmp rfl) | exact run_pick_false (.tmp rfl) .const) ?_
     refine lnil ?_
     refine xw_then ?_
     refine cw_cond_false (.tmp rfl) ?_
     skip
     refine cw_exit ?_
     refine xw_then_exit ?_
     refine xw_then_exit ?_
     refine xw_in_exit ?_
     refine xw_then ?_
     refine cw_seq ?_
     refine cw_chain2 (σ := [0, 1, 2, 3, 4, 5, 6, 7, 8, 9]) [⟨0, [], [], [], 0⟩, ⟨0, [], [], [], 1⟩, ⟨0, [2], [], [], 3⟩, ⟨0, [], [], [], 3⟩, ⟨0, [], [], [], 3⟩, ⟨0, [], [], [], 3⟩, ⟨0, [], [], [], 51⟩, ⟨0, [1], [], [], 115⟩, ⟨0, [], [], [], 255⟩, ⟨0, [], [], [], 511⟩] [(0, _), (1, _), (2, _)] (by kernel_rfl) (by kernel_rfl) rfl ?_
     refine .det (B := []) rfl rfl (.inl rfl) .nil .nil rfl (RunB.lr (run_move (.tmp rfl))) ?_
     refine .det (B := []) rfl rfl (.inl rfl) .nil .nil rfl (RunB.lr (run_move (.tmp rfl))) ?_
     refine .skip rfl rfl ⟨_, _, _, _, rfl, rfl, rfl, rfl⟩ rfl (by first | rfl | kernel_rfl) ?_
     refine .skip rfl rfl ⟨_, _, _, _, rfl, rfl, rfl, rfl⟩ rfl (by first | rfl | kernel_rfl) ?_
     refine .skip rfl rfl ⟨_, _, _, _, rfl, rfl, rfl, rfl⟩ rfl (by first | rfl | kernel_rfl) ?_
     refine .skip rfl rfl ⟨_, _, _, _, rfl, rfl, rfl, rfl⟩ rfl (by first | rfl | kernel_rfl) ?_
     refine .skip rfl rfl ⟨_, _, _, _, rfl, rfl, rfl, rfl⟩ rfl (by first | rfl | kernel_rfl) ?_
     refine .skip rfl rfl ⟨_, _, _, _, rfl, rfl, rfl, rfl⟩ rfl (by first | rfl | kernel_rfl) ?_
     refine .skip rfl rfl ⟨_, _, _, _, rfl, rfl, rfl, rfl⟩ rfl (by first | rfl | kernel_rfl) ?_
     refine .det (B := []) rfl rfl (.inl rfl) .nil .nil rfl (RunB.lr (by first | exact run_pick_true (.tmp rfl) (.tmp rfl) | exact run_pick_false (.tmp rfl) .const)) ?_
     refine chain_nil (ts := [0, 1, 2]) (.cons rfl (.cons rfl (.cons rfl .nil))) (by decide) ?_
     refine xw_then ?_
     refine cw_cond_false (.tmp rfl) ?_
     have hokm : okM g K false N s = false := by simp [okM, hNe]
     have hst := here_no hsi hokm
     rw [← hst] at hn2 hY ⊢
     refine cw_skip ?_
     refine xw_in ?_
     refine xw_then ?_
     refine cw_region ?_
     refine lstepB rfl rfl rfl (run_move (.tmp rfl)) ?_
     refine lstepB rfl rfl rfl (run_add (.tmp rfl) .const (by first | exact IntWalk.i64_in _ (by omega) | exact rfl)) ?_
     refine lstepB rfl rfl rfl (run_assign (.tmp rfl)) ?_
     refine lnil ?_
     exact xw_round (i + 1, some (gY, cY, rY)) ⟨by simp only; omega, hn2, hY⟩ (by show allM.length - (i + 1) < allM.length - i; omega) (by repeat (first | exact Less.nil | refine Less.cons rfl ?_)) (by repeat (first | exact Pick.nil | (apply Pick.cons; focus (repeat (first | exact Del.here | apply Del.there)))))
    ·
     obtain rfl : i = allM.length := by omega
     rw [hall] at hn2 hY ⊢
     by_cases hmM : m = M
     ·
      refine cw_exit ?_
      refine xw_then_exit ?_
      refine xw_then_exit ?_
      refine xw_in_exit ?_
      refine xw_then ?_
      refine cw_seq ?_
      refine cw_region ?_
      refine lstepB rfl rfl rfl (run_move (.tmp rfl)) ?_
      refine lstepB rfl rfl rfl (run_assign (.tmp rfl)) ?_
      refine lnil ?_
      refine xw_then ?_
      refine cw_seq ?_
      refine cw_region ?_
      refine lstepB rfl rfl rfl (run_move (.tmp rfl)) ?_
      refine lstepB rfl rfl rfl (run_move (.tmp rfl)) ?_
      refine lstepB rfl rfl rfl (run_eql (p := true) (.tmp rfl) (.tmp rfl) (decide_eq_true (hKM hmM))) ?_
      refine lnil ?_
      refine xw_then ?_
      refine cw_cond_true (.tmp rfl) ?_
      subst hmM
      refine cw_seq ?_
      refine cw_region ?_
      refine lstepB rfl rfl rfl (run_move (.tmp rfl)) ?_
      refine lstepB rfl rfl rfl (run_assign (.tmp rfl)) ?_
      refine lnil ?_
      refine xw_then ?_
      refine cw_ret ?_
      refine xw_in_ret ?_
      refine xw_then_ret ?_
      refine xw_then_ret ?_
      refine xw_in_ret ?_
      refine xw_ret1 Try.results85 rfl (fun w hS => ⟨(some (gY, cY, rY)), ⟨hn2, hY⟩, rfl, hS.pick (by repeat (first | exact Pick.nil | (apply Pick.cons; focus (repeat (first | exact Del.here | apply Del.there)))))⟩)
     ·
      refine cw_exit ?_
      refine xw_then_exit ?_
      refine xw_then_exit ?_
      refine xw_in_exit ?_
      refine xw_then ?_
      refine cw_seq ?_
      refine cw_region ?_
      refine lstepB rfl rfl rfl (run_move (.tmp rfl)) ?_
      refine lstepB rfl rfl rfl (run_assign (.tmp rfl)) ?_
      refine lnil ?_
      refine xw_then ?_
      refine cw_seq ?_
      refine cw_region ?_
      refine lstepB rfl rfl rfl (run_move (.tmp rfl)) ?_
      refine lstepB rfl rfl rfl (run_move (.tmp rfl)) ?_
      refine lstepB rfl rfl rfl (run_eql (p := false) (.tmp rfl) (.tmp rfl) (decide_eq_false (hKN hmM))) ?_
      refine lnil ?_
      refine xw_then ?_
      refine cw_cond_false (.tmp rfl) ?_
      refine cw_skip ?_
      refine xw_in ?_
      refine xw_then ?_
      refine cw_region ?_
      refine lstepB rfl rfl rfl (run_move (.tmp rfl)) ?_
      refine lstepB rfl rfl rfl (run_move (.tmp rfl)) ?_
      refine lstepB rfl rfl rfl (run_add (c := fr + d * ((m + 1 : Nat) : Int)) (.tmp rfl) (.tmp rfl) (by rw [IntWalk.i64_in _ (by omega)]; exact hKn)) ?_
      refine lstepB rfl rfl rfl (run_assign (.tmp rfl)) ?_
      refine lnil ?_
      exact xw_round (m + 1, some (gY, cY, rY)) ⟨by simp only; omega, ⟨by simp only; omega, hn2, hY⟩⟩ (by show M + 1 - (m + 1) < M + 1 - m; omega) (by repeat (first | exact Less.nil | refine Less.cons rfl ?_)) (by repeat (first | exact Pick.nil | (apply Pick.cons; focus (repeat (first | exact Del.here | apply Del.there)))))
 case some q =>
  obtain ⟨gN, cN, rN⟩ := q
  dsimp only at ho ⊢
  obtain ⟨hmp, hn1, hNr⟩ := ho
  have hm0 : m ≠ 0 := by omega
  have hm0d : decide (m = 0) = false := decide_eq_false hm0
  have hKf := hK1 hm0
  rw [hm0d] at hall
  refine cw_seq ?_
  refine cw_block ?_
  refine cw_seq ?_
  refine cw_region ?_
  refine lstepB rfl rfl rfl (run_assign .const) ?_
  refine lnil ?_
  refine xw_then ?_
  refine cw_seq ?_
  refine cw_seq ?_
  refine cw_region ?_
  refine lstepB rfl rfl rfl (run_assign .const) ?_
  refine lnil ?_
  refine xw_then ?_
  refine cw_block ?_
  refine cw_loop (S := Nat × Option (Nat × Nat × List Value)) (fun s => [(13, .int .i64 ((s.1 : Nat) : Int)), (12, match s.2 with | none => .slice none 0 0 | some q => .slice (some ⟨q.1, 0, none⟩) (hereL g K false N s.1).length q.2.1)]) [(1, _), (2, _), (3, _), (4, _), (9, _), (10, _), (11, _)] (fun s => (match s.2 with | none => [] | some q => [(q.1, Obj.cells q.2.2.toArray 92 (0, 0))]) ++ ((gN, Obj.cells rN.toArray 92 (0, 0)) :: [(gL, Obj.cells rL.toArray 92 (0, 0)), (b4, Obj.cells [.int .i64 g.long, .int .i64 g.rise, .int .i64 g.change, .slice pa g.pits.length pc].toArray 24 (0, 0))])) (fun s => s.1 ≤ allM.length ∧ (match s.2 with | none => (hereL g K false N s.1) = [] | some q => 1 ≤ ((hereL g K false N s.1)).length ∧ InRow 2 ((hereL g K false N s.1)).length q.2.1 q.2.2 (ssC ((hereL g K false N s.1))))) (fun s => allM.length - s.1) (0, none) ⟨Nat.zero_le _, rfl⟩ (by repeat (first | exact Less.nil | refine Less.cons rfl ?_)) (by repeat (first | exact Pick.nil | (apply Pick.cons; focus (repeat (first | exact Del.here | apply Del.there))))) ?_
  intro s hs
  obtain ⟨i, o⟩ := s
  obtain ⟨hi, ho2⟩ := hs
  dsimp only at hi ho2 ⊢
  cases o
  case none =>
   dsimp only at ho2 ⊢
   refine cw_seq ?_
   refine cw_seq ?_
   refine cw_region ?_
   refine lstepB rfl rfl rfl (run_move (.tmp rfl)) ?_
   refine lstepB rfl rfl rfl (run_move (.tmp rfl)) ?_
   refine lstepB rfl rfl rfl (run_len (.tmp rfl) sl89) ?_
   refine lstepB rfl rfl rfl (run_lss (.tmp rfl) (.tmp rfl) rfl) ?_
   refine lnil ?_
   refine xw_then ?_
   refine cw_cond_p (.tmp rfl) (fun hl => ?_) (fun hl => ?_)
   ·
    obtain ⟨s, hsi⟩ : ∃ s, allM[i]? = some s := ⟨_, List.getElem?_eq_getElem (by omega)⟩
    have hso : okS s := mem_all.1 (List.mem_of_getElem? hsi)
    have hhl := here_len g K false N i
    refine cw_skip ?_
    refine xw_then ?_
    refine cw_seq ?_
    refine cw_block ?_
    refine cw_seq ?_
    refine cw_region ?_
    refine lstepB rfl rfl rfl (run_move (.tmp rfl)) ?_
    refine lstepB rfl rfl rfl (run_move (.tmp rfl)) ?_
    refine lstepB rfl rfl rfl (run_eql (p := false) (.tmp rfl) (.tmp rfl) (decide_eq_false hKf)) ?_
    refine lstepB rfl rfl rfl (run_assign (.tmp rfl)) ?_
    refine lnil ?_
    refine xw_then ?_
    refine cw_seq ?_
    refine cw_seq ?_
    refine cw_region ?_
    refine lstepB rfl rfl rfl (run_assign .const) ?_
    refine lnil ?_
    refine xw_then ?_
    refine cw_block ?_
    refine cw_loop (S := Nat) (fun j => [(15, .int .i64 ((j : Nat) : Int)), (14, .bool ((N.take j).any fun t => nearB g.change t s))]) [(1, _), (2, _), (3, _), (4, _), (9, _), (10, _), (11, _), (12, _), (13, _)] (fun j => ((gN, Obj.cells rN.toArray 92 (0, 0)) :: [(gL, Obj.cells rL.toArray 92 (0, 0)), (b4, Obj.cells [.int .i64 g.long, .int .i64 g.rise, .int .i64 g.change, .slice pa g.pits.length pc].toArray 24 (0, 0))])) (fun j => j ≤ N.length) (fun j => N.length - j) 0 (Nat.zero_le _) (by repeat (first | exact Less.nil | refine Less.cons rfl ?_)) (by repeat (first | exact Pick.nil | (apply Pick.cons; focus (repeat (first | exact Del.here | apply Del.there))))) ?_
    intro j hj
    cases hb : ((N.take j).any fun t => nearB g.change t s)
    ·
     by_cases hjn : j < N.length
     ·
      refine cw_seq ?_
      refine cw_seq ?_
      refine cw_region ?_
      refine lstepB rfl rfl rfl (run_move (.tmp rfl)) ?_
      refine lstepB rfl rfl rfl (run_move (.tmp rfl)) ?_
      refine lstepB rfl rfl rfl (run_len (.tmp rfl) sl89) ?_
      refine lstepB rfl rfl rfl (run_lss (p := true) (.tmp rfl) (.tmp rfl) (decide_eq_true (by omega))) ?_
      refine lstepB rfl rfl rfl (run_move (.tmp rfl)) ?_
      refine lyes rfl rfl rfl rfl ?_
      refine gstepB rfl rfl (run_move (.tmp rfl)) ?_
      refine lyes rfl rfl rfl rfl ?_
      refine gstepB rfl rfl (run_not (.tmp rfl) (by first | exact Bool.not_true | exact Bool.not_false | exact rfl)) ?_
      refine lstepB rfl rfl rfl (by first | exact run_pick_true (.tmp rfl) (.tmp rfl) | exact run_pick_false (.tmp rfl) .const) ?_
      refine lnil ?_
      refine xw_then ?_
      refine cw_cond_true (.tmp rfl) ?_
      obtain ⟨t, htj⟩ : ∃ t, N[j]? = some t := ⟨_, List.getElem?_eq_getElem hjn⟩
      have hto := hnok t (List.mem_of_getElem? htj)
      have hnx : nearB g.change t s = ((N.take (j + 1)).any fun t => nearB g.change t s) := by simp [List.take_add_one, htj, List.any_append, hb]
      refine cw_skip ?_
      refine xw_then ?_
      refine cw_seq ?_
      refine cw_block ?_
      refine cw_chain2 (σ := [0, 1, 2, 3, 4, 5, 6, 7, 8, 9, 10]) [⟨0, [2], [], [], 0⟩, ⟨0, [], [], [], 0⟩, ⟨0, [], [], [], 0⟩, ⟨0, [], [], [], 6⟩, ⟨0, [0], [], [], 14⟩, ⟨0, [], [], [], 0⟩, ⟨0, [], [], [], 0⟩, ⟨0, [], [], [], 96⟩, ⟨0, [1], [], [], 224⟩, ⟨0, [], [], [], 511⟩, ⟨0, [], [], [], 1023⟩] [(0, _), (1, _), (2, _)] (by kernel_rfl) (by kernel_rfl) rfl ?_
      refine .det (B := []) rfl rfl (.inl rfl) (.cons rfl .nil) .nil rfl (RunB.lr (run_loadN (.tmp rfl) kd24 sz24 (by repeat (first | exact List.Mem.head _ | apply List.Mem.tail)) (by repeat (first | exact Sub.done | apply Sub.take | apply Sub.skip)))) ?_
      refine .det (B := []) rfl rfl (.inl rfl) .nil .nil rfl (RunB.lr (run_move (.tmp rfl))) ?_
      refine .det (B := []) rfl rfl (.inl rfl) .nil .nil rfl (RunB.lr (run_move (.tmp rfl))) ?_
      refine .det (B := []) rfl rfl (.inl rfl) .nil .nil rfl (RunB.lr (run_indexAddr (i := j) (off' := j * 2) (.tmp rfl) (.tmp rfl) el89 (by omega) (Nat.zero_add _))) ?_
      refine .det (B := []) rfl rfl (.inl rfl) (.cons rfl .nil) .nil rfl (RunB.lr (run_loadN_own (l := sC t) (.tmp rfl) kd92 sz92 (by repeat (first | exact List.Mem.head _ | apply List.Mem.tail)) rfl (fun j' v hj' => hNr.get (ssC_at N j t htj j' v hj')))) ?_
      refine .det (B := []) rfl rfl (.inl rfl) .nil .nil rfl (RunB.lr (run_move (.tmp rfl))) ?_
      refine .det (B := []) rfl rfl (.inl rfl) .nil .nil rfl (RunB.lr (run_move (.tmp rfl))) ?_
      refine .det (B := []) rfl rfl (.inl rfl) .nil .nil rfl (RunB.lr (run_indexAddr (i := i) (off' := i * 2) (.tmp rfl) (.tmp rfl) el89 (by omega) (Nat.zero_add _))) ?_
      refine .det (B := []) rfl rfl (.inl rfl) (.cons rfl .nil) .nil rfl (RunB.lr (run_loadN_own (l := sC s) (.tmp rfl) kd92 sz92 (by repeat (first | exact List.Mem.head _ | apply List.Mem.tail)) rfl (fun j' v hj' => hL.get (ssC_at allM i s hsi j' v hj')))) ?_
      refine .det (B := []) rfl rfl (.inl rfl) .nil .nil rfl (RunB.lr (run_call1 cb102 (.cons (.tmp rfl) (.cons (.tmp rfl) (.cons (.tmp rfl) .nil))) (fun w hS => (nearZK g pa pc t s hto hso hch w).as (congrArg Value.bool hnx)))) ?_
      refine .det (B := []) rfl rfl (.inl rfl) .nil .nil rfl (RunB.lr (run_assign (.tmp rfl))) ?_
      refine chain_nil (ts := [0, 1, 2]) (.cons rfl (.cons rfl (.cons rfl .nil))) (by decide) ?_
      refine xw_in ?_
      refine xw_then ?_
      refine cw_region ?_
      refine lstepB rfl rfl rfl (run_move (.tmp rfl)) ?_
      refine lstepB rfl rfl rfl (run_add (.tmp rfl) .const (by first | exact IntWalk.i64_in _ (by omega) | exact rfl)) ?_
      refine lstepB rfl rfl rfl (run_assign (.tmp rfl)) ?_
      refine lnil ?_
      exact xw_round (j + 1) (by show j + 1 ≤ _; omega) (by show N.length - (j + 1) < N.length - j; omega) (by repeat (first | exact Less.nil | refine Less.cons rfl ?_)) (by repeat (first | exact Pick.nil | (apply Pick.cons; focus (repeat (first | exact Del.here | apply Del.there)))))
     ·
      refine cw_seq ?_
      refine cw_seq ?_
      refine cw_region ?_
      refine lstepB rfl rfl rfl (run_move (.tmp rfl)) ?_
      refine lstepB rfl rfl rfl (run_move (.tmp rfl)) ?_
      refine lstepB rfl rfl rfl (run_len (.tmp rfl) sl89) ?_
      refine lstepB rfl rfl rfl (run_lss (p := false) (.tmp rfl) (.tmp rfl) (decide_eq_false (by omega))) ?_
      refine lstepB rfl rfl rfl (run_move (.tmp rfl)) ?_
      refine lskip rfl rfl rfl rfl rfl rfl rfl ?_
      refine lskip rfl rfl rfl rfl rfl rfl rfl ?_
      refine lstepB rfl rfl rfl (by first | exact run_pick_true (.tmp rfl) (.tmp rfl) | exact run_pick_false (.tmp rfl) .const) ?_
      refine lnil ?_
      refine xw_then ?_
      refine cw_cond_false (.tmp rfl) ?_
      have hany : (N.any fun t => nearB g.change t s) = false := by rw [List.take_of_length_le (by omega)] at hb; exact hb
      skip
      refine cw_exit ?_
      refine xw_then_exit ?_
      refine xw_then_exit ?_
      refine xw_in_exit ?_
      refine xw_then ?_
      refine cw_seq ?_
      refine cw_chain2 (σ := [0, 1, 2, 3, 4, 5, 6, 7, 8, 9]) [⟨0, [], [], [], 0⟩, ⟨0, [], [], [], 1⟩, ⟨0, [2], [], [], 3⟩, ⟨0, [], [], [], 3⟩, ⟨0, [], [], [], 3⟩, ⟨0, [], [], [], 3⟩, ⟨0, [], [], [], 51⟩, ⟨0, [1], [], [], 115⟩, ⟨0, [], [], [], 255⟩, ⟨0, [], [], [], 511⟩] [(0, _), (1, _), (2, _)] (by kernel_rfl) (by kernel_rfl) rfl ?_
      refine .det (B := []) rfl rfl (.inl rfl) .nil .nil rfl (RunB.lr (run_move (.tmp rfl))) ?_
      refine .det (B := []) rfl rfl (.inl rfl) .nil .nil rfl (RunB.lr (run_move (.tmp rfl))) ?_
      refine .skip rfl rfl ⟨_, _, _, _, rfl, rfl, rfl, rfl⟩ rfl (by first | rfl | kernel_rfl) ?_
      refine .skip rfl rfl ⟨_, _, _, _, rfl, rfl, rfl, rfl⟩ rfl (by first | rfl | kernel_rfl) ?_
      refine .skip rfl rfl ⟨_, _, _, _, rfl, rfl, rfl, rfl⟩ rfl (by first | rfl | kernel_rfl) ?_
      refine .skip rfl rfl ⟨_, _, _, _, rfl, rfl, rfl, rfl⟩ rfl (by first | rfl | kernel_rfl) ?_
      refine .skip rfl rfl ⟨_, _, _, _, rfl, rfl, rfl, rfl⟩ rfl (by first | rfl | kernel_rfl) ?_
      refine .skip rfl rfl ⟨_, _, _, _, rfl, rfl, rfl, rfl⟩ rfl (by first | rfl | kernel_rfl) ?_
      refine .skip rfl rfl ⟨_, _, _, _, rfl, rfl, rfl, rfl⟩ rfl (by first | rfl | kernel_rfl) ?_
      refine .det (B := []) rfl rfl (.inl rfl) .nil .nil rfl (RunB.lr (by first | exact run_pick_true (.tmp rfl) (.tmp rfl) | exact run_pick_false (.tmp rfl) .const)) ?_
      refine chain_nil (ts := [0, 1, 2]) (.cons rfl (.cons rfl (.cons rfl .nil))) (by decide) ?_
      refine xw_then ?_
      refine cw_cond_false (.tmp rfl) ?_
      have hokm : okM g K false N s = false := by simp [okM, hany]
      have hst := here_no hsi hokm
      refine cw_skip ?_
      refine xw_in ?_
      refine xw_then ?_
      refine cw_region ?_
      refine lstepB rfl rfl rfl (run_move (.tmp rfl)) ?_
      refine lstepB rfl rfl rfl (run_add (.tmp rfl) .const (by first | exact IntWalk.i64_in _ (by omega) | exact rfl)) ?_
      refine lstepB rfl rfl rfl (run_assign (.tmp rfl)) ?_
      refine lnil ?_
      exact xw_round (i + 1, none) ⟨by simp only; omega, hst.trans ho2⟩ (by show allM.length - (i + 1) < allM.length - i; omega) (by repeat (first | exact Less.nil | refine Less.cons rfl ?_)) (by repeat (first | exact Pick.nil | (apply Pick.cons; focus (repeat (first | exact Del.here | apply Del.there)))))
    ·
     have hany : (N.any fun t => nearB g.change t s) = true := by
      rw [List.any_eq_true] at hb ⊢
      obtain ⟨t, h1, h2⟩ := hb
      exact ⟨t, List.mem_of_mem_take h1, h2⟩
     by_cases hjn : j < N.length
     all_goals
      refine cw_seq ?_
      refine cw_seq ?_
      refine cw_region ?_
      refine lstepB rfl rfl rfl (run_move (.tmp rfl)) ?_
      refine lstepB rfl rfl rfl (run_move (.tmp rfl)) ?_
      refine lstepB rfl rfl rfl (run_len (.tmp rfl) sl89) ?_
      refine lstepB rfl rfl rfl (run_lss (.tmp rfl) (.tmp rfl) (by first | exact decide_eq_true (by omega) | exact decide_eq_false (by omega))) ?_
      refine lstepB rfl rfl rfl (run_move (.tmp rfl)) ?_
      first | (refine lyes rfl rfl rfl rfl ?_; refine gstepB rfl rfl (run_move (.tmp rfl)) ?_) | refine lskip rfl rfl rfl rfl rfl rfl rfl ?_
      first | (refine lyes rfl rfl rfl rfl ?_; refine gstepB rfl rfl (run_not (.tmp rfl) (by first | exact Bool.not_true | exact Bool.not_false | exact rfl)) ?_) | refine lskip rfl rfl rfl rfl rfl rfl rfl ?_
      refine lstepB rfl rfl rfl (by first | exact run_pick_true (.tmp rfl) (.tmp rfl) | exact run_pick_false (.tmp rfl) .const) ?_
      refine lnil ?_
      refine xw_then ?_
      refine cw_cond_false (.tmp rfl) ?_
      cases hf : fitsB g K s
      ·
       refine cw_exit ?_
       refine xw_then_exit ?_
       refine xw_then_exit ?_
       refine xw_in_exit ?_
       refine xw_then ?_
       refine cw_seq ?_
       refine cw_chain2 (σ := [0, 1, 2, 3, 4, 5, 6, 7, 8, 9]) [⟨0, [], [], [], 0⟩, ⟨0, [], [], [], 1⟩, ⟨0, [2], [], [], 3⟩, ⟨0, [], [], [], 3⟩, ⟨0, [], [], [], 3⟩, ⟨0, [], [], [], 3⟩, ⟨0, [], [], [], 51⟩, ⟨0, [1], [], [], 115⟩, ⟨0, [], [], [], 255⟩, ⟨0, [], [], [], 511⟩] [(0, _), (1, _), (2, _)] (by kernel_rfl) (by kernel_rfl) rfl ?_
       refine .det (B := []) rfl rfl (.inl rfl) .nil .nil rfl (RunB.lr (run_move (.tmp rfl))) ?_
       refine .det (B := []) rfl rfl (.inl rfl) .nil .nil rfl (RunB.lr (run_move (.tmp rfl))) ?_
       refine .det (B := []) rfl rfl (.inr ⟨_, _, _, rfl, rfl, rfl⟩) (.cons rfl .nil) .nil rfl (RunB.lr (run_loadN (.tmp rfl) kd24 sz24 (by repeat (first | exact List.Mem.head _ | apply List.Mem.tail)) (by repeat (first | exact Sub.done | apply Sub.take | apply Sub.skip)))) ?_
       refine .det (B := []) rfl rfl (.inr ⟨_, _, _, rfl, rfl, rfl⟩) .nil .nil rfl (RunB.lr (run_move (.tmp rfl))) ?_
       refine .det (B := []) rfl rfl (.inr ⟨_, _, _, rfl, rfl, rfl⟩) .nil .nil rfl (RunB.lr (run_move (.tmp rfl))) ?_
       refine .det (B := []) rfl rfl (.inr ⟨_, _, _, rfl, rfl, rfl⟩) .nil .nil rfl (RunB.lr (run_move (.tmp rfl))) ?_
       refine .det (B := []) rfl rfl (.inr ⟨_, _, _, rfl, rfl, rfl⟩) .nil .nil rfl (RunB.lr (run_indexAddr (i := i) (off' := i * 2) (.tmp rfl) (.tmp rfl) el89 (by omega) (Nat.zero_add _))) ?_
       refine .det (B := []) rfl rfl (.inr ⟨_, _, _, rfl, rfl, rfl⟩) (.cons rfl .nil) .nil rfl (RunB.lr (run_loadN_own (l := sC s) (.tmp rfl) kd92 sz92 (by repeat (first | exact List.Mem.head _ | apply List.Mem.tail)) rfl (fun j' v hj' => hL.get (ssC_at allM i s hsi j' v hj')))) ?_
       refine .det (B := []) rfl rfl (.inr ⟨_, _, _, rfl, rfl, rfl⟩) .nil .nil rfl (RunB.lr (run_call1 cb103 (.cons (.tmp rfl) (.cons (.tmp rfl) (.cons (.tmp rfl) .nil))) (fun w hS => (fitsZK g pa pc K s hso hgm w (hp.kept hS.kept)).as (congrArg Value.bool hf)))) ?_
       refine .det (B := []) rfl rfl (.inl rfl) .nil .nil rfl (RunB.lr (by first | exact run_pick_true (.tmp rfl) (.tmp rfl) | exact run_pick_false (.tmp rfl) .const)) ?_
       refine chain_nil (ts := [0, 1, 2]) (.cons rfl (.cons rfl (.cons rfl .nil))) (by decide) ?_
       refine xw_then ?_
       refine cw_cond_false (.tmp rfl) ?_
       have hokm : okM g K false N s = false := by simp [okM, hany, hf]
       have hst := here_no hsi hokm
       refine cw_skip ?_
       refine xw_in ?_
       refine xw_then ?_
       refine cw_region ?_
       refine lstepB rfl rfl rfl (run_move (.tmp rfl)) ?_
       refine lstepB rfl rfl rfl (run_add (.tmp rfl) .const (by first | exact IntWalk.i64_in _ (by omega) | exact rfl)) ?_
       refine lstepB rfl rfl rfl (run_assign (.tmp rfl)) ?_
       refine lnil ?_
       exact xw_round (i + 1, none) ⟨by simp only; omega, hst.trans ho2⟩ (by show allM.length - (i + 1) < allM.length - i; omega) (by repeat (first | exact Less.nil | refine Less.cons rfl ?_)) (by repeat (first | exact Pick.nil | (apply Pick.cons; focus (repeat (first | exact Del.here | apply Del.there)))))
      ·
       refine cw_exit ?_
       refine xw_then_exit ?_
       refine xw_then_exit ?_
       refine xw_in_exit ?_
       refine xw_then ?_
       refine cw_seq ?_
       refine cw_chain2 (σ := [0, 1, 2, 3, 4, 5, 6, 7, 8, 9]) [⟨0, [], [], [], 0⟩, ⟨0, [], [], [], 1⟩, ⟨0, [2], [], [], 3⟩, ⟨0, [], [], [], 3⟩, ⟨0, [], [], [], 3⟩, ⟨0, [], [], [], 3⟩, ⟨0, [], [], [], 51⟩, ⟨0, [1], [], [], 115⟩, ⟨0, [], [], [], 255⟩, ⟨0, [], [], [], 511⟩] [(0, _), (1, _), (2, _)] (by kernel_rfl) (by kernel_rfl) rfl ?_
       refine .det (B := []) rfl rfl (.inl rfl) .nil .nil rfl (RunB.lr (run_move (.tmp rfl))) ?_
       refine .det (B := []) rfl rfl (.inl rfl) .nil .nil rfl (RunB.lr (run_move (.tmp rfl))) ?_
       refine .det (B := []) rfl rfl (.inr ⟨_, _, _, rfl, rfl, rfl⟩) (.cons rfl .nil) .nil rfl (RunB.lr (run_loadN (.tmp rfl) kd24 sz24 (by repeat (first | exact List.Mem.head _ | apply List.Mem.tail)) (by repeat (first | exact Sub.done | apply Sub.take | apply Sub.skip)))) ?_
       refine .det (B := []) rfl rfl (.inr ⟨_, _, _, rfl, rfl, rfl⟩) .nil .nil rfl (RunB.lr (run_move (.tmp rfl))) ?_
       refine .det (B := []) rfl rfl (.inr ⟨_, _, _, rfl, rfl, rfl⟩) .nil .nil rfl (RunB.lr (run_move (.tmp rfl))) ?_
       refine .det (B := []) rfl rfl (.inr ⟨_, _, _, rfl, rfl, rfl⟩) .nil .nil rfl (RunB.lr (run_move (.tmp rfl))) ?_
       refine .det (B := []) rfl rfl (.inr ⟨_, _, _, rfl, rfl, rfl⟩) .nil .nil rfl (RunB.lr (run_indexAddr (i := i) (off' := i * 2) (.tmp rfl) (.tmp rfl) el89 (by omega) (Nat.zero_add _))) ?_
       refine .det (B := []) rfl rfl (.inr ⟨_, _, _, rfl, rfl, rfl⟩) (.cons rfl .nil) .nil rfl (RunB.lr (run_loadN_own (l := sC s) (.tmp rfl) kd92 sz92 (by repeat (first | exact List.Mem.head _ | apply List.Mem.tail)) rfl (fun j' v hj' => hL.get (ssC_at allM i s hsi j' v hj')))) ?_
       refine .det (B := []) rfl rfl (.inr ⟨_, _, _, rfl, rfl, rfl⟩) .nil .nil rfl (RunB.lr (run_call1 cb103 (.cons (.tmp rfl) (.cons (.tmp rfl) (.cons (.tmp rfl) .nil))) (fun w hS => (fitsZK g pa pc K s hso hgm w (hp.kept hS.kept)).as (congrArg Value.bool hf)))) ?_
       refine .det (B := []) rfl rfl (.inl rfl) .nil .nil rfl (RunB.lr (by first | exact run_pick_true (.tmp rfl) (.tmp rfl) | exact run_pick_false (.tmp rfl) .const)) ?_
       refine chain_nil (ts := [0, 1, 2]) (.cons rfl (.cons rfl (.cons rfl .nil))) (by decide) ?_
       refine xw_then ?_
       refine cw_cond_true (.tmp rfl) ?_
       have hokm : okM g K false N s = true := by simp [okM, hany, hf]
       have hst := here_yes hsi hokm
       refine cw_region ?_
       refine lstepB rfl rfl rfl (run_move (.tmp rfl)) ?_
       refine lstepB rfl rfl rfl (run_move (.tmp rfl)) ?_
       refine lstepB rfl rfl rfl (run_move (.tmp rfl)) ?_
       refine lstepB rfl rfl rfl (run_indexAddr (i := i) (off' := i * 2) (.tmp rfl) (.tmp rfl) el89 (by omega) (Nat.zero_add _)) ?_
       refine lstepB rfl rfl rfl (run_loadN_own (l := sC s) (.tmp rfl) kd92 sz92 (by repeat (first | exact List.Mem.head _ | apply List.Mem.tail)) rfl (fun j' v hj' => hL.get (ssC_at allM i s hsi j' v hj'))) ?_
       refine lstep rfl rfl rfl (LR.runs (lr_buildSlice_at (.cons (.tmp rfl) .nil) (fun w => bs89_1_0 w)) (by repeat (first | exact Pick.nil | (apply Pick.cons; focus (repeat (first | exact Del.here | apply Del.there))))) (by repeat (first | exact Dels.nil | (apply Dels.cons; focus (repeat (first | exact Del.here | apply Del.there)))))) ?_
       intro b65 _
       refine lstep rfl rfl rfl (LR.runs (R := [(b65, _)]) (A := []) (lr_append_nil ap89 (.tmp rfl) (.tmp rfl) (news := sC s) rfl (by omega) (by omega) (by decide) (news_own (by repeat (first | exact List.Mem.head _ | apply List.Mem.tail)))) (by repeat (first | exact Pick.nil | (apply Pick.cons; focus (repeat (first | exact Del.here | apply Del.there))))) (by repeat (first | exact Dels.nil | (apply Dels.cons; focus (repeat (first | exact Del.here | apply Del.there)))))) ?_
       intro ⟨gT, cgT, rgT⟩ hgT
       have hle : 1 = (hereL g K false N (i + 1)).length := by rw [hst, ho2]; rfl
       have hT : InRow 2 (hereL g K false N (i + 1)).length cgT rgT (ssC (hereL g K false N (i + 1))) := by rw [← hle, hst, ho2]; exact hgT
       dsimp only
       rw [(show Value.slice (some ⟨gT, 0, none⟩) 1 cgT = Value.slice (some ⟨gT, 0, none⟩) (hereL g K false N (i + 1)).length cgT from congrArg (fun n => Value.slice (some ⟨gT, 0, none⟩) n cgT) hle)]
       refine lstepB rfl rfl rfl (run_assign (.tmp rfl)) ?_
       refine lnil ?_
       refine xw_in ?_
       refine xw_then ?_
       refine cw_region ?_
       refine lstepB rfl rfl rfl (run_move (.tmp rfl)) ?_
       refine lstepB rfl rfl rfl (run_add (.tmp rfl) .const (by first | exact IntWalk.i64_in _ (by omega) | exact rfl)) ?_
       refine lstepB rfl rfl rfl (run_assign (.tmp rfl)) ?_
       refine lnil ?_
       exact xw_round (i + 1, some (gT, cgT, rgT)) ⟨by simp only; omega, by simp only; omega, hT⟩ (by show allM.length - (i + 1) < allM.length - i; omega) (by repeat (first | exact Less.nil | refine Less.cons rfl ?_)) (by repeat (first | exact Pick.nil | (apply Pick.cons; focus (repeat (first | exact Del.here | apply Del.there)))))
   ·
    obtain rfl : i = allM.length := by omega
    rw [hall] at ho2
    by_cases hmM : m = M
    ·
     refine cw_exit ?_
     refine xw_then_exit ?_
     refine xw_then_exit ?_
     refine xw_in_exit ?_
     refine xw_then ?_
     refine cw_seq ?_
     refine cw_region ?_
     refine lstepB rfl rfl rfl (run_move (.tmp rfl)) ?_
     refine lstepB rfl rfl rfl (run_assign (.tmp rfl)) ?_
     refine lnil ?_
     refine xw_then ?_
     refine cw_seq ?_
     refine cw_region ?_
     refine lstepB rfl rfl rfl (run_move (.tmp rfl)) ?_
     refine lstepB rfl rfl rfl (run_move (.tmp rfl)) ?_
     refine lstepB rfl rfl rfl (run_eql (p := true) (.tmp rfl) (.tmp rfl) (decide_eq_true (hKM hmM))) ?_
     refine lnil ?_
     refine xw_then ?_
     refine cw_cond_true (.tmp rfl) ?_
     subst hmM
     refine cw_seq ?_
     refine cw_region ?_
     refine lstepB rfl rfl rfl (run_move (.tmp rfl)) ?_
     refine lstepB rfl rfl rfl (run_assign (.tmp rfl)) ?_
     refine lnil ?_
     refine xw_then ?_
     refine cw_ret ?_
     refine xw_in_ret ?_
     refine xw_then_ret ?_
     refine xw_then_ret ?_
     refine xw_in_ret ?_
     refine xw_ret1 Try.results85 rfl (fun w hS => ⟨none, ho2, rfl, hS.pick (by repeat (first | exact Pick.nil | (apply Pick.cons; focus (repeat (first | exact Del.here | apply Del.there)))))⟩)
    ·
     refine cw_exit ?_
     refine xw_then_exit ?_
     refine xw_then_exit ?_
     refine xw_in_exit ?_
     refine xw_then ?_
     refine cw_seq ?_
     refine cw_region ?_
     refine lstepB rfl rfl rfl (run_move (.tmp rfl)) ?_
     refine lstepB rfl rfl rfl (run_assign (.tmp rfl)) ?_
     refine lnil ?_
     refine xw_then ?_
     refine cw_seq ?_
     refine cw_region ?_
     refine lstepB rfl rfl rfl (run_move (.tmp rfl)) ?_
     refine lstepB rfl rfl rfl (run_move (.tmp rfl)) ?_
     refine lstepB rfl rfl rfl (run_eql (p := false) (.tmp rfl) (.tmp rfl) (decide_eq_false (hKN hmM))) ?_
     refine lnil ?_
     refine xw_then ?_
     refine cw_cond_false (.tmp rfl) ?_
     refine cw_skip ?_
     refine xw_in ?_
     refine xw_then ?_
     refine cw_region ?_
     refine lstepB rfl rfl rfl (run_move (.tmp rfl)) ?_
     refine lstepB rfl rfl rfl (run_move (.tmp rfl)) ?_
     refine lstepB rfl rfl rfl (run_add (c := fr + d * ((m + 1 : Nat) : Int)) (.tmp rfl) (.tmp rfl) (by rw [IntWalk.i64_in _ (by omega)]; exact hKn)) ?_
     refine lstepB rfl rfl rfl (run_assign (.tmp rfl)) ?_
     refine lnil ?_
     exact xw_round (m + 1, none) ⟨by simp only; omega, ho2⟩ (by show M + 1 - (m + 1) < M + 1 - m; omega) (by repeat (first | exact Less.nil | refine Less.cons rfl ?_)) (by repeat (first | exact Pick.nil | (apply Pick.cons; focus (repeat (first | exact Del.here | apply Del.there)))))
  case some q =>
   obtain ⟨gY, cY, rY⟩ := q
   dsimp only at ho2 ⊢
   obtain ⟨hn2, hY⟩ := ho2
   refine cw_seq ?_
   refine cw_seq ?_
   refine cw_region ?_
   refine lstepB rfl rfl rfl (run_move (.tmp rfl)) ?_
   refine lstepB rfl rfl rfl (run_move (.tmp rfl)) ?_
   refine lstepB rfl rfl rfl (run_len (.tmp rfl) sl89) ?_
   refine lstepB rfl rfl rfl (run_lss (.tmp rfl) (.tmp rfl) rfl) ?_
   refine lnil ?_
   refine xw_then ?_
   refine cw_cond_p (.tmp rfl) (fun hl => ?_) (fun hl => ?_)
   ·
    obtain ⟨s, hsi⟩ : ∃ s, allM[i]? = some s := ⟨_, List.getElem?_eq_getElem (by omega)⟩
    have hso : okS s := mem_all.1 (List.mem_of_getElem? hsi)
    have hhl := here_len g K false N i
    refine cw_skip ?_
    refine xw_then ?_
    refine cw_seq ?_
    refine cw_block ?_
    refine cw_seq ?_
    refine cw_region ?_
    refine lstepB rfl rfl rfl (run_move (.tmp rfl)) ?_
    refine lstepB rfl rfl rfl (run_move (.tmp rfl)) ?_
    refine lstepB rfl rfl rfl (run_eql (p := false) (.tmp rfl) (.tmp rfl) (decide_eq_false hKf)) ?_
    refine lstepB rfl rfl rfl (run_assign (.tmp rfl)) ?_
    refine lnil ?_
    refine xw_then ?_
    refine cw_seq ?_
    refine cw_seq ?_
    refine cw_region ?_
    refine lstepB rfl rfl rfl (run_assign .const) ?_
    refine lnil ?_
    refine xw_then ?_
    refine cw_block ?_
    refine cw_loop (S := Nat) (fun j => [(15, .int .i64 ((j : Nat) : Int)), (14, .bool ((N.take j).any fun t => nearB g.change t s))]) [(1, _), (2, _), (3, _), (4, _), (9, _), (10, _), (11, _), (12, _), (13, _)] (fun j => ((gY, Obj.cells rY.toArray 92 (0, 0)) :: ((gN, Obj.cells rN.toArray 92 (0, 0)) :: [(gL, Obj.cells rL.toArray 92 (0, 0)), (b4, Obj.cells [.int .i64 g.long, .int .i64 g.rise, .int .i64 g.change, .slice pa g.pits.length pc].toArray 24 (0, 0))]))) (fun j => j ≤ N.length) (fun j => N.length - j) 0 (Nat.zero_le _) (by repeat (first | exact Less.nil | refine Less.cons rfl ?_)) (by repeat (first | exact Pick.nil | (apply Pick.cons; focus (repeat (first | exact Del.here | apply Del.there))))) ?_
    intro j hj
    cases hb : ((N.take j).any fun t => nearB g.change t s)
    ·
     by_cases hjn : j < N.length
     ·
      refine cw_seq ?_
      refine cw_seq ?_
      refine cw_region ?_
      refine lstepB rfl rfl rfl (run_move (.tmp rfl)) ?_
      refine lstepB rfl rfl rfl (run_move (.tmp rfl)) ?_
      refine lstepB rfl rfl rfl (run_len (.tmp rfl) sl89) ?_
      refine lstepB rfl rfl rfl (run_lss (p := true) (.tmp rfl) (.tmp rfl) (decide_eq_true (by omega))) ?_
      refine lstepB rfl rfl rfl (run_move (.tmp rfl)) ?_
      refine lyes rfl rfl rfl rfl ?_
      refine gstepB rfl rfl (run_move (.tmp rfl)) ?_
      refine lyes rfl rfl rfl rfl ?_
      refine gstepB rfl rfl (run_not (.tmp rfl) (by first | exact Bool.not_true | exact Bool.not_false | exact rfl)) ?_
      refine lstepB rfl rfl rfl (by first | exact run_pick_true (.tmp rfl) (.tmp rfl) | exact run_pick_false (.tmp rfl) .const) ?_
      refine lnil ?_
      refine xw_then ?_
      refine cw_cond_true (.tmp rfl) ?_
      obtain ⟨t, htj⟩ : ∃ t, N[j]? = some t := ⟨_, List.getElem?_eq_getElem hjn⟩
      have hto := hnok t (List.mem_of_getElem? htj)
      have hnx : nearB g.change t s = ((N.take (j + 1)).any fun t => nearB g.change t s) := by simp [List.take_add_one, htj, List.any_append, hb]
      refine cw_skip ?_
      refine xw_then ?_
      refine cw_seq ?_
      refine cw_block ?_
      refine cw_chain2 (σ := [0, 1, 2, 3, 4, 5, 6, 7, 8, 9, 10]) [⟨0, [3], [], [], 0⟩, ⟨0, [], [], [], 0⟩, ⟨0, [], [], [], 0⟩, ⟨0, [], [], [], 6⟩, ⟨0, [1], [], [], 14⟩, ⟨0, [], [], [], 0⟩, ⟨0, [], [], [], 0⟩, ⟨0, [], [], [], 96⟩, ⟨0, [2], [], [], 224⟩, ⟨0, [], [], [], 511⟩, ⟨0, [], [], [], 1023⟩] [(0, _), (1, _), (2, _), (3, _)] (by kernel_rfl) (by kernel_rfl) rfl ?_
      refine .det (B := []) rfl rfl (.inl rfl) (.cons rfl .nil) .nil rfl (RunB.lr (run_loadN (.tmp rfl) kd24 sz24 (by repeat (first | exact List.Mem.head _ | apply List.Mem.tail)) (by repeat (first | exact Sub.done | apply Sub.take | apply Sub.skip)))) ?_
      refine .det (B := []) rfl rfl (.inl rfl) .nil .nil rfl (RunB.lr (run_move (.tmp rfl))) ?_
      refine .det (B := []) rfl rfl (.inl rfl) .nil .nil rfl (RunB.lr (run_move (.tmp rfl))) ?_
      refine .det (B := []) rfl rfl (.inl rfl) .nil .nil rfl (RunB.lr (run_indexAddr (i := j) (off' := j * 2) (.tmp rfl) (.tmp rfl) el89 (by omega) (Nat.zero_add _))) ?_
      refine .det (B := []) rfl rfl (.inl rfl) (.cons rfl .nil) .nil rfl (RunB.lr (run_loadN_own (l := sC t) (.tmp rfl) kd92 sz92 (by repeat (first | exact List.Mem.head _ | apply List.Mem.tail)) rfl (fun j' v hj' => hNr.get (ssC_at N j t htj j' v hj')))) ?_
      refine .det (B := []) rfl rfl (.inl rfl) .nil .nil rfl (RunB.lr (run_move (.tmp rfl))) ?_
      refine .det (B := []) rfl rfl (.inl rfl) .nil .nil rfl (RunB.lr (run_move (.tmp rfl))) ?_
      refine .det (B := []) rfl rfl (.inl rfl) .nil .nil rfl (RunB.lr (run_indexAddr (i := i) (off' := i * 2) (.tmp rfl) (.tmp rfl) el89 (by omega) (Nat.zero_add _))) ?_
      refine .det (B := []) rfl rfl (.inl rfl) (.cons rfl .nil) .nil rfl (RunB.lr (run_loadN_own (l := sC s) (.tmp rfl) kd92 sz92 (by repeat (first | exact List.Mem.head _ | apply List.Mem.tail)) rfl (fun j' v hj' => hL.get (ssC_at allM i s hsi j' v hj')))) ?_
      refine .det (B := []) rfl rfl (.inl rfl) .nil .nil rfl (RunB.lr (run_call1 cb102 (.cons (.tmp rfl) (.cons (.tmp rfl) (.cons (.tmp rfl) .nil))) (fun w hS => (nearZK g pa pc t s hto hso hch w).as (congrArg Value.bool hnx)))) ?_
      refine .det (B := []) rfl rfl (.inl rfl) .nil .nil rfl (RunB.lr (run_assign (.tmp rfl))) ?_
      refine chain_nil (ts := [0, 1, 2, 3]) (.cons rfl (.cons rfl (.cons rfl (.cons rfl .nil)))) (by decide) ?_
      refine xw_in ?_
      refine xw_then ?_
      refine cw_region ?_
      refine lstepB rfl rfl rfl (run_move (.tmp rfl)) ?_
      refine lstepB rfl rfl rfl (run_add (.tmp rfl) .const (by first | exact IntWalk.i64_in _ (by omega) | exact rfl)) ?_
      refine lstepB rfl rfl rfl (run_assign (.tmp rfl)) ?_
      refine lnil ?_
      exact xw_round (j + 1) (by show j + 1 ≤ _; omega) (by show N.length - (j + 1) < N.length - j; omega) (by repeat (first | exact Less.nil | refine Less.cons rfl ?_)) (by repeat (first | exact Pick.nil | (apply Pick.cons; focus (repeat (first | exact Del.here | apply Del.there)))))
     ·
      refine cw_seq ?_
      refine cw_seq ?_
      refine cw_region ?_
      refine lstepB rfl rfl rfl (run_move (.tmp rfl)) ?_
      refine lstepB rfl rfl rfl (run_move (.tmp rfl)) ?_
      refine lstepB rfl rfl rfl (run_len (.tmp rfl) sl89) ?_
      refine lstepB rfl rfl rfl (run_lss (p := false) (.tmp rfl) (.tmp rfl) (decide_eq_false (by omega))) ?_
      refine lstepB rfl rfl rfl (run_move (.tmp rfl)) ?_
      refine lskip rfl rfl rfl rfl rfl rfl rfl ?_
      refine lskip rfl rfl rfl rfl rfl rfl rfl ?_
      refine lstepB rfl rfl rfl (by first | exact run_pick_true (.tmp rfl) (.tmp rfl) | exact run_pick_false (.tmp rfl) .const) ?_
      refine lnil ?_
      refine xw_then ?_
      refine cw_cond_false (.tmp rfl) ?_
      have hany : (N.any fun t => nearB g.change t s) = false := by rw [List.take_of_length_le (by omega)] at hb; exact hb
      skip
      refine cw_exit ?_
      refine xw_then_exit ?_
      refine xw_then_exit ?_
      refine xw_in_exit ?_
      refine xw_then ?_
      refine cw_seq ?_
      refine cw_chain2 (σ := [0, 1, 2, 3, 4, 5, 6, 7, 8, 9]) [⟨0, [], [], [], 0⟩, ⟨0, [], [], [], 1⟩, ⟨0, [3], [], [], 3⟩, ⟨0, [], [], [], 3⟩, ⟨0, [], [], [], 3⟩, ⟨0, [], [], [], 3⟩, ⟨0, [], [], [], 51⟩, ⟨0, [2], [], [], 115⟩, ⟨0, [], [], [], 255⟩, ⟨0, [], [], [], 511⟩] [(0, _), (1, _), (2, _), (3, _)] (by kernel_rfl) (by kernel_rfl) rfl ?_
      refine .det (B := []) rfl rfl (.inl rfl) .nil .nil rfl (RunB.lr (run_move (.tmp rfl))) ?_
      refine .det (B := []) rfl rfl (.inl rfl) .nil .nil rfl (RunB.lr (run_move (.tmp rfl))) ?_
      refine .skip rfl rfl ⟨_, _, _, _, rfl, rfl, rfl, rfl⟩ rfl (by first | rfl | kernel_rfl) ?_
      refine .skip rfl rfl ⟨_, _, _, _, rfl, rfl, rfl, rfl⟩ rfl (by first | rfl | kernel_rfl) ?_
      refine .skip rfl rfl ⟨_, _, _, _, rfl, rfl, rfl, rfl⟩ rfl (by first | rfl | kernel_rfl) ?_
      refine .skip rfl rfl ⟨_, _, _, _, rfl, rfl, rfl, rfl⟩ rfl (by first | rfl | kernel_rfl) ?_
      refine .skip rfl rfl ⟨_, _, _, _, rfl, rfl, rfl, rfl⟩ rfl (by first | rfl | kernel_rfl) ?_
      refine .skip rfl rfl ⟨_, _, _, _, rfl, rfl, rfl, rfl⟩ rfl (by first | rfl | kernel_rfl) ?_
      refine .skip rfl rfl ⟨_, _, _, _, rfl, rfl, rfl, rfl⟩ rfl (by first | rfl | kernel_rfl) ?_
      refine .det (B := []) rfl rfl (.inl rfl) .nil .nil rfl (RunB.lr (by first | exact run_pick_true (.tmp rfl) (.tmp rfl) | exact run_pick_false (.tmp rfl) .const)) ?_
      refine chain_nil (ts := [0, 1, 2, 3]) (.cons rfl (.cons rfl (.cons rfl (.cons rfl .nil)))) (by decide) ?_
      refine xw_then ?_
      refine cw_cond_false (.tmp rfl) ?_
      have hokm : okM g K false N s = false := by simp [okM, hany]
      have hst := here_no hsi hokm
      rw [← hst] at hn2 hY ⊢
      refine cw_skip ?_
      refine xw_in ?_
      refine xw_then ?_
      refine cw_region ?_
      refine lstepB rfl rfl rfl (run_move (.tmp rfl)) ?_
      refine lstepB rfl rfl rfl (run_add (.tmp rfl) .const (by first | exact IntWalk.i64_in _ (by omega) | exact rfl)) ?_
      refine lstepB rfl rfl rfl (run_assign (.tmp rfl)) ?_
      refine lnil ?_
      exact xw_round (i + 1, some (gY, cY, rY)) ⟨by simp only; omega, hn2, hY⟩ (by show allM.length - (i + 1) < allM.length - i; omega) (by repeat (first | exact Less.nil | refine Less.cons rfl ?_)) (by repeat (first | exact Pick.nil | (apply Pick.cons; focus (repeat (first | exact Del.here | apply Del.there)))))
    ·
     have hany : (N.any fun t => nearB g.change t s) = true := by
      rw [List.any_eq_true] at hb ⊢
      obtain ⟨t, h1, h2⟩ := hb
      exact ⟨t, List.mem_of_mem_take h1, h2⟩
     by_cases hjn : j < N.length
     all_goals
      refine cw_seq ?_
      refine cw_seq ?_
      refine cw_region ?_
      refine lstepB rfl rfl rfl (run_move (.tmp rfl)) ?_
      refine lstepB rfl rfl rfl (run_move (.tmp rfl)) ?_
      refine lstepB rfl rfl rfl (run_len (.tmp rfl) sl89) ?_
      refine lstepB rfl rfl rfl (run_lss (.tmp rfl) (.tmp rfl) (by first | exact decide_eq_true (by omega) | exact decide_eq_false (by omega))) ?_
      refine lstepB rfl rfl rfl (run_move (.tmp rfl)) ?_
      first | (refine lyes rfl rfl rfl rfl ?_; refine gstepB rfl rfl (run_move (.tmp rfl)) ?_) | refine lskip rfl rfl rfl rfl rfl rfl rfl ?_
      first | (refine lyes rfl rfl rfl rfl ?_; refine gstepB rfl rfl (run_not (.tmp rfl) (by first | exact Bool.not_true | exact Bool.not_false | exact rfl)) ?_) | refine lskip rfl rfl rfl rfl rfl rfl rfl ?_
      refine lstepB rfl rfl rfl (by first | exact run_pick_true (.tmp rfl) (.tmp rfl) | exact run_pick_false (.tmp rfl) .const) ?_
      refine lnil ?_
      refine xw_then ?_
      refine cw_cond_false (.tmp rfl) ?_
      cases hf : fitsB g K s
      ·
       refine cw_exit ?_
       refine xw_then_exit ?_
       refine xw_then_exit ?_
       refine xw_in_exit ?_
       refine xw_then ?_
       refine cw_seq ?_
       refine cw_chain2 (σ := [0, 1, 2, 3, 4, 5, 6, 7, 8, 9]) [⟨0, [], [], [], 0⟩, ⟨0, [], [], [], 1⟩, ⟨0, [3], [], [], 3⟩, ⟨0, [], [], [], 3⟩, ⟨0, [], [], [], 3⟩, ⟨0, [], [], [], 3⟩, ⟨0, [], [], [], 51⟩, ⟨0, [2], [], [], 115⟩, ⟨0, [], [], [], 255⟩, ⟨0, [], [], [], 511⟩] [(0, _), (1, _), (2, _), (3, _)] (by kernel_rfl) (by kernel_rfl) rfl ?_
       refine .det (B := []) rfl rfl (.inl rfl) .nil .nil rfl (RunB.lr (run_move (.tmp rfl))) ?_
       refine .det (B := []) rfl rfl (.inl rfl) .nil .nil rfl (RunB.lr (run_move (.tmp rfl))) ?_
       refine .det (B := []) rfl rfl (.inr ⟨_, _, _, rfl, rfl, rfl⟩) (.cons rfl .nil) .nil rfl (RunB.lr (run_loadN (.tmp rfl) kd24 sz24 (by repeat (first | exact List.Mem.head _ | apply List.Mem.tail)) (by repeat (first | exact Sub.done | apply Sub.take | apply Sub.skip)))) ?_
       refine .det (B := []) rfl rfl (.inr ⟨_, _, _, rfl, rfl, rfl⟩) .nil .nil rfl (RunB.lr (run_move (.tmp rfl))) ?_
       refine .det (B := []) rfl rfl (.inr ⟨_, _, _, rfl, rfl, rfl⟩) .nil .nil rfl (RunB.lr (run_move (.tmp rfl))) ?_
       refine .det (B := []) rfl rfl (.inr ⟨_, _, _, rfl, rfl, rfl⟩) .nil .nil rfl (RunB.lr (run_move (.tmp rfl))) ?_
       refine .det (B := []) rfl rfl (.inr ⟨_, _, _, rfl, rfl, rfl⟩) .nil .nil rfl (RunB.lr (run_indexAddr (i := i) (off' := i * 2) (.tmp rfl) (.tmp rfl) el89 (by omega) (Nat.zero_add _))) ?_
       refine .det (B := []) rfl rfl (.inr ⟨_, _, _, rfl, rfl, rfl⟩) (.cons rfl .nil) .nil rfl (RunB.lr (run_loadN_own (l := sC s) (.tmp rfl) kd92 sz92 (by repeat (first | exact List.Mem.head _ | apply List.Mem.tail)) rfl (fun j' v hj' => hL.get (ssC_at allM i s hsi j' v hj')))) ?_
       refine .det (B := []) rfl rfl (.inr ⟨_, _, _, rfl, rfl, rfl⟩) .nil .nil rfl (RunB.lr (run_call1 cb103 (.cons (.tmp rfl) (.cons (.tmp rfl) (.cons (.tmp rfl) .nil))) (fun w hS => (fitsZK g pa pc K s hso hgm w (hp.kept hS.kept)).as (congrArg Value.bool hf)))) ?_
       refine .det (B := []) rfl rfl (.inl rfl) .nil .nil rfl (RunB.lr (by first | exact run_pick_true (.tmp rfl) (.tmp rfl) | exact run_pick_false (.tmp rfl) .const)) ?_
       refine chain_nil (ts := [0, 1, 2, 3]) (.cons rfl (.cons rfl (.cons rfl (.cons rfl .nil)))) (by decide) ?_
       refine xw_then ?_
       refine cw_cond_false (.tmp rfl) ?_
       have hokm : okM g K false N s = false := by simp [okM, hany, hf]
       have hst := here_no hsi hokm
       rw [← hst] at hn2 hY ⊢
       refine cw_skip ?_
       refine xw_in ?_
       refine xw_then ?_
       refine cw_region ?_
       refine lstepB rfl rfl rfl (run_move (.tmp rfl)) ?_
       refine lstepB rfl rfl rfl (run_add (.tmp rfl) .const (by first | exact IntWalk.i64_in _ (by omega) | exact rfl)) ?_
       refine lstepB rfl rfl rfl (run_assign (.tmp rfl)) ?_
       refine lnil ?_
       exact xw_round (i + 1, some (gY, cY, rY)) ⟨by simp only; omega, hn2, hY⟩ (by show allM.length - (i + 1) < allM.length - i; omega) (by repeat (first | exact Less.nil | refine Less.cons rfl ?_)) (by repeat (first | exact Pick.nil | (apply Pick.cons; focus (repeat (first | exact Del.here | apply Del.there)))))
      ·
       refine cw_exit ?_
       refine xw_then_exit ?_
       refine xw_then_exit ?_
       refine xw_in_exit ?_
       refine xw_then ?_
       refine cw_seq ?_
       refine cw_chain2 (σ := [0, 1, 2, 3, 4, 5, 6, 7, 8, 9]) [⟨0, [], [], [], 0⟩, ⟨0, [], [], [], 1⟩, ⟨0, [3], [], [], 3⟩, ⟨0, [], [], [], 3⟩, ⟨0, [], [], [], 3⟩, ⟨0, [], [], [], 3⟩, ⟨0, [], [], [], 51⟩, ⟨0, [2], [], [], 115⟩, ⟨0, [], [], [], 255⟩, ⟨0, [], [], [], 511⟩] [(0, _), (1, _), (2, _), (3, _)] (by kernel_rfl) (by kernel_rfl) rfl ?_
       refine .det (B := []) rfl rfl (.inl rfl) .nil .nil rfl (RunB.lr (run_move (.tmp rfl))) ?_
       refine .det (B := []) rfl rfl (.inl rfl) .nil .nil rfl (RunB.lr (run_move (.tmp rfl))) ?_
       refine .det (B := []) rfl rfl (.inr ⟨_, _, _, rfl, rfl, rfl⟩) (.cons rfl .nil) .nil rfl (RunB.lr (run_loadN (.tmp rfl) kd24 sz24 (by repeat (first | exact List.Mem.head _ | apply List.Mem.tail)) (by repeat (first | exact Sub.done | apply Sub.take | apply Sub.skip)))) ?_
       refine .det (B := []) rfl rfl (.inr ⟨_, _, _, rfl, rfl, rfl⟩) .nil .nil rfl (RunB.lr (run_move (.tmp rfl))) ?_
       refine .det (B := []) rfl rfl (.inr ⟨_, _, _, rfl, rfl, rfl⟩) .nil .nil rfl (RunB.lr (run_move (.tmp rfl))) ?_
       refine .det (B := []) rfl rfl (.inr ⟨_, _, _, rfl, rfl, rfl⟩) .nil .nil rfl (RunB.lr (run_move (.tmp rfl))) ?_
       refine .det (B := []) rfl rfl (.inr ⟨_, _, _, rfl, rfl, rfl⟩) .nil .nil rfl (RunB.lr (run_indexAddr (i := i) (off' := i * 2) (.tmp rfl) (.tmp rfl) el89 (by omega) (Nat.zero_add _))) ?_
       refine .det (B := []) rfl rfl (.inr ⟨_, _, _, rfl, rfl, rfl⟩) (.cons rfl .nil) .nil rfl (RunB.lr (run_loadN_own (l := sC s) (.tmp rfl) kd92 sz92 (by repeat (first | exact List.Mem.head _ | apply List.Mem.tail)) rfl (fun j' v hj' => hL.get (ssC_at allM i s hsi j' v hj')))) ?_
       refine .det (B := []) rfl rfl (.inr ⟨_, _, _, rfl, rfl, rfl⟩) .nil .nil rfl (RunB.lr (run_call1 cb103 (.cons (.tmp rfl) (.cons (.tmp rfl) (.cons (.tmp rfl) .nil))) (fun w hS => (fitsZK g pa pc K s hso hgm w (hp.kept hS.kept)).as (congrArg Value.bool hf)))) ?_
       refine .det (B := []) rfl rfl (.inl rfl) .nil .nil rfl (RunB.lr (by first | exact run_pick_true (.tmp rfl) (.tmp rfl) | exact run_pick_false (.tmp rfl) .const)) ?_
       refine chain_nil (ts := [0, 1, 2, 3]) (.cons rfl (.cons rfl (.cons rfl (.cons rfl .nil)))) (by decide) ?_
       refine xw_then ?_
       refine cw_cond_true (.tmp rfl) ?_
       have hokm : okM g K false N s = true := by simp [okM, hany, hf]
       have hst := here_yes hsi hokm
       refine cw_region ?_
       refine lstepB rfl rfl rfl (run_move (.tmp rfl)) ?_
       refine lstepB rfl rfl rfl (run_move (.tmp rfl)) ?_
       refine lstepB rfl rfl rfl (run_move (.tmp rfl)) ?_
       refine lstepB rfl rfl rfl (run_indexAddr (i := i) (off' := i * 2) (.tmp rfl) (.tmp rfl) el89 (by omega) (Nat.zero_add _)) ?_
       refine lstepB rfl rfl rfl (run_loadN_own (l := sC s) (.tmp rfl) kd92 sz92 (by repeat (first | exact List.Mem.head _ | apply List.Mem.tail)) rfl (fun j' v hj' => hL.get (ssC_at allM i s hsi j' v hj'))) ?_
       refine lstep rfl rfl rfl (LR.runs (lr_buildSlice_at (.cons (.tmp rfl) .nil) (fun w => bs89_1_0 w)) (by repeat (first | exact Pick.nil | (apply Pick.cons; focus (repeat (first | exact Del.here | apply Del.there))))) (by repeat (first | exact Dels.nil | (apply Dels.cons; focus (repeat (first | exact Del.here | apply Del.there)))))) ?_
       intro b65 _
       refine lstep rfl rfl rfl (LR.runs (R := [(b65, _)]) (A := [(gY, _)]) (lr_append_row ap89 (.tmp rfl) hY (.tmp rfl) (news := sC s) rfl rfl (by omega) (by unfold maxLen; omega) (news_own (by repeat (first | exact List.Mem.head _ | apply List.Mem.tail)))) (by repeat (first | exact Pick.nil | (apply Pick.cons; focus (repeat (first | exact Del.here | apply Del.there))))) (by repeat (first | exact Dels.nil | (apply Dels.cons; focus (repeat (first | exact Del.here | apply Del.there)))))) ?_
       intro ⟨gT, cgT, rgT⟩ hgT
       have hle : (hereL g K false N i).length + 1 = (hereL g K false N (i + 1)).length := by rw [hst, List.length_append]; rfl
       have hT : InRow 2 (hereL g K false N (i + 1)).length cgT rgT (ssC (hereL g K false N (i + 1))) := by rw [← hle, hst, ssC_append]; exact hgT
       dsimp only
       rw [(show Value.slice (some ⟨gT, 0, none⟩) ((hereL g K false N i).length + 1) cgT = Value.slice (some ⟨gT, 0, none⟩) (hereL g K false N (i + 1)).length cgT from congrArg (fun n => Value.slice (some ⟨gT, 0, none⟩) n cgT) hle)]
       refine lstepB rfl rfl rfl (run_assign (.tmp rfl)) ?_
       refine lnil ?_
       refine xw_in ?_
       refine xw_then ?_
       refine cw_region ?_
       refine lstepB rfl rfl rfl (run_move (.tmp rfl)) ?_
       refine lstepB rfl rfl rfl (run_add (.tmp rfl) .const (by first | exact IntWalk.i64_in _ (by omega) | exact rfl)) ?_
       refine lstepB rfl rfl rfl (run_assign (.tmp rfl)) ?_
       refine lnil ?_
       exact xw_round (i + 1, some (gT, cgT, rgT)) ⟨by simp only; omega, by simp only; omega, hT⟩ (by show allM.length - (i + 1) < allM.length - i; omega) (by repeat (first | exact Less.nil | refine Less.cons rfl ?_)) (by repeat (first | exact Pick.nil | (apply Pick.cons; focus (repeat (first | exact Del.here | apply Del.there)))))
   ·
    obtain rfl : i = allM.length := by omega
    rw [hall] at hn2 hY ⊢
    by_cases hmM : m = M
    ·
     refine cw_exit ?_
     refine xw_then_exit ?_
     refine xw_then_exit ?_
     refine xw_in_exit ?_
     refine xw_then ?_
     refine cw_seq ?_
     refine cw_region ?_
     refine lstepB rfl rfl rfl (run_move (.tmp rfl)) ?_
     refine lstepB rfl rfl rfl (run_assign (.tmp rfl)) ?_
     refine lnil ?_
     refine xw_then ?_
     refine cw_seq ?_
     refine cw_region ?_
     refine lstepB rfl rfl rfl (run_move (.tmp rfl)) ?_
     refine lstepB rfl rfl rfl (run_move (.tmp rfl)) ?_
     refine lstepB rfl rfl rfl (run_eql (p := true) (.tmp rfl) (.tmp rfl) (decide_eq_true (hKM hmM))) ?_
     refine lnil ?_
     refine xw_then ?_
     refine cw_cond_true (.tmp rfl) ?_
     subst hmM
     refine cw_seq ?_
     refine cw_region ?_
     refine lstepB rfl rfl rfl (run_move (.tmp rfl)) ?_
     refine lstepB rfl rfl rfl (run_assign (.tmp rfl)) ?_
     refine lnil ?_
     refine xw_then ?_
     refine cw_ret ?_
     refine xw_in_ret ?_
     refine xw_then_ret ?_
     refine xw_then_ret ?_
     refine xw_in_ret ?_
     refine xw_ret1 Try.results85 rfl (fun w hS => ⟨(some (gY, cY, rY)), ⟨hn2, hY⟩, rfl, hS.pick (by repeat (first | exact Pick.nil | (apply Pick.cons; focus (repeat (first | exact Del.here | apply Del.there)))))⟩)
    ·
     refine cw_exit ?_
     refine xw_then_exit ?_
     refine xw_then_exit ?_
     refine xw_in_exit ?_
     refine xw_then ?_
     refine cw_seq ?_
     refine cw_region ?_
     refine lstepB rfl rfl rfl (run_move (.tmp rfl)) ?_
     refine lstepB rfl rfl rfl (run_assign (.tmp rfl)) ?_
     refine lnil ?_
     refine xw_then ?_
     refine cw_seq ?_
     refine cw_region ?_
     refine lstepB rfl rfl rfl (run_move (.tmp rfl)) ?_
     refine lstepB rfl rfl rfl (run_move (.tmp rfl)) ?_
     refine lstepB rfl rfl rfl (run_eql (p := false) (.tmp rfl) (.tmp rfl) (decide_eq_false (hKN hmM))) ?_
     refine lnil ?_
     refine xw_then ?_
     refine cw_cond_false (.tmp rfl) ?_
     refine cw_skip ?_
     refine xw_in ?_
     refine xw_then ?_
     refine cw_region ?_
     refine lstepB rfl rfl rfl (run_move (.tmp rfl)) ?_
     refine lstepB rfl rfl rfl (run_move (.tmp rfl)) ?_
     refine lstepB rfl rfl rfl (run_add (c := fr + d * ((m + 1 : Nat) : Int)) (.tmp rfl) (.tmp rfl) (by rw [IntWalk.i64_in _ (by omega)]; exact hKn)) ?_
     refine lstepB rfl rfl rfl (run_assign (.tmp rfl)) ?_
     refine lnil ?_
     exact xw_round (m + 1, some (gY, cY, rY)) ⟨by simp only; omega, ⟨by simp only; omega, hn2, hY⟩⟩ (by show M + 1 - (m + 1) < M + 1 - m; omega) (by repeat (first | exact Less.nil | refine Less.cons rfl ?_)) (by repeat (first | exact Pick.nil | (apply Pick.cons; focus (repeat (first | exact Del.here | apply Del.there)))))
end Go.Proofs.Ytfmbnobkenngaaa
