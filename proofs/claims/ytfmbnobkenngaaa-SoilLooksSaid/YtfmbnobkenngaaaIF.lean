/- Soil: the document's own mixes of a place. -/
import Derived.Test.YtfmbnobkenngaaaIE
namespace Go.Proofs.Ytfmbnobkenngaaa
open Go.RowKit En

theorem alongNK (g : GroundD) (pa : Option Addr) (pc : Nat) (at' fr d : Int) (M : Nat) (hd : d = 1 ∨ d = -1) (hat : at' = fr + d * (M : Int)) (hB : ∀ m : Nat, m ≤ M → 0 ≤ fr + d * (m : Int) ∧ fr + d * (m : Int) ≤ 40) (hch : 0 ≤ g.change ∧ g.change ≤ 20) (hgm : g.pits.length ≤ 1000000) (he : (nowF g fr d (M + 1)) = []) (w : World) (hp : PitsAt w pa g.pits) : Gives Try.prog 85 [.agg [.int .i64 g.long, .int .i64 g.rise, .int .i64 g.change, .slice pa g.pits.length pc].toArray, .int .i64 at', .int .i64 fr, .int .i64 d] w (.slice none 0 0) := by
  refine .mk ((alongZK g pa pc at' fr d M hd hat hB hch hgm w hp).mono ?_)
  rintro e w' ⟨q, h1, h2, h3⟩
  cases q with
  | none => exact ⟨h2, h3.kept⟩
  | some q => dsimp only at h1; rw [he] at h1; exact absurd h1.1 (by simp)
theorem alongSK (g : GroundD) (pa : Option Addr) (pc : Nat) (at' fr d : Int) (M : Nat) (hd : d = 1 ∨ d = -1) (hat : at' = fr + d * (M : Int)) (hB : ∀ m : Nat, m ≤ M → 0 ≤ fr + d * (m : Int) ∧ fr + d * (m : Int) ≤ 40) (hch : 0 ≤ g.change ∧ g.change ≤ 20) (hgm : g.pits.length ≤ 1000000) (he : 0 < (nowF g fr d (M + 1)).length) (w : World) (hp : PitsAt w pa g.pits) : CallsF Try.prog 85 (([.agg [.int .i64 g.long, .int .i64 g.rise, .int .i64 g.change, .slice pa g.pits.length pc].toArray, .int .i64 at', .int .i64 fr, .int .i64 d] : List Value)).toArray w fun e w' => ∃ q : Nat × Nat × List Value, InRow 2 (nowF g fr d (M + 1)).length q.2.1 q.2.2 (ssC (nowF g fr d (M + 1))) ∧ e = .returned (.slice (some ⟨q.1, 0, none⟩) (nowF g fr d (M + 1)).length q.2.1) ∧ St w NoT [(q.1, Obj.cells q.2.2.toArray 92 (0, 0))] w' := by
  refine (alongZK g pa pc at' fr d M hd hat hB hch hgm w hp).mono ?_
  rintro e w' ⟨q, h1, h2, h3⟩
  cases q with
  | none => dsimp only at h1; rw [h1] at he; exact absurd he (by simp)
  | some q => exact ⟨q, h1.2, h2, h3⟩
def bothI (s : S3) (M : List S3) (j : Nat) : List S3 := ((M.take j).filter fun t => decide (s = t)).map fun _ => s
theorem bothI_yes {s t : S3} {M : List S3} {j : Nat} (h : M[j]? = some t) (e : s = t) : bothI s M (j + 1) = bothI s M j ++ [s] := by
  simp [bothI, List.take_add_one, h, e]
theorem bothI_no {s t : S3} {M : List S3} {j : Nat} (h : M[j]? = some t) (e : s ≠ t) : bothI s M (j + 1) = bothI s M j := by
  simp [bothI, List.take_add_one, h, e]
theorem bothI_len (s : S3) (M : List S3) (j : Nat) : (bothI s M j).length ≤ M.length := by
  rw [bothI, List.length_map]
  exact Nat.le_trans (List.length_filter_le ..) (by rw [List.length_take]; omega)
theorem bothF_succ {L M : List S3} {i : Nat} {s : S3} (h : L[i]? = some s) : bothF (L.take (i + 1)) M = bothF (L.take i) M ++ bothI s M M.length := by
  simp [bothF, List.take_add_one, h, List.flatMap_append, bothI]
theorem bothF_len (M : List S3) : ∀ L : List S3, (bothF L M).length ≤ L.length * M.length
  | [] => by simp [bothF]
  | s :: r => by
    have ih := bothF_len M r
    have e : bothF (s :: r) M = bothI s M M.length ++ bothF r M := by simp [bothF, bothI]
    rw [e, List.length_append, List.length_cons, Nat.add_mul]
    have := bothI_len s M M.length
    omega
theorem bothF_take (L M : List S3) (i : Nat) (h1 : L.length ≤ 231) (h2 : M.length ≤ 231) : (bothF (L.take i) M).length ≤ 53361 := by
  have h3 := bothF_len M (L.take i)
  have h4 : (L.take i).length ≤ 231 := by rw [List.length_take]; omega
  exact Nat.le_trans h3 (Nat.mul_le_mul h4 h2)
theorem bothF_nil (L : List S3) : bothF L [] = [] := by simp [bothF]
theorem ssC_len (l : List S3) : (ssC l).length = l.length * 2 := by
  induction l with
  | nil => rfl
  | cons a r ih => show (sC a ++ ssC r).length = _; rw [List.length_append, ih]; simp only [List.length_cons, List.length_nil]; omega
theorem inrow_some {sz n : Nat} {xs : List Value} (h : xs.length = n * sz) (hn : n ≤ maxLen) : ∃ q : Nat × Nat × List Value, InRow sz n q.2.1 q.2.2 xs := ⟨(0, n, xs), Nat.le_refl _, hn, h, by rw [← h]; exact List.take_length⟩
theorem mix_ne {s t : S3} (h1 : (0 ≤ s.a ∧ s.a ≤ 20) ∧ (0 ≤ s.b ∧ s.b ≤ 20) ∧ (0 ≤ s.c ∧ s.c ≤ 20) ∧ s.c = 20 - s.a - s.b) (h2 : (0 ≤ t.a ∧ t.a ≤ 20) ∧ (0 ≤ t.b ∧ t.b ≤ 20) ∧ (0 ≤ t.c ∧ t.c ≤ 20) ∧ t.c = 20 - t.a - t.b) (h : s ≠ t) : (decide (s.a = t.a) && decide (s.b = t.b)) = false := by
  by_cases e1 : s.a = t.a
  · by_cases e2 : s.b = t.b
    · exfalso; apply h
      obtain ⟨a, b, c⟩ := s
      obtain ⟨a', b', c'⟩ := t
      simp only at *
      obtain rfl := e1; obtain rfl := e2
      obtain rfl : c = c' := by omega
      rfl
    · simp [e2]
  · simp [e1]
set_option maxRecDepth 100000 in
set_option maxHeartbeats 4000000 in
theorem mixesAtK (g : GroundD) (pa : Option Addr) (pc : Nat) (vg : VG g) (n : Nat) (hn : n < placesN g) (w : World) (hp : PitsAt w pa g.pits) : CallsF Try.prog 51 (([.agg [.int .i64 g.long, .int .i64 g.rise, .int .i64 g.change, .slice pa g.pits.length pc].toArray, .int .i64 (n : Int)] : List Value)).toArray w fun e w' => ∃ q : Option (Nat × Nat × List Value), (match q with | none => (mixesAt g n) = [] | some q => 1 ≤ ((mixesAt g n)).length ∧ InRow 2 ((mixesAt g n)).length q.2.1 q.2.2 (ssC ((mixesAt g n)))) ∧ e = .returned (match q with | none => .slice none 0 0 | some q => .slice (some ⟨q.1, 0, none⟩) (mixesAt g n).length q.2.1) ∧ St w NoT (match q with | none => [] | some q => [(q.1, Obj.cells q.2.2.toArray 92 (0, 0))]) w' := by
 have hlong := vg.v.long
 have hch := vg.v.change
 have hgl := vg.v.len
 have hgm : g.pits.length ≤ 1000000 := by omega
 have hpl : (placesN g : Int) = g.long + 1 := by unfold placesN; omega
 have hB1 : ∀ m : Nat, m ≤ n → 0 ≤ (0 : Int) + 1 * (m : Int) ∧ (0 : Int) + 1 * (m : Int) ≤ 40 := fun m h => by omega
 have hB2 : ∀ m : Nat, m ≤ g.long.toNat - n → 0 ≤ g.long + -1 * (m : Int) ∧ g.long + -1 * (m : Int) ≤ 40 := fun m h => by omega
 have hA1 : (n : Int) = 0 + 1 * (n : Int) := by omega
 have hA2 : (n : Int) = g.long + -1 * ((g.long.toNat - n : Nat) : Int) := by omega
 have k1 := now_len g 0 1 (n + 1)
 have k2 := now_len g g.long (-1) (g.long.toNat - n + 1)
 have n1 : ∀ s, s ∈ nowF g 0 1 (n + 1) → okS s := fun s h => now_ok h
 have n2 : ∀ s, s ∈ nowF g g.long (-1) (g.long.toNat - n + 1) → okS s := fun s h => now_ok h
 have c1 := fun he w hp => alongNK g pa pc (n : Int) 0 1 n (.inl rfl) hA1 hB1 hch hgm he w hp
 have c2 := fun he w hp => alongNK g pa pc (n : Int) g.long (-1) (g.long.toNat - n) (.inr rfl) hA2 hB2 hch hgm he w hp
 have d1 := fun he w hp => alongSK g pa pc (n : Int) 0 1 n (.inl rfl) hA1 hB1 hch hgm he w hp
 have d2 := fun he w hp => alongSK g pa pc (n : Int) g.long (-1) (g.long.toNat - n) (.inr rfl) hA2 hB2 hch hgm he w hp
 have hres : mixesAt g n = bothF (nowF g 0 1 (n + 1)) (nowF g g.long (-1) (g.long.toNat - n + 1)) := rfl
 rw [hres]
 clear hres
 obtain ⟨L, hL⟩ : ∃ L, nowF g 0 1 (n + 1) = L := ⟨_, rfl⟩
 obtain ⟨M, hM⟩ : ∃ L, nowF g g.long (-1) (g.long.toNat - n + 1) = L := ⟨_, rfl⟩
 rw [hL] at c1 d1 k1 n1 ⊢
 rw [hM] at c2 d2 k2 n2 ⊢
 have hbt := fun i => bothF_take L M i k1 k2
 rcases Nat.eq_zero_or_pos L.length with hl0 | hl0
 all_goals rcases Nat.eq_zero_or_pos M.length with hm0 | hm0
 ·
  obtain rfl : L = [] := List.eq_nil_of_length_eq_zero hl0
  obtain rfl : M = [] := List.eq_nil_of_length_eq_zero hm0
  refine enter (n := 47) Try.func51 rfl rfl rfl (by repeat (first | exact Fill.nil | apply Fill.cons)) ?_
  refine cw_seq ?_
  refine cw_region ?_
  refine lstep rfl rfl rfl (run_boxN (.tmp rfl)) ?_
  intro b2 _
  refine lstepB rfl rfl rfl (run_assign .const) ?_
  refine lnil ?_
  refine xw_then ?_
  refine cw_seq ?_
  refine cw_chain2 (σ := [0, 1, 2, 3, 4, 5, 6, 7, 8, 9]) [⟨0, [0], [], [], 0⟩, ⟨0, [], [], [], 0⟩, ⟨0, [], [], [], 3⟩, ⟨0, [0], [], [], 0⟩, ⟨0, [], [], [], 0⟩, ⟨0, [], [], [], 0⟩, ⟨0, [0], [], [], 32⟩, ⟨0, [], [], [], 127⟩, ⟨0, [], [], [], 255⟩, ⟨0, [], [], [], 511⟩] [(0, _)] (by kernel_rfl) (by kernel_rfl) rfl ?_
  refine .det (B := []) rfl rfl (.inl rfl) (.cons rfl .nil) .nil rfl (RunB.lr (run_loadN (.tmp rfl) kd24 sz24 (by repeat (first | exact List.Mem.head _ | apply List.Mem.tail)) (by repeat (first | exact Sub.done | apply Sub.take | apply Sub.skip)))) ?_
  refine .det (B := []) rfl rfl (.inl rfl) .nil .nil rfl (RunB.lr (run_move (.tmp rfl))) ?_
  refine .det (B := []) rfl rfl (.inl rfl) .nil .nil rfl (RunB.lr (run_call1 cb85 (.cons (.tmp rfl) (.cons (.tmp rfl) (.cons .const (.cons .const .nil)))) (fun w hS => c1 rfl w (hp.kept hS.kept)))) ?_
  refine .det (B := []) rfl rfl (.inl rfl) (.cons rfl .nil) .nil rfl (RunB.lr (run_loadN (.tmp rfl) kd24 sz24 (by repeat (first | exact List.Mem.head _ | apply List.Mem.tail)) (by repeat (first | exact Sub.done | apply Sub.take | apply Sub.skip)))) ?_
  refine .det (B := []) rfl rfl (.inl rfl) .nil .nil rfl (RunB.lr (run_move (.tmp rfl))) ?_
  refine .det (B := []) rfl rfl (.inl rfl) .nil .nil rfl (RunB.lr (run_fieldAddr (.tmp rfl) fa24_0 (by first | exact Nat.zero_add _ | exact rfl))) ?_
  refine .det (B := []) rfl rfl (.inl rfl) (.cons rfl .nil) .nil rfl (RunB.lr (run_load1 (.tmp rfl) kd3 (by repeat (first | exact List.Mem.head _ | apply List.Mem.tail)) (by exact rfl))) ?_
  refine .det (B := []) rfl rfl (.inl rfl) .nil .nil rfl (RunB.lr (run_call1 cb85 (.cons (.tmp rfl) (.cons (.tmp rfl) (.cons (.tmp rfl) (.cons .const .nil)))) (fun w hS => c2 rfl w (hp.kept hS.kept)))) ?_
  refine .det (B := []) rfl rfl (.inl rfl) .nil .nil rfl (RunB.lr (run_assign (.tmp rfl))) ?_
  refine .det (B := []) rfl rfl (.inl rfl) .nil .nil rfl (RunB.lr (run_assign (.tmp rfl))) ?_
  refine chain_nil (ts := [0]) (.cons rfl .nil) (by decide) ?_
  skip
  refine xw_then ?_
  refine cw_seq ?_
  refine cw_region ?_
  refine lstepB rfl rfl rfl (run_assign .const) ?_
  refine lnil ?_
  refine xw_then ?_
  refine cw_seq ?_
  refine cw_seq ?_
  refine cw_region ?_
  refine lstepB rfl rfl rfl (run_assign .const) ?_
  refine lnil ?_
  refine xw_then ?_
  refine cw_block ?_
  refine cw_loop (S := Nat) (fun i => [(8, .int .i64 ((i : Nat) : Int))]) [(5, _), (6, _), (7, _)] (fun i => []) (fun i => i = 0) (fun i => 0 - i) 0 rfl (by repeat (first | exact Less.nil | refine Less.cons rfl ?_)) (by repeat (first | exact Pick.nil | (apply Pick.cons; focus (repeat (first | exact Del.here | apply Del.there))))) ?_
  intro i hi
  subst hi
  refine cw_seq ?_
  refine cw_seq ?_
  refine cw_region ?_
  refine lstepB rfl rfl rfl (run_move (.tmp rfl)) ?_
  refine lstepB rfl rfl rfl (run_move (.tmp rfl)) ?_
  refine lstepB rfl rfl rfl (run_len (.tmp rfl) sl89) ?_
  refine lstepB rfl rfl rfl (run_lss (p := false) (.tmp rfl) (.tmp rfl) (decide_eq_false (by omega))) ?_
  refine lnil ?_
  refine xw_then ?_
  refine cw_cond_false (.tmp rfl) ?_
  refine cw_exit ?_
  refine xw_then_exit ?_
  refine xw_then_exit ?_
  refine xw_in_exit ?_
  refine xw_then ?_
  refine cw_seq ?_
  refine cw_region ?_
  refine lstepB rfl rfl rfl (run_move (.tmp rfl)) ?_
  refine lstepB rfl rfl rfl (run_assign (.tmp rfl)) ?_
  refine lnil ?_
  refine xw_then ?_
  refine cw_ret ?_
  refine xw_ret1 Try.results51 rfl (fun w hS => ⟨none, rfl, rfl, hS.pick (by repeat (first | exact Pick.nil | (apply Pick.cons; focus (repeat (first | exact Del.here | apply Del.there)))))⟩)
 ·
  obtain rfl : L = [] := List.eq_nil_of_length_eq_zero hl0
  refine enter (n := 47) Try.func51 rfl rfl rfl (by repeat (first | exact Fill.nil | apply Fill.cons)) ?_
  refine cw_seq ?_
  refine cw_region ?_
  refine lstep rfl rfl rfl (run_boxN (.tmp rfl)) ?_
  intro b2 _
  refine lstepB rfl rfl rfl (run_assign .const) ?_
  refine lnil ?_
  refine xw_then ?_
  refine cw_seq ?_
  refine cw_chain2 (σ := [0, 1, 2, 3, 4, 5, 6, 7, 8, 9]) [⟨0, [0], [], [], 0⟩, ⟨0, [], [], [], 0⟩, ⟨0, [], [], [], 3⟩, ⟨0, [0], [], [], 0⟩, ⟨0, [], [], [], 0⟩, ⟨0, [], [], [], 0⟩, ⟨0, [0], [], [], 32⟩, ⟨1, [], [], [1], 127⟩, ⟨0, [], [], [], 255⟩, ⟨0, [], [], [], 511⟩] [(0, _)] (by kernel_rfl) (by kernel_rfl) rfl ?_
  refine .det (B := []) rfl rfl (.inl rfl) (.cons rfl .nil) .nil rfl (RunB.lr (run_loadN (.tmp rfl) kd24 sz24 (by repeat (first | exact List.Mem.head _ | apply List.Mem.tail)) (by repeat (first | exact Sub.done | apply Sub.take | apply Sub.skip)))) ?_
  refine .det (B := []) rfl rfl (.inl rfl) .nil .nil rfl (RunB.lr (run_move (.tmp rfl))) ?_
  refine .det (B := []) rfl rfl (.inl rfl) .nil .nil rfl (RunB.lr (run_call1 cb85 (.cons (.tmp rfl) (.cons (.tmp rfl) (.cons .const (.cons .const .nil)))) (fun w hS => c1 rfl w (hp.kept hS.kept)))) ?_
  refine .det (B := []) rfl rfl (.inl rfl) (.cons rfl .nil) .nil rfl (RunB.lr (run_loadN (.tmp rfl) kd24 sz24 (by repeat (first | exact List.Mem.head _ | apply List.Mem.tail)) (by repeat (first | exact Sub.done | apply Sub.take | apply Sub.skip)))) ?_
  refine .det (B := []) rfl rfl (.inl rfl) .nil .nil rfl (RunB.lr (run_move (.tmp rfl))) ?_
  refine .det (B := []) rfl rfl (.inl rfl) .nil .nil rfl (RunB.lr (run_fieldAddr (.tmp rfl) fa24_0 (by first | exact Nat.zero_add _ | exact rfl))) ?_
  refine .det (B := []) rfl rfl (.inl rfl) (.cons rfl .nil) .nil rfl (RunB.lr (run_load1 (.tmp rfl) kd3 (by repeat (first | exact List.Mem.head _ | apply List.Mem.tail)) (by exact rfl))) ?_
  refine .ext (B := fun q => [(1, (q.1, _))]) rfl rfl (.inl rfl) .nil .nil (fun _ => rfl) (inrow_some (sz := 2) (n := M.length) (ssC_len _) (by unfold maxLen; omega)) (lr_gives cb85 (.cons (.tmp rfl) (.cons (.tmp rfl) (.cons (.tmp rfl) (.cons .const .nil)))) (fun w2 hS => d2 hm0 w2 (hp.kept hS.kept))) ?_
  rintro ⟨gB, cgB, rgB⟩ hgB
  refine .det (B := []) rfl rfl (.inl rfl) .nil .nil rfl (RunB.lr (run_assign (.tmp rfl))) ?_
  refine .det (B := []) rfl rfl (.inl rfl) .nil .nil rfl (RunB.lr (run_assign (.tmp rfl))) ?_
  refine chain_nil (ts := [1, 0]) (.cons rfl (.cons rfl .nil)) (by decide) ?_
  dsimp only at hgB ⊢
  refine xw_then ?_
  refine cw_seq ?_
  refine cw_region ?_
  refine lstepB rfl rfl rfl (run_assign .const) ?_
  refine lnil ?_
  refine xw_then ?_
  refine cw_seq ?_
  refine cw_seq ?_
  refine cw_region ?_
  refine lstepB rfl rfl rfl (run_assign .const) ?_
  refine lnil ?_
  refine xw_then ?_
  refine cw_block ?_
  refine cw_loop (S := Nat) (fun i => [(8, .int .i64 ((i : Nat) : Int))]) [(5, _), (6, _), (7, _)] (fun i => [(gB, Obj.cells rgB.toArray 92 (0, 0))]) (fun i => i = 0) (fun i => 0 - i) 0 rfl (by repeat (first | exact Less.nil | refine Less.cons rfl ?_)) (by repeat (first | exact Pick.nil | (apply Pick.cons; focus (repeat (first | exact Del.here | apply Del.there))))) ?_
  intro i hi
  subst hi
  refine cw_seq ?_
  refine cw_seq ?_
  refine cw_region ?_
  refine lstepB rfl rfl rfl (run_move (.tmp rfl)) ?_
  refine lstepB rfl rfl rfl (run_move (.tmp rfl)) ?_
  refine lstepB rfl rfl rfl (run_len (.tmp rfl) sl89) ?_
  refine lstepB rfl rfl rfl (run_lss (p := false) (.tmp rfl) (.tmp rfl) (decide_eq_false (by omega))) ?_
  refine lnil ?_
  refine xw_then ?_
  refine cw_cond_false (.tmp rfl) ?_
  refine cw_exit ?_
  refine xw_then_exit ?_
  refine xw_then_exit ?_
  refine xw_in_exit ?_
  refine xw_then ?_
  refine cw_seq ?_
  refine cw_region ?_
  refine lstepB rfl rfl rfl (run_move (.tmp rfl)) ?_
  refine lstepB rfl rfl rfl (run_assign (.tmp rfl)) ?_
  refine lnil ?_
  refine xw_then ?_
  refine cw_ret ?_
  refine xw_ret1 Try.results51 rfl (fun w hS => ⟨none, rfl, rfl, hS.pick (by repeat (first | exact Pick.nil | (apply Pick.cons; focus (repeat (first | exact Del.here | apply Del.there)))))⟩)
 ·
  obtain rfl : M = [] := List.eq_nil_of_length_eq_zero hm0
  refine enter (n := 47) Try.func51 rfl rfl rfl (by repeat (first | exact Fill.nil | apply Fill.cons)) ?_
  refine cw_seq ?_
  refine cw_region ?_
  refine lstep rfl rfl rfl (run_boxN (.tmp rfl)) ?_
  intro b2 _
  refine lstepB rfl rfl rfl (run_assign .const) ?_
  refine lnil ?_
  refine xw_then ?_
  refine cw_seq ?_
  refine cw_chain2 (σ := [0, 1, 3, 4, 5, 6, 2, 7, 8, 9]) [⟨0, [0], [], [], 0⟩, ⟨0, [], [], [], 0⟩, ⟨1, [], [], [1], 3⟩, ⟨0, [0], [], [], 0⟩, ⟨0, [], [], [], 0⟩, ⟨0, [], [], [], 0⟩, ⟨0, [0], [], [], 32⟩, ⟨0, [], [], [], 127⟩, ⟨0, [], [], [], 255⟩, ⟨0, [], [], [], 511⟩] [(0, _)] (by kernel_rfl) (by kernel_rfl) rfl ?_
  refine .det (B := []) rfl rfl (.inl rfl) (.cons rfl .nil) .nil rfl (RunB.lr (run_loadN (.tmp rfl) kd24 sz24 (by repeat (first | exact List.Mem.head _ | apply List.Mem.tail)) (by repeat (first | exact Sub.done | apply Sub.take | apply Sub.skip)))) ?_
  refine .det (B := []) rfl rfl (.inl rfl) .nil .nil rfl (RunB.lr (run_move (.tmp rfl))) ?_
  refine .det (B := []) rfl rfl (.inl rfl) (.cons rfl .nil) .nil rfl (RunB.lr (run_loadN (.tmp rfl) kd24 sz24 (by repeat (first | exact List.Mem.head _ | apply List.Mem.tail)) (by repeat (first | exact Sub.done | apply Sub.take | apply Sub.skip)))) ?_
  refine .det (B := []) rfl rfl (.inl rfl) .nil .nil rfl (RunB.lr (run_move (.tmp rfl))) ?_
  refine .det (B := []) rfl rfl (.inl rfl) .nil .nil rfl (RunB.lr (run_fieldAddr (.tmp rfl) fa24_0 (by first | exact Nat.zero_add _ | exact rfl))) ?_
  refine .det (B := []) rfl rfl (.inl rfl) (.cons rfl .nil) .nil rfl (RunB.lr (run_load1 (.tmp rfl) kd3 (by repeat (first | exact List.Mem.head _ | apply List.Mem.tail)) (by exact rfl))) ?_
  refine .ext (B := fun q => [(1, (q.1, _))]) rfl rfl (.inl rfl) .nil .nil (fun _ => rfl) (inrow_some (sz := 2) (n := L.length) (ssC_len _) (by unfold maxLen; omega)) (lr_gives cb85 (.cons (.tmp rfl) (.cons (.tmp rfl) (.cons .const (.cons .const .nil)))) (fun w2 hS => d1 hl0 w2 (hp.kept hS.kept))) ?_
  rintro ⟨gA, cgA, rgA⟩ hgA
  refine .det (B := []) rfl rfl (.inl rfl) .nil .nil rfl (RunB.lr (run_call1 cb85 (.cons (.tmp rfl) (.cons (.tmp rfl) (.cons (.tmp rfl) (.cons .const .nil)))) (fun w hS => c2 rfl w (hp.kept hS.kept)))) ?_
  refine .det (B := []) rfl rfl (.inl rfl) .nil .nil rfl (RunB.lr (run_assign (.tmp rfl))) ?_
  refine .det (B := []) rfl rfl (.inl rfl) .nil .nil rfl (RunB.lr (run_assign (.tmp rfl))) ?_
  refine chain_nil (ts := [1, 0]) (.cons rfl (.cons rfl .nil)) (by decide) ?_
  dsimp only at hgA ⊢
  refine xw_then ?_
  refine cw_seq ?_
  refine cw_region ?_
  refine lstepB rfl rfl rfl (run_assign .const) ?_
  refine lnil ?_
  refine xw_then ?_
  refine cw_seq ?_
  refine cw_seq ?_
  refine cw_region ?_
  refine lstepB rfl rfl rfl (run_assign .const) ?_
  refine lnil ?_
  refine xw_then ?_
  refine cw_block ?_
  refine cw_loop (S := Nat × Option (Nat × Nat × List Value)) (fun s => [(8, .int .i64 ((s.1 : Nat) : Int)), (7, match s.2 with | none => .slice none 0 0 | some q => .slice (some ⟨q.1, 0, none⟩) (bothF (L.take s.1) []).length q.2.1)]) [(5, _), (6, _)] (fun s => (match s.2 with | none => [] | some q => [(q.1, Obj.cells q.2.2.toArray 92 (0, 0))]) ++ [(gA, Obj.cells rgA.toArray 92 (0, 0))]) (fun s => s.1 ≤ L.length ∧ (match s.2 with | none => (bothF (L.take s.1) []) = [] | some q => 1 ≤ ((bothF (L.take s.1) [])).length ∧ InRow 2 ((bothF (L.take s.1) [])).length q.2.1 q.2.2 (ssC ((bothF (L.take s.1) []))))) (fun s => L.length - s.1) (0, none) ⟨Nat.zero_le _, rfl⟩ (by repeat (first | exact Less.nil | refine Less.cons rfl ?_)) (by repeat (first | exact Pick.nil | (apply Pick.cons; focus (repeat (first | exact Del.here | apply Del.there))))) ?_
  intro s hs
  obtain ⟨i, o⟩ := s
  obtain ⟨hi, ho⟩ := hs
  dsimp only at hi ho ⊢
  cases o
  case none =>
   dsimp only at ho ⊢
   refine cw_seq ?_
   refine cw_seq ?_
   refine cw_region ?_
   refine lstepB rfl rfl rfl (run_move (.tmp rfl)) ?_
   refine lstepB rfl rfl rfl (run_move (.tmp rfl)) ?_
   refine lstepB rfl rfl rfl (run_len (.tmp rfl) sl89) ?_
   refine lstepB rfl rfl rfl (run_lss (.tmp rfl) (.tmp rfl) rfl) ?_
   refine lnil ?_
   refine xw_then ?_
   refine cw_cond_p (.tmp rfl) (fun hl => ?_) (fun hl => ?_)
   ·
    obtain ⟨s, hsi⟩ : ∃ s, L[i]? = some s := ⟨_, List.getElem?_eq_getElem (by omega)⟩
    refine cw_skip ?_
    refine xw_then ?_
    refine cw_seq ?_
    refine cw_block ?_
    refine cw_seq ?_
    refine cw_region ?_
    refine lstepB rfl rfl rfl (run_assign .const) ?_
    refine lnil ?_
    refine xw_then ?_
    refine cw_block ?_
    refine cw_loop (S := Nat) (fun j => [(9, .int .i64 ((j : Nat) : Int))]) [(5, _), (6, _), (7, _), (8, _)] (fun j => [(gA, Obj.cells rgA.toArray 92 (0, 0))]) (fun j => j = 0) (fun j => 0 - j) 0 rfl (by repeat (first | exact Less.nil | refine Less.cons rfl ?_)) (by repeat (first | exact Pick.nil | (apply Pick.cons; focus (repeat (first | exact Del.here | apply Del.there))))) ?_
    intro j hj
    subst hj
    refine cw_seq ?_
    refine cw_seq ?_
    refine cw_region ?_
    refine lstepB rfl rfl rfl (run_move (.tmp rfl)) ?_
    refine lstepB rfl rfl rfl (run_move (.tmp rfl)) ?_
    refine lstepB rfl rfl rfl (run_len (.tmp rfl) sl89) ?_
    refine lstepB rfl rfl rfl (run_lss (p := false) (.tmp rfl) (.tmp rfl) (decide_eq_false (by omega))) ?_
    refine lnil ?_
    refine xw_then ?_
    refine cw_cond_false (.tmp rfl) ?_
    refine cw_exit ?_
    refine xw_then_exit ?_
    refine xw_then_exit ?_
    refine xw_in_exit ?_
    refine xw_in ?_
    refine xw_then ?_
    refine cw_region ?_
    refine lstepB rfl rfl rfl (run_move (.tmp rfl)) ?_
    refine lstepB rfl rfl rfl (run_add (.tmp rfl) .const (by first | exact IntWalk.i64_in _ (by omega) | exact rfl)) ?_
    refine lstepB rfl rfl rfl (run_assign (.tmp rfl)) ?_
    refine lnil ?_
    exact xw_round (i + 1, none) ⟨by simp only; omega, bothF_nil _⟩ (by show L.length - (i + 1) < L.length - i; omega) (by repeat (first | exact Less.nil | refine Less.cons rfl ?_)) (by repeat (first | exact Pick.nil | (apply Pick.cons; focus (repeat (first | exact Del.here | apply Del.there)))))
   ·
    obtain rfl : i = L.length := by omega
    rw [List.take_length] at ho
    refine cw_exit ?_
    refine xw_then_exit ?_
    refine xw_then_exit ?_
    refine xw_in_exit ?_
    refine xw_then ?_
    refine cw_seq ?_
    refine cw_region ?_
    refine lstepB rfl rfl rfl (run_move (.tmp rfl)) ?_
    refine lstepB rfl rfl rfl (run_assign (.tmp rfl)) ?_
    refine lnil ?_
    refine xw_then ?_
    refine cw_ret ?_
    refine xw_ret1 Try.results51 rfl (fun w hS => ⟨none, ho, rfl, hS.pick (by repeat (first | exact Pick.nil | (apply Pick.cons; focus (repeat (first | exact Del.here | apply Del.there)))))⟩)
  case some q =>
   obtain ⟨gX, cX, rX⟩ := q
   dsimp only at ho ⊢
   obtain ⟨hn1, hX⟩ := ho
   rw [bothF_nil] at hn1; exact absurd hn1 (by simp)
 ·
  refine enter (n := 47) Try.func51 rfl rfl rfl (by repeat (first | exact Fill.nil | apply Fill.cons)) ?_
  refine cw_seq ?_
  refine cw_region ?_
  refine lstep rfl rfl rfl (run_boxN (.tmp rfl)) ?_
  intro b2 _
  refine lstepB rfl rfl rfl (run_assign .const) ?_
  refine lnil ?_
  refine xw_then ?_
  refine cw_seq ?_
  refine cw_chain2 (σ := [0, 1, 3, 4, 5, 6, 2, 7, 8, 9]) [⟨0, [0], [], [], 0⟩, ⟨0, [], [], [], 0⟩, ⟨1, [], [], [1], 3⟩, ⟨0, [0], [], [], 0⟩, ⟨0, [], [], [], 0⟩, ⟨0, [], [], [], 0⟩, ⟨0, [0], [], [], 32⟩, ⟨1, [], [], [2], 127⟩, ⟨0, [], [], [], 255⟩, ⟨0, [], [], [], 511⟩] [(0, _)] (by kernel_rfl) (by kernel_rfl) rfl ?_
  refine .det (B := []) rfl rfl (.inl rfl) (.cons rfl .nil) .nil rfl (RunB.lr (run_loadN (.tmp rfl) kd24 sz24 (by repeat (first | exact List.Mem.head _ | apply List.Mem.tail)) (by repeat (first | exact Sub.done | apply Sub.take | apply Sub.skip)))) ?_
  refine .det (B := []) rfl rfl (.inl rfl) .nil .nil rfl (RunB.lr (run_move (.tmp rfl))) ?_
  refine .det (B := []) rfl rfl (.inl rfl) (.cons rfl .nil) .nil rfl (RunB.lr (run_loadN (.tmp rfl) kd24 sz24 (by repeat (first | exact List.Mem.head _ | apply List.Mem.tail)) (by repeat (first | exact Sub.done | apply Sub.take | apply Sub.skip)))) ?_
  refine .det (B := []) rfl rfl (.inl rfl) .nil .nil rfl (RunB.lr (run_move (.tmp rfl))) ?_
  refine .det (B := []) rfl rfl (.inl rfl) .nil .nil rfl (RunB.lr (run_fieldAddr (.tmp rfl) fa24_0 (by first | exact Nat.zero_add _ | exact rfl))) ?_
  refine .det (B := []) rfl rfl (.inl rfl) (.cons rfl .nil) .nil rfl (RunB.lr (run_load1 (.tmp rfl) kd3 (by repeat (first | exact List.Mem.head _ | apply List.Mem.tail)) (by exact rfl))) ?_
  refine .ext (B := fun q => [(1, (q.1, _))]) rfl rfl (.inl rfl) .nil .nil (fun _ => rfl) (inrow_some (sz := 2) (n := L.length) (ssC_len _) (by unfold maxLen; omega)) (lr_gives cb85 (.cons (.tmp rfl) (.cons (.tmp rfl) (.cons .const (.cons .const .nil)))) (fun w2 hS => d1 hl0 w2 (hp.kept hS.kept))) ?_
  rintro ⟨gA, cgA, rgA⟩ hgA
  refine .ext (B := fun q => [(2, (q.1, _))]) rfl rfl (.inl rfl) .nil .nil (fun _ => rfl) (inrow_some (sz := 2) (n := M.length) (ssC_len _) (by unfold maxLen; omega)) (lr_gives cb85 (.cons (.tmp rfl) (.cons (.tmp rfl) (.cons (.tmp rfl) (.cons .const .nil)))) (fun w2 hS => d2 hm0 w2 (hp.kept hS.kept))) ?_
  rintro ⟨gB, cgB, rgB⟩ hgB
  refine .det (B := []) rfl rfl (.inl rfl) .nil .nil rfl (RunB.lr (run_assign (.tmp rfl))) ?_
  refine .det (B := []) rfl rfl (.inl rfl) .nil .nil rfl (RunB.lr (run_assign (.tmp rfl))) ?_
  refine chain_nil (ts := [2, 1, 0]) (.cons rfl (.cons rfl (.cons rfl .nil))) (by decide) ?_
  dsimp only at hgA hgB ⊢
  refine xw_then ?_
  refine cw_seq ?_
  refine cw_region ?_
  refine lstepB rfl rfl rfl (run_assign .const) ?_
  refine lnil ?_
  refine xw_then ?_
  refine cw_seq ?_
  refine cw_seq ?_
  refine cw_region ?_
  refine lstepB rfl rfl rfl (run_assign .const) ?_
  refine lnil ?_
  refine xw_then ?_
  refine cw_block ?_
  refine cw_loop (S := Nat × Option (Nat × Nat × List Value)) (fun s => [(8, .int .i64 ((s.1 : Nat) : Int)), (7, match s.2 with | none => .slice none 0 0 | some q => .slice (some ⟨q.1, 0, none⟩) (bothF (L.take s.1) M).length q.2.1)]) [(5, _), (6, _)] (fun s => (match s.2 with | none => [] | some q => [(q.1, Obj.cells q.2.2.toArray 92 (0, 0))]) ++ [(gB, Obj.cells rgB.toArray 92 (0, 0)), (gA, Obj.cells rgA.toArray 92 (0, 0))]) (fun s => s.1 ≤ L.length ∧ (match s.2 with | none => (bothF (L.take s.1) M) = [] | some q => 1 ≤ ((bothF (L.take s.1) M)).length ∧ InRow 2 ((bothF (L.take s.1) M)).length q.2.1 q.2.2 (ssC ((bothF (L.take s.1) M))))) (fun s => L.length - s.1) (0, none) ⟨Nat.zero_le _, rfl⟩ (by repeat (first | exact Less.nil | refine Less.cons rfl ?_)) (by repeat (first | exact Pick.nil | (apply Pick.cons; focus (repeat (first | exact Del.here | apply Del.there))))) ?_
  intro s hs
  obtain ⟨i, o⟩ := s
  obtain ⟨hi, ho⟩ := hs
  dsimp only at hi ho ⊢
  cases o
  case none =>
   dsimp only at ho ⊢
   refine cw_seq ?_
   refine cw_seq ?_
   refine cw_region ?_
   refine lstepB rfl rfl rfl (run_move (.tmp rfl)) ?_
   refine lstepB rfl rfl rfl (run_move (.tmp rfl)) ?_
   refine lstepB rfl rfl rfl (run_len (.tmp rfl) sl89) ?_
   refine lstepB rfl rfl rfl (run_lss (.tmp rfl) (.tmp rfl) rfl) ?_
   refine lnil ?_
   refine xw_then ?_
   refine cw_cond_p (.tmp rfl) (fun hl => ?_) (fun hl => ?_)
   ·
    obtain ⟨s, hsi⟩ : ∃ s, L[i]? = some s := ⟨_, List.getElem?_eq_getElem (by omega)⟩
    have hso := n1 s (List.mem_of_getElem? hsi)
    have hsc := bothF_succ (M := M) hsi
    refine cw_skip ?_
    refine xw_then ?_
    refine cw_seq ?_
    refine cw_block ?_
    refine cw_seq ?_
    refine cw_region ?_
    refine lstepB rfl rfl rfl (run_assign .const) ?_
    refine lnil ?_
    refine xw_then ?_
    refine cw_block ?_
    have hj0 : bothF (L.take i) M = bothF (L.take i) M ++ bothI s M 0 := by simp [bothI]
    rw [hj0] at ho
    refine cw_loop (S := Nat × Option (Nat × Nat × List Value)) (fun s_ => [(9, .int .i64 ((s_.1 : Nat) : Int)), (7, match s_.2 with | none => .slice none 0 0 | some q => .slice (some ⟨q.1, 0, none⟩) (bothF (L.take i) M ++ bothI s M s_.1).length q.2.1)]) [(5, _), (6, _), (8, _)] (fun s_ => (match s_.2 with | none => [] | some q => [(q.1, Obj.cells q.2.2.toArray 92 (0, 0))]) ++ [(gB, Obj.cells rgB.toArray 92 (0, 0)), (gA, Obj.cells rgA.toArray 92 (0, 0))]) (fun s_ => s_.1 ≤ M.length ∧ (match s_.2 with | none => (bothF (L.take i) M ++ bothI s M s_.1) = [] | some q => 1 ≤ ((bothF (L.take i) M ++ bothI s M s_.1)).length ∧ InRow 2 ((bothF (L.take i) M ++ bothI s M s_.1)).length q.2.1 q.2.2 (ssC ((bothF (L.take i) M ++ bothI s M s_.1))))) (fun s_ => M.length - s_.1) (0, none) ⟨Nat.zero_le _, ho⟩ (by repeat (first | exact Less.nil | refine Less.cons rfl ?_)) (by repeat (first | exact Pick.nil | (apply Pick.cons; focus (repeat (first | exact Del.here | apply Del.there))))) ?_
    intro s_ hs_
    obtain ⟨j, o⟩ := s_
    obtain ⟨hj, ho2⟩ := hs_
    dsimp only at hj ho2 ⊢
    cases o
    case none =>
     dsimp only at ho2 ⊢
     refine cw_seq ?_
     refine cw_seq ?_
     refine cw_region ?_
     refine lstepB rfl rfl rfl (run_move (.tmp rfl)) ?_
     refine lstepB rfl rfl rfl (run_move (.tmp rfl)) ?_
     refine lstepB rfl rfl rfl (run_len (.tmp rfl) sl89) ?_
     refine lstepB rfl rfl rfl (run_lss (.tmp rfl) (.tmp rfl) rfl) ?_
     refine lnil ?_
     refine xw_then ?_
     refine cw_cond_p (.tmp rfl) (fun hl2 => ?_) (fun hl2 => ?_)
     ·
      obtain ⟨t, htj⟩ : ∃ t, M[j]? = some t := ⟨_, List.getElem?_eq_getElem (by omega)⟩
      have hto := n2 t (List.mem_of_getElem? htj)
      have b1 := hbt i
      have b2 := bothI_len s M j
      have s1 := hso.small
      have s2 := hto.small
      have hlj : (bothF (L.take i) M ++ bothI s M j).length = (bothF (L.take i) M).length + (bothI s M j).length := List.length_append
      by_cases hst : s = t
      ·
       refine cw_skip ?_
       refine xw_then ?_
       refine cw_seq ?_
       refine cw_block ?_
       refine cw_seq ?_
       refine cw_chain2 (σ := [0, 1, 2, 3, 4, 5, 6, 7, 8]) [⟨0, [], [], [], 0⟩, ⟨0, [], [], [], 0⟩, ⟨0, [], [], [], 3⟩, ⟨0, [1], [], [], 7⟩, ⟨0, [], [], [], 0⟩, ⟨0, [], [], [], 0⟩, ⟨0, [], [], [], 48⟩, ⟨0, [0], [], [], 112⟩, ⟨0, [], [], [], 255⟩] [(0, _), (1, _)] (by kernel_rfl) (by kernel_rfl) rfl ?_
       refine .det (B := []) rfl rfl (.inl rfl) .nil .nil rfl (RunB.lr (run_move (.tmp rfl))) ?_
       refine .det (B := []) rfl rfl (.inl rfl) .nil .nil rfl (RunB.lr (run_move (.tmp rfl))) ?_
       refine .det (B := []) rfl rfl (.inl rfl) .nil .nil rfl (RunB.lr (run_indexAddr (i := i) (off' := i * 2) (.tmp rfl) (.tmp rfl) el89 (by omega) (Nat.zero_add _))) ?_
       refine .det (B := []) rfl rfl (.inl rfl) (.cons rfl .nil) .nil rfl (RunB.lr (run_loadN_own (l := sC s) (.tmp rfl) kd92 sz92 (by repeat (first | exact List.Mem.head _ | apply List.Mem.tail)) rfl (fun j' v hj' => hgA.get (ssC_at L i s hsi j' v hj')))) ?_
       refine .det (B := []) rfl rfl (.inl rfl) .nil .nil rfl (RunB.lr (run_move (.tmp rfl))) ?_
       refine .det (B := []) rfl rfl (.inl rfl) .nil .nil rfl (RunB.lr (run_move (.tmp rfl))) ?_
       refine .det (B := []) rfl rfl (.inl rfl) .nil .nil rfl (RunB.lr (run_indexAddr (i := j) (off' := j * 2) (.tmp rfl) (.tmp rfl) el89 (by omega) (Nat.zero_add _))) ?_
       refine .det (B := []) rfl rfl (.inl rfl) (.cons rfl .nil) .nil rfl (RunB.lr (run_loadN_own (l := sC t) (.tmp rfl) kd92 sz92 (by repeat (first | exact List.Mem.head _ | apply List.Mem.tail)) rfl (fun j' v hj' => hgB.get (ssC_at M j t htj j' v hj')))) ?_
       refine .det (B := []) rfl rfl (.inl rfl) .nil .nil rfl (RunB.lr (run_eql_agg (.tmp rfl) (.tmp rfl) eg92 (eql92 (r := true) (by rw [hst]; simp)))) ?_
       refine chain_nil (ts := [0, 1]) (.cons rfl (.cons rfl .nil)) (by decide) ?_
       refine xw_then ?_
       refine cw_cond_true (.tmp rfl) ?_
       have hbi := bothI_yes htj hst
       refine cw_region ?_
       refine lstepB rfl rfl rfl (run_move (.tmp rfl)) ?_
       refine lstepB rfl rfl rfl (run_move (.tmp rfl)) ?_
       refine lstepB rfl rfl rfl (run_move (.tmp rfl)) ?_
       refine lstepB rfl rfl rfl (run_indexAddr (i := i) (off' := i * 2) (.tmp rfl) (.tmp rfl) el89 (by omega) (Nat.zero_add _)) ?_
       refine lstepB rfl rfl rfl (run_loadN_own (l := sC s) (.tmp rfl) kd92 sz92 (by repeat (first | exact List.Mem.head _ | apply List.Mem.tail)) rfl (fun j' v hj' => hgA.get (ssC_at L i s hsi j' v hj'))) ?_
       refine lstep rfl rfl rfl (LR.runs (lr_buildSlice_at (.cons (.tmp rfl) .nil) (fun w => bs89_1_0 w)) (by repeat (first | exact Pick.nil | (apply Pick.cons; focus (repeat (first | exact Del.here | apply Del.there))))) (by repeat (first | exact Dels.nil | (apply Dels.cons; focus (repeat (first | exact Del.here | apply Del.there)))))) ?_
       intro b44 _
       refine lstep rfl rfl rfl (LR.runs (R := [(b44, _)]) (A := []) (lr_append_nil ap89 (.tmp rfl) (.tmp rfl) (news := sC s) rfl (by omega) (by omega) (by decide) (news_own (by repeat (first | exact List.Mem.head _ | apply List.Mem.tail)))) (by repeat (first | exact Pick.nil | (apply Pick.cons; focus (repeat (first | exact Del.here | apply Del.there))))) (by repeat (first | exact Dels.nil | (apply Dels.cons; focus (repeat (first | exact Del.here | apply Del.there)))))) ?_
       intro ⟨gT, cgT, rgT⟩ hgT
       have hle : 1 = (bothF (L.take i) M ++ bothI s M (j + 1)).length := by rw [hbi, ← List.append_assoc, List.length_append, ho2]; rfl
       have hT : InRow 2 (bothF (L.take i) M ++ bothI s M (j + 1)).length cgT rgT (ssC (bothF (L.take i) M ++ bothI s M (j + 1))) := by rw [← hle, hbi, ← List.append_assoc, ssC_append, ho2]; exact hgT
       dsimp only
       rw [(show Value.slice (some ⟨gT, 0, none⟩) 1 cgT = Value.slice (some ⟨gT, 0, none⟩) (bothF (L.take i) M ++ bothI s M (j + 1)).length cgT from congrArg (fun n => Value.slice (some ⟨gT, 0, none⟩) n cgT) hle)]
       refine lstepB rfl rfl rfl (run_assign (.tmp rfl)) ?_
       refine lnil ?_
       refine xw_in ?_
       refine xw_then ?_
       refine cw_region ?_
       refine lstepB rfl rfl rfl (run_move (.tmp rfl)) ?_
       refine lstepB rfl rfl rfl (run_add (.tmp rfl) .const (by first | exact IntWalk.i64_in _ (by omega) | exact rfl)) ?_
       refine lstepB rfl rfl rfl (run_assign (.tmp rfl)) ?_
       refine lnil ?_
       exact xw_round (j + 1, some (gT, cgT, rgT)) ⟨by simp only; omega, by simp only; omega, hT⟩ (by show M.length - (j + 1) < M.length - j; omega) (by repeat (first | exact Less.nil | refine Less.cons rfl ?_)) (by repeat (first | exact Pick.nil | (apply Pick.cons; focus (repeat (first | exact Del.here | apply Del.there)))))
      ·
       refine cw_skip ?_
       refine xw_then ?_
       refine cw_seq ?_
       refine cw_block ?_
       refine cw_seq ?_
       refine cw_chain2 (σ := [0, 1, 2, 3, 4, 5, 6, 7, 8]) [⟨0, [], [], [], 0⟩, ⟨0, [], [], [], 0⟩, ⟨0, [], [], [], 3⟩, ⟨0, [1], [], [], 7⟩, ⟨0, [], [], [], 0⟩, ⟨0, [], [], [], 0⟩, ⟨0, [], [], [], 48⟩, ⟨0, [0], [], [], 112⟩, ⟨0, [], [], [], 255⟩] [(0, _), (1, _)] (by kernel_rfl) (by kernel_rfl) rfl ?_
       refine .det (B := []) rfl rfl (.inl rfl) .nil .nil rfl (RunB.lr (run_move (.tmp rfl))) ?_
       refine .det (B := []) rfl rfl (.inl rfl) .nil .nil rfl (RunB.lr (run_move (.tmp rfl))) ?_
       refine .det (B := []) rfl rfl (.inl rfl) .nil .nil rfl (RunB.lr (run_indexAddr (i := i) (off' := i * 2) (.tmp rfl) (.tmp rfl) el89 (by omega) (Nat.zero_add _))) ?_
       refine .det (B := []) rfl rfl (.inl rfl) (.cons rfl .nil) .nil rfl (RunB.lr (run_loadN_own (l := sC s) (.tmp rfl) kd92 sz92 (by repeat (first | exact List.Mem.head _ | apply List.Mem.tail)) rfl (fun j' v hj' => hgA.get (ssC_at L i s hsi j' v hj')))) ?_
       refine .det (B := []) rfl rfl (.inl rfl) .nil .nil rfl (RunB.lr (run_move (.tmp rfl))) ?_
       refine .det (B := []) rfl rfl (.inl rfl) .nil .nil rfl (RunB.lr (run_move (.tmp rfl))) ?_
       refine .det (B := []) rfl rfl (.inl rfl) .nil .nil rfl (RunB.lr (run_indexAddr (i := j) (off' := j * 2) (.tmp rfl) (.tmp rfl) el89 (by omega) (Nat.zero_add _))) ?_
       refine .det (B := []) rfl rfl (.inl rfl) (.cons rfl .nil) .nil rfl (RunB.lr (run_loadN_own (l := sC t) (.tmp rfl) kd92 sz92 (by repeat (first | exact List.Mem.head _ | apply List.Mem.tail)) rfl (fun j' v hj' => hgB.get (ssC_at M j t htj j' v hj')))) ?_
       refine .det (B := []) rfl rfl (.inl rfl) .nil .nil rfl (RunB.lr (run_eql_agg (.tmp rfl) (.tmp rfl) eg92 (eql92 (r := false) (mix_ne s1 s2 hst)))) ?_
       refine chain_nil (ts := [0, 1]) (.cons rfl (.cons rfl .nil)) (by decide) ?_
       refine xw_then ?_
       refine cw_cond_false (.tmp rfl) ?_
       have hbi := bothI_no htj hst
       refine cw_skip ?_
       refine xw_in ?_
       refine xw_then ?_
       refine cw_region ?_
       refine lstepB rfl rfl rfl (run_move (.tmp rfl)) ?_
       refine lstepB rfl rfl rfl (run_add (.tmp rfl) .const (by first | exact IntWalk.i64_in _ (by omega) | exact rfl)) ?_
       refine lstepB rfl rfl rfl (run_assign (.tmp rfl)) ?_
       refine lnil ?_
       exact xw_round (j + 1, none) ⟨by simp only; omega, by simp only; rw [hbi]; exact ho2⟩ (by show M.length - (j + 1) < M.length - j; omega) (by repeat (first | exact Less.nil | refine Less.cons rfl ?_)) (by repeat (first | exact Pick.nil | (apply Pick.cons; focus (repeat (first | exact Del.here | apply Del.there)))))
     ·
      obtain rfl : j = M.length := by omega
      rw [← hsc] at ho2
      refine cw_exit ?_
      refine xw_then_exit ?_
      refine xw_then_exit ?_
      refine xw_in_exit ?_
      refine xw_in ?_
      refine xw_then ?_
      refine cw_region ?_
      refine lstepB rfl rfl rfl (run_move (.tmp rfl)) ?_
      refine lstepB rfl rfl rfl (run_add (.tmp rfl) .const (by first | exact IntWalk.i64_in _ (by omega) | exact rfl)) ?_
      refine lstepB rfl rfl rfl (run_assign (.tmp rfl)) ?_
      refine lnil ?_
      exact xw_round (i + 1, none) ⟨by simp only; omega, ho2⟩ (by show L.length - (i + 1) < L.length - i; omega) (by repeat (first | exact Less.nil | refine Less.cons rfl ?_)) (by repeat (first | exact Pick.nil | (apply Pick.cons; focus (repeat (first | exact Del.here | apply Del.there)))))
    case some q =>
     obtain ⟨gY, cY, rY⟩ := q
     dsimp only at ho2 ⊢
     obtain ⟨hn2, hY⟩ := ho2
     refine cw_seq ?_
     refine cw_seq ?_
     refine cw_region ?_
     refine lstepB rfl rfl rfl (run_move (.tmp rfl)) ?_
     refine lstepB rfl rfl rfl (run_move (.tmp rfl)) ?_
     refine lstepB rfl rfl rfl (run_len (.tmp rfl) sl89) ?_
     refine lstepB rfl rfl rfl (run_lss (.tmp rfl) (.tmp rfl) rfl) ?_
     refine lnil ?_
     refine xw_then ?_
     refine cw_cond_p (.tmp rfl) (fun hl2 => ?_) (fun hl2 => ?_)
     ·
      obtain ⟨t, htj⟩ : ∃ t, M[j]? = some t := ⟨_, List.getElem?_eq_getElem (by omega)⟩
      have hto := n2 t (List.mem_of_getElem? htj)
      have b1 := hbt i
      have b2 := bothI_len s M j
      have s1 := hso.small
      have s2 := hto.small
      have hlj : (bothF (L.take i) M ++ bothI s M j).length = (bothF (L.take i) M).length + (bothI s M j).length := List.length_append
      by_cases hst : s = t
      ·
       refine cw_skip ?_
       refine xw_then ?_
       refine cw_seq ?_
       refine cw_block ?_
       refine cw_seq ?_
       refine cw_chain2 (σ := [0, 1, 2, 3, 4, 5, 6, 7, 8]) [⟨0, [], [], [], 0⟩, ⟨0, [], [], [], 0⟩, ⟨0, [], [], [], 3⟩, ⟨0, [2], [], [], 7⟩, ⟨0, [], [], [], 0⟩, ⟨0, [], [], [], 0⟩, ⟨0, [], [], [], 48⟩, ⟨0, [1], [], [], 112⟩, ⟨0, [], [], [], 255⟩] [(0, _), (1, _), (2, _)] (by kernel_rfl) (by kernel_rfl) rfl ?_
       refine .det (B := []) rfl rfl (.inl rfl) .nil .nil rfl (RunB.lr (run_move (.tmp rfl))) ?_
       refine .det (B := []) rfl rfl (.inl rfl) .nil .nil rfl (RunB.lr (run_move (.tmp rfl))) ?_
       refine .det (B := []) rfl rfl (.inl rfl) .nil .nil rfl (RunB.lr (run_indexAddr (i := i) (off' := i * 2) (.tmp rfl) (.tmp rfl) el89 (by omega) (Nat.zero_add _))) ?_
       refine .det (B := []) rfl rfl (.inl rfl) (.cons rfl .nil) .nil rfl (RunB.lr (run_loadN_own (l := sC s) (.tmp rfl) kd92 sz92 (by repeat (first | exact List.Mem.head _ | apply List.Mem.tail)) rfl (fun j' v hj' => hgA.get (ssC_at L i s hsi j' v hj')))) ?_
       refine .det (B := []) rfl rfl (.inl rfl) .nil .nil rfl (RunB.lr (run_move (.tmp rfl))) ?_
       refine .det (B := []) rfl rfl (.inl rfl) .nil .nil rfl (RunB.lr (run_move (.tmp rfl))) ?_
       refine .det (B := []) rfl rfl (.inl rfl) .nil .nil rfl (RunB.lr (run_indexAddr (i := j) (off' := j * 2) (.tmp rfl) (.tmp rfl) el89 (by omega) (Nat.zero_add _))) ?_
       refine .det (B := []) rfl rfl (.inl rfl) (.cons rfl .nil) .nil rfl (RunB.lr (run_loadN_own (l := sC t) (.tmp rfl) kd92 sz92 (by repeat (first | exact List.Mem.head _ | apply List.Mem.tail)) rfl (fun j' v hj' => hgB.get (ssC_at M j t htj j' v hj')))) ?_
       refine .det (B := []) rfl rfl (.inl rfl) .nil .nil rfl (RunB.lr (run_eql_agg (.tmp rfl) (.tmp rfl) eg92 (eql92 (r := true) (by rw [hst]; simp)))) ?_
       refine chain_nil (ts := [0, 1, 2]) (.cons rfl (.cons rfl (.cons rfl .nil))) (by decide) ?_
       refine xw_then ?_
       refine cw_cond_true (.tmp rfl) ?_
       have hbi := bothI_yes htj hst
       refine cw_region ?_
       refine lstepB rfl rfl rfl (run_move (.tmp rfl)) ?_
       refine lstepB rfl rfl rfl (run_move (.tmp rfl)) ?_
       refine lstepB rfl rfl rfl (run_move (.tmp rfl)) ?_
       refine lstepB rfl rfl rfl (run_indexAddr (i := i) (off' := i * 2) (.tmp rfl) (.tmp rfl) el89 (by omega) (Nat.zero_add _)) ?_
       refine lstepB rfl rfl rfl (run_loadN_own (l := sC s) (.tmp rfl) kd92 sz92 (by repeat (first | exact List.Mem.head _ | apply List.Mem.tail)) rfl (fun j' v hj' => hgA.get (ssC_at L i s hsi j' v hj'))) ?_
       refine lstep rfl rfl rfl (LR.runs (lr_buildSlice_at (.cons (.tmp rfl) .nil) (fun w => bs89_1_0 w)) (by repeat (first | exact Pick.nil | (apply Pick.cons; focus (repeat (first | exact Del.here | apply Del.there))))) (by repeat (first | exact Dels.nil | (apply Dels.cons; focus (repeat (first | exact Del.here | apply Del.there)))))) ?_
       intro b44 _
       refine lstep rfl rfl rfl (LR.runs (R := [(b44, _)]) (A := [(gY, _)]) (lr_append_row ap89 (.tmp rfl) hY (.tmp rfl) (news := sC s) rfl rfl (by omega) (by unfold maxLen; omega) (news_own (by repeat (first | exact List.Mem.head _ | apply List.Mem.tail)))) (by repeat (first | exact Pick.nil | (apply Pick.cons; focus (repeat (first | exact Del.here | apply Del.there))))) (by repeat (first | exact Dels.nil | (apply Dels.cons; focus (repeat (first | exact Del.here | apply Del.there)))))) ?_
       intro ⟨gT, cgT, rgT⟩ hgT
       have hle : ((bothF (L.take i) M ++ bothI s M j).length + 1) = (bothF (L.take i) M ++ bothI s M (j + 1)).length := by rw [hbi, ← List.append_assoc]; exact (List.length_append (bs := [s])).symm
       have hT : InRow 2 (bothF (L.take i) M ++ bothI s M (j + 1)).length cgT rgT (ssC (bothF (L.take i) M ++ bothI s M (j + 1))) := by rw [← hle, hbi, ← List.append_assoc, ssC_append]; exact hgT
       dsimp only
       rw [(show Value.slice (some ⟨gT, 0, none⟩) ((bothF (L.take i) M ++ bothI s M j).length + 1) cgT = Value.slice (some ⟨gT, 0, none⟩) (bothF (L.take i) M ++ bothI s M (j + 1)).length cgT from congrArg (fun n => Value.slice (some ⟨gT, 0, none⟩) n cgT) hle)]
       refine lstepB rfl rfl rfl (run_assign (.tmp rfl)) ?_
       refine lnil ?_
       refine xw_in ?_
       refine xw_then ?_
       refine cw_region ?_
       refine lstepB rfl rfl rfl (run_move (.tmp rfl)) ?_
       refine lstepB rfl rfl rfl (run_add (.tmp rfl) .const (by first | exact IntWalk.i64_in _ (by omega) | exact rfl)) ?_
       refine lstepB rfl rfl rfl (run_assign (.tmp rfl)) ?_
       refine lnil ?_
       exact xw_round (j + 1, some (gT, cgT, rgT)) ⟨by simp only; omega, by simp only; omega, hT⟩ (by show M.length - (j + 1) < M.length - j; omega) (by repeat (first | exact Less.nil | refine Less.cons rfl ?_)) (by repeat (first | exact Pick.nil | (apply Pick.cons; focus (repeat (first | exact Del.here | apply Del.there)))))
      ·
       refine cw_skip ?_
       refine xw_then ?_
       refine cw_seq ?_
       refine cw_block ?_
       refine cw_seq ?_
       refine cw_chain2 (σ := [0, 1, 2, 3, 4, 5, 6, 7, 8]) [⟨0, [], [], [], 0⟩, ⟨0, [], [], [], 0⟩, ⟨0, [], [], [], 3⟩, ⟨0, [2], [], [], 7⟩, ⟨0, [], [], [], 0⟩, ⟨0, [], [], [], 0⟩, ⟨0, [], [], [], 48⟩, ⟨0, [1], [], [], 112⟩, ⟨0, [], [], [], 255⟩] [(0, _), (1, _), (2, _)] (by kernel_rfl) (by kernel_rfl) rfl ?_
       refine .det (B := []) rfl rfl (.inl rfl) .nil .nil rfl (RunB.lr (run_move (.tmp rfl))) ?_
       refine .det (B := []) rfl rfl (.inl rfl) .nil .nil rfl (RunB.lr (run_move (.tmp rfl))) ?_
       refine .det (B := []) rfl rfl (.inl rfl) .nil .nil rfl (RunB.lr (run_indexAddr (i := i) (off' := i * 2) (.tmp rfl) (.tmp rfl) el89 (by omega) (Nat.zero_add _))) ?_
       refine .det (B := []) rfl rfl (.inl rfl) (.cons rfl .nil) .nil rfl (RunB.lr (run_loadN_own (l := sC s) (.tmp rfl) kd92 sz92 (by repeat (first | exact List.Mem.head _ | apply List.Mem.tail)) rfl (fun j' v hj' => hgA.get (ssC_at L i s hsi j' v hj')))) ?_
       refine .det (B := []) rfl rfl (.inl rfl) .nil .nil rfl (RunB.lr (run_move (.tmp rfl))) ?_
       refine .det (B := []) rfl rfl (.inl rfl) .nil .nil rfl (RunB.lr (run_move (.tmp rfl))) ?_
       refine .det (B := []) rfl rfl (.inl rfl) .nil .nil rfl (RunB.lr (run_indexAddr (i := j) (off' := j * 2) (.tmp rfl) (.tmp rfl) el89 (by omega) (Nat.zero_add _))) ?_
       refine .det (B := []) rfl rfl (.inl rfl) (.cons rfl .nil) .nil rfl (RunB.lr (run_loadN_own (l := sC t) (.tmp rfl) kd92 sz92 (by repeat (first | exact List.Mem.head _ | apply List.Mem.tail)) rfl (fun j' v hj' => hgB.get (ssC_at M j t htj j' v hj')))) ?_
       refine .det (B := []) rfl rfl (.inl rfl) .nil .nil rfl (RunB.lr (run_eql_agg (.tmp rfl) (.tmp rfl) eg92 (eql92 (r := false) (mix_ne s1 s2 hst)))) ?_
       refine chain_nil (ts := [0, 1, 2]) (.cons rfl (.cons rfl (.cons rfl .nil))) (by decide) ?_
       refine xw_then ?_
       refine cw_cond_false (.tmp rfl) ?_
       have hbi := bothI_no htj hst
       rw [← hbi] at hn2 hY ⊢
       refine cw_skip ?_
       refine xw_in ?_
       refine xw_then ?_
       refine cw_region ?_
       refine lstepB rfl rfl rfl (run_move (.tmp rfl)) ?_
       refine lstepB rfl rfl rfl (run_add (.tmp rfl) .const (by first | exact IntWalk.i64_in _ (by omega) | exact rfl)) ?_
       refine lstepB rfl rfl rfl (run_assign (.tmp rfl)) ?_
       refine lnil ?_
       exact xw_round (j + 1, some (gY, cY, rY)) ⟨by simp only; omega, hn2, hY⟩ (by show M.length - (j + 1) < M.length - j; omega) (by repeat (first | exact Less.nil | refine Less.cons rfl ?_)) (by repeat (first | exact Pick.nil | (apply Pick.cons; focus (repeat (first | exact Del.here | apply Del.there)))))
     ·
      obtain rfl : j = M.length := by omega
      rw [← hsc] at hn2 hY ⊢
      refine cw_exit ?_
      refine xw_then_exit ?_
      refine xw_then_exit ?_
      refine xw_in_exit ?_
      refine xw_in ?_
      refine xw_then ?_
      refine cw_region ?_
      refine lstepB rfl rfl rfl (run_move (.tmp rfl)) ?_
      refine lstepB rfl rfl rfl (run_add (.tmp rfl) .const (by first | exact IntWalk.i64_in _ (by omega) | exact rfl)) ?_
      refine lstepB rfl rfl rfl (run_assign (.tmp rfl)) ?_
      refine lnil ?_
      exact xw_round (i + 1, some (gY, cY, rY)) ⟨by simp only; omega, hn2, hY⟩ (by show L.length - (i + 1) < L.length - i; omega) (by repeat (first | exact Less.nil | refine Less.cons rfl ?_)) (by repeat (first | exact Pick.nil | (apply Pick.cons; focus (repeat (first | exact Del.here | apply Del.there)))))
   ·
    obtain rfl : i = L.length := by omega
    rw [List.take_length] at ho
    refine cw_exit ?_
    refine xw_then_exit ?_
    refine xw_then_exit ?_
    refine xw_in_exit ?_
    refine xw_then ?_
    refine cw_seq ?_
    refine cw_region ?_
    refine lstepB rfl rfl rfl (run_move (.tmp rfl)) ?_
    refine lstepB rfl rfl rfl (run_assign (.tmp rfl)) ?_
    refine lnil ?_
    refine xw_then ?_
    refine cw_ret ?_
    refine xw_ret1 Try.results51 rfl (fun w hS => ⟨none, ho, rfl, hS.pick (by repeat (first | exact Pick.nil | (apply Pick.cons; focus (repeat (first | exact Del.here | apply Del.there)))))⟩)
  case some q =>
   obtain ⟨gX, cX, rX⟩ := q
   dsimp only at ho ⊢
   obtain ⟨hn1, hX⟩ := ho
   refine cw_seq ?_
   refine cw_seq ?_
   refine cw_region ?_
   refine lstepB rfl rfl rfl (run_move (.tmp rfl)) ?_
   refine lstepB rfl rfl rfl (run_move (.tmp rfl)) ?_
   refine lstepB rfl rfl rfl (run_len (.tmp rfl) sl89) ?_
   refine lstepB rfl rfl rfl (run_lss (.tmp rfl) (.tmp rfl) rfl) ?_
   refine lnil ?_
   refine xw_then ?_
   refine cw_cond_p (.tmp rfl) (fun hl => ?_) (fun hl => ?_)
   ·
    obtain ⟨s, hsi⟩ : ∃ s, L[i]? = some s := ⟨_, List.getElem?_eq_getElem (by omega)⟩
    have hso := n1 s (List.mem_of_getElem? hsi)
    have hsc := bothF_succ (M := M) hsi
    refine cw_skip ?_
    refine xw_then ?_
    refine cw_seq ?_
    refine cw_block ?_
    refine cw_seq ?_
    refine cw_region ?_
    refine lstepB rfl rfl rfl (run_assign .const) ?_
    refine lnil ?_
    refine xw_then ?_
    refine cw_block ?_
    have hj0 : bothF (L.take i) M = bothF (L.take i) M ++ bothI s M 0 := by simp [bothI]
    rw [hj0] at hn1 hX ⊢
    refine cw_loop (S := Nat × Option (Nat × Nat × List Value)) (fun s_ => [(9, .int .i64 ((s_.1 : Nat) : Int)), (7, match s_.2 with | none => .slice none 0 0 | some q => .slice (some ⟨q.1, 0, none⟩) (bothF (L.take i) M ++ bothI s M s_.1).length q.2.1)]) [(5, _), (6, _), (8, _)] (fun s_ => (match s_.2 with | none => [] | some q => [(q.1, Obj.cells q.2.2.toArray 92 (0, 0))]) ++ [(gB, Obj.cells rgB.toArray 92 (0, 0)), (gA, Obj.cells rgA.toArray 92 (0, 0))]) (fun s_ => s_.1 ≤ M.length ∧ (match s_.2 with | none => (bothF (L.take i) M ++ bothI s M s_.1) = [] | some q => 1 ≤ ((bothF (L.take i) M ++ bothI s M s_.1)).length ∧ InRow 2 ((bothF (L.take i) M ++ bothI s M s_.1)).length q.2.1 q.2.2 (ssC ((bothF (L.take i) M ++ bothI s M s_.1))))) (fun s_ => M.length - s_.1) (0, some (gX, cX, rX)) ⟨Nat.zero_le _, hn1, hX⟩ (by repeat (first | exact Less.nil | refine Less.cons rfl ?_)) (by repeat (first | exact Pick.nil | (apply Pick.cons; focus (repeat (first | exact Del.here | apply Del.there))))) ?_
    intro s_ hs_
    obtain ⟨j, o⟩ := s_
    obtain ⟨hj, ho2⟩ := hs_
    dsimp only at hj ho2 ⊢
    cases o
    case none =>
     dsimp only at ho2 ⊢
     refine cw_seq ?_
     refine cw_seq ?_
     refine cw_region ?_
     refine lstepB rfl rfl rfl (run_move (.tmp rfl)) ?_
     refine lstepB rfl rfl rfl (run_move (.tmp rfl)) ?_
     refine lstepB rfl rfl rfl (run_len (.tmp rfl) sl89) ?_
     refine lstepB rfl rfl rfl (run_lss (.tmp rfl) (.tmp rfl) rfl) ?_
     refine lnil ?_
     refine xw_then ?_
     refine cw_cond_p (.tmp rfl) (fun hl2 => ?_) (fun hl2 => ?_)
     ·
      obtain ⟨t, htj⟩ : ∃ t, M[j]? = some t := ⟨_, List.getElem?_eq_getElem (by omega)⟩
      have hto := n2 t (List.mem_of_getElem? htj)
      have b1 := hbt i
      have b2 := bothI_len s M j
      have s1 := hso.small
      have s2 := hto.small
      have hlj : (bothF (L.take i) M ++ bothI s M j).length = (bothF (L.take i) M).length + (bothI s M j).length := List.length_append
      by_cases hst : s = t
      ·
       refine cw_skip ?_
       refine xw_then ?_
       refine cw_seq ?_
       refine cw_block ?_
       refine cw_seq ?_
       refine cw_chain2 (σ := [0, 1, 2, 3, 4, 5, 6, 7, 8]) [⟨0, [], [], [], 0⟩, ⟨0, [], [], [], 0⟩, ⟨0, [], [], [], 3⟩, ⟨0, [1], [], [], 7⟩, ⟨0, [], [], [], 0⟩, ⟨0, [], [], [], 0⟩, ⟨0, [], [], [], 48⟩, ⟨0, [0], [], [], 112⟩, ⟨0, [], [], [], 255⟩] [(0, _), (1, _)] (by kernel_rfl) (by kernel_rfl) rfl ?_
       refine .det (B := []) rfl rfl (.inl rfl) .nil .nil rfl (RunB.lr (run_move (.tmp rfl))) ?_
       refine .det (B := []) rfl rfl (.inl rfl) .nil .nil rfl (RunB.lr (run_move (.tmp rfl))) ?_
       refine .det (B := []) rfl rfl (.inl rfl) .nil .nil rfl (RunB.lr (run_indexAddr (i := i) (off' := i * 2) (.tmp rfl) (.tmp rfl) el89 (by omega) (Nat.zero_add _))) ?_
       refine .det (B := []) rfl rfl (.inl rfl) (.cons rfl .nil) .nil rfl (RunB.lr (run_loadN_own (l := sC s) (.tmp rfl) kd92 sz92 (by repeat (first | exact List.Mem.head _ | apply List.Mem.tail)) rfl (fun j' v hj' => hgA.get (ssC_at L i s hsi j' v hj')))) ?_
       refine .det (B := []) rfl rfl (.inl rfl) .nil .nil rfl (RunB.lr (run_move (.tmp rfl))) ?_
       refine .det (B := []) rfl rfl (.inl rfl) .nil .nil rfl (RunB.lr (run_move (.tmp rfl))) ?_
       refine .det (B := []) rfl rfl (.inl rfl) .nil .nil rfl (RunB.lr (run_indexAddr (i := j) (off' := j * 2) (.tmp rfl) (.tmp rfl) el89 (by omega) (Nat.zero_add _))) ?_
       refine .det (B := []) rfl rfl (.inl rfl) (.cons rfl .nil) .nil rfl (RunB.lr (run_loadN_own (l := sC t) (.tmp rfl) kd92 sz92 (by repeat (first | exact List.Mem.head _ | apply List.Mem.tail)) rfl (fun j' v hj' => hgB.get (ssC_at M j t htj j' v hj')))) ?_
       refine .det (B := []) rfl rfl (.inl rfl) .nil .nil rfl (RunB.lr (run_eql_agg (.tmp rfl) (.tmp rfl) eg92 (eql92 (r := true) (by rw [hst]; simp)))) ?_
       refine chain_nil (ts := [0, 1]) (.cons rfl (.cons rfl .nil)) (by decide) ?_
       refine xw_then ?_
       refine cw_cond_true (.tmp rfl) ?_
       have hbi := bothI_yes htj hst
       refine cw_region ?_
       refine lstepB rfl rfl rfl (run_move (.tmp rfl)) ?_
       refine lstepB rfl rfl rfl (run_move (.tmp rfl)) ?_
       refine lstepB rfl rfl rfl (run_move (.tmp rfl)) ?_
       refine lstepB rfl rfl rfl (run_indexAddr (i := i) (off' := i * 2) (.tmp rfl) (.tmp rfl) el89 (by omega) (Nat.zero_add _)) ?_
       refine lstepB rfl rfl rfl (run_loadN_own (l := sC s) (.tmp rfl) kd92 sz92 (by repeat (first | exact List.Mem.head _ | apply List.Mem.tail)) rfl (fun j' v hj' => hgA.get (ssC_at L i s hsi j' v hj'))) ?_
       refine lstep rfl rfl rfl (LR.runs (lr_buildSlice_at (.cons (.tmp rfl) .nil) (fun w => bs89_1_0 w)) (by repeat (first | exact Pick.nil | (apply Pick.cons; focus (repeat (first | exact Del.here | apply Del.there))))) (by repeat (first | exact Dels.nil | (apply Dels.cons; focus (repeat (first | exact Del.here | apply Del.there)))))) ?_
       intro b44 _
       refine lstep rfl rfl rfl (LR.runs (R := [(b44, _)]) (A := []) (lr_append_nil ap89 (.tmp rfl) (.tmp rfl) (news := sC s) rfl (by omega) (by omega) (by decide) (news_own (by repeat (first | exact List.Mem.head _ | apply List.Mem.tail)))) (by repeat (first | exact Pick.nil | (apply Pick.cons; focus (repeat (first | exact Del.here | apply Del.there))))) (by repeat (first | exact Dels.nil | (apply Dels.cons; focus (repeat (first | exact Del.here | apply Del.there)))))) ?_
       intro ⟨gT, cgT, rgT⟩ hgT
       have hle : 1 = (bothF (L.take i) M ++ bothI s M (j + 1)).length := by rw [hbi, ← List.append_assoc, List.length_append, ho2]; rfl
       have hT : InRow 2 (bothF (L.take i) M ++ bothI s M (j + 1)).length cgT rgT (ssC (bothF (L.take i) M ++ bothI s M (j + 1))) := by rw [← hle, hbi, ← List.append_assoc, ssC_append, ho2]; exact hgT
       dsimp only
       rw [(show Value.slice (some ⟨gT, 0, none⟩) 1 cgT = Value.slice (some ⟨gT, 0, none⟩) (bothF (L.take i) M ++ bothI s M (j + 1)).length cgT from congrArg (fun n => Value.slice (some ⟨gT, 0, none⟩) n cgT) hle)]
       refine lstepB rfl rfl rfl (run_assign (.tmp rfl)) ?_
       refine lnil ?_
       refine xw_in ?_
       refine xw_then ?_
       refine cw_region ?_
       refine lstepB rfl rfl rfl (run_move (.tmp rfl)) ?_
       refine lstepB rfl rfl rfl (run_add (.tmp rfl) .const (by first | exact IntWalk.i64_in _ (by omega) | exact rfl)) ?_
       refine lstepB rfl rfl rfl (run_assign (.tmp rfl)) ?_
       refine lnil ?_
       exact xw_round (j + 1, some (gT, cgT, rgT)) ⟨by simp only; omega, by simp only; omega, hT⟩ (by show M.length - (j + 1) < M.length - j; omega) (by repeat (first | exact Less.nil | refine Less.cons rfl ?_)) (by repeat (first | exact Pick.nil | (apply Pick.cons; focus (repeat (first | exact Del.here | apply Del.there)))))
      ·
       refine cw_skip ?_
       refine xw_then ?_
       refine cw_seq ?_
       refine cw_block ?_
       refine cw_seq ?_
       refine cw_chain2 (σ := [0, 1, 2, 3, 4, 5, 6, 7, 8]) [⟨0, [], [], [], 0⟩, ⟨0, [], [], [], 0⟩, ⟨0, [], [], [], 3⟩, ⟨0, [1], [], [], 7⟩, ⟨0, [], [], [], 0⟩, ⟨0, [], [], [], 0⟩, ⟨0, [], [], [], 48⟩, ⟨0, [0], [], [], 112⟩, ⟨0, [], [], [], 255⟩] [(0, _), (1, _)] (by kernel_rfl) (by kernel_rfl) rfl ?_
       refine .det (B := []) rfl rfl (.inl rfl) .nil .nil rfl (RunB.lr (run_move (.tmp rfl))) ?_
       refine .det (B := []) rfl rfl (.inl rfl) .nil .nil rfl (RunB.lr (run_move (.tmp rfl))) ?_
       refine .det (B := []) rfl rfl (.inl rfl) .nil .nil rfl (RunB.lr (run_indexAddr (i := i) (off' := i * 2) (.tmp rfl) (.tmp rfl) el89 (by omega) (Nat.zero_add _))) ?_
       refine .det (B := []) rfl rfl (.inl rfl) (.cons rfl .nil) .nil rfl (RunB.lr (run_loadN_own (l := sC s) (.tmp rfl) kd92 sz92 (by repeat (first | exact List.Mem.head _ | apply List.Mem.tail)) rfl (fun j' v hj' => hgA.get (ssC_at L i s hsi j' v hj')))) ?_
       refine .det (B := []) rfl rfl (.inl rfl) .nil .nil rfl (RunB.lr (run_move (.tmp rfl))) ?_
       refine .det (B := []) rfl rfl (.inl rfl) .nil .nil rfl (RunB.lr (run_move (.tmp rfl))) ?_
       refine .det (B := []) rfl rfl (.inl rfl) .nil .nil rfl (RunB.lr (run_indexAddr (i := j) (off' := j * 2) (.tmp rfl) (.tmp rfl) el89 (by omega) (Nat.zero_add _))) ?_
       refine .det (B := []) rfl rfl (.inl rfl) (.cons rfl .nil) .nil rfl (RunB.lr (run_loadN_own (l := sC t) (.tmp rfl) kd92 sz92 (by repeat (first | exact List.Mem.head _ | apply List.Mem.tail)) rfl (fun j' v hj' => hgB.get (ssC_at M j t htj j' v hj')))) ?_
       refine .det (B := []) rfl rfl (.inl rfl) .nil .nil rfl (RunB.lr (run_eql_agg (.tmp rfl) (.tmp rfl) eg92 (eql92 (r := false) (mix_ne s1 s2 hst)))) ?_
       refine chain_nil (ts := [0, 1]) (.cons rfl (.cons rfl .nil)) (by decide) ?_
       refine xw_then ?_
       refine cw_cond_false (.tmp rfl) ?_
       have hbi := bothI_no htj hst
       refine cw_skip ?_
       refine xw_in ?_
       refine xw_then ?_
       refine cw_region ?_
       refine lstepB rfl rfl rfl (run_move (.tmp rfl)) ?_
       refine lstepB rfl rfl rfl (run_add (.tmp rfl) .const (by first | exact IntWalk.i64_in _ (by omega) | exact rfl)) ?_
       refine lstepB rfl rfl rfl (run_assign (.tmp rfl)) ?_
       refine lnil ?_
       exact xw_round (j + 1, none) ⟨by simp only; omega, by simp only; rw [hbi]; exact ho2⟩ (by show M.length - (j + 1) < M.length - j; omega) (by repeat (first | exact Less.nil | refine Less.cons rfl ?_)) (by repeat (first | exact Pick.nil | (apply Pick.cons; focus (repeat (first | exact Del.here | apply Del.there)))))
     ·
      obtain rfl : j = M.length := by omega
      rw [← hsc] at ho2
      refine cw_exit ?_
      refine xw_then_exit ?_
      refine xw_then_exit ?_
      refine xw_in_exit ?_
      refine xw_in ?_
      refine xw_then ?_
      refine cw_region ?_
      refine lstepB rfl rfl rfl (run_move (.tmp rfl)) ?_
      refine lstepB rfl rfl rfl (run_add (.tmp rfl) .const (by first | exact IntWalk.i64_in _ (by omega) | exact rfl)) ?_
      refine lstepB rfl rfl rfl (run_assign (.tmp rfl)) ?_
      refine lnil ?_
      exact xw_round (i + 1, none) ⟨by simp only; omega, ho2⟩ (by show L.length - (i + 1) < L.length - i; omega) (by repeat (first | exact Less.nil | refine Less.cons rfl ?_)) (by repeat (first | exact Pick.nil | (apply Pick.cons; focus (repeat (first | exact Del.here | apply Del.there)))))
    case some q =>
     obtain ⟨gY, cY, rY⟩ := q
     dsimp only at ho2 ⊢
     obtain ⟨hn2, hY⟩ := ho2
     refine cw_seq ?_
     refine cw_seq ?_
     refine cw_region ?_
     refine lstepB rfl rfl rfl (run_move (.tmp rfl)) ?_
     refine lstepB rfl rfl rfl (run_move (.tmp rfl)) ?_
     refine lstepB rfl rfl rfl (run_len (.tmp rfl) sl89) ?_
     refine lstepB rfl rfl rfl (run_lss (.tmp rfl) (.tmp rfl) rfl) ?_
     refine lnil ?_
     refine xw_then ?_
     refine cw_cond_p (.tmp rfl) (fun hl2 => ?_) (fun hl2 => ?_)
     ·
      obtain ⟨t, htj⟩ : ∃ t, M[j]? = some t := ⟨_, List.getElem?_eq_getElem (by omega)⟩
      have hto := n2 t (List.mem_of_getElem? htj)
      have b1 := hbt i
      have b2 := bothI_len s M j
      have s1 := hso.small
      have s2 := hto.small
      have hlj : (bothF (L.take i) M ++ bothI s M j).length = (bothF (L.take i) M).length + (bothI s M j).length := List.length_append
      by_cases hst : s = t
      ·
       refine cw_skip ?_
       refine xw_then ?_
       refine cw_seq ?_
       refine cw_block ?_
       refine cw_seq ?_
       refine cw_chain2 (σ := [0, 1, 2, 3, 4, 5, 6, 7, 8]) [⟨0, [], [], [], 0⟩, ⟨0, [], [], [], 0⟩, ⟨0, [], [], [], 3⟩, ⟨0, [2], [], [], 7⟩, ⟨0, [], [], [], 0⟩, ⟨0, [], [], [], 0⟩, ⟨0, [], [], [], 48⟩, ⟨0, [1], [], [], 112⟩, ⟨0, [], [], [], 255⟩] [(0, _), (1, _), (2, _)] (by kernel_rfl) (by kernel_rfl) rfl ?_
       refine .det (B := []) rfl rfl (.inl rfl) .nil .nil rfl (RunB.lr (run_move (.tmp rfl))) ?_
       refine .det (B := []) rfl rfl (.inl rfl) .nil .nil rfl (RunB.lr (run_move (.tmp rfl))) ?_
       refine .det (B := []) rfl rfl (.inl rfl) .nil .nil rfl (RunB.lr (run_indexAddr (i := i) (off' := i * 2) (.tmp rfl) (.tmp rfl) el89 (by omega) (Nat.zero_add _))) ?_
       refine .det (B := []) rfl rfl (.inl rfl) (.cons rfl .nil) .nil rfl (RunB.lr (run_loadN_own (l := sC s) (.tmp rfl) kd92 sz92 (by repeat (first | exact List.Mem.head _ | apply List.Mem.tail)) rfl (fun j' v hj' => hgA.get (ssC_at L i s hsi j' v hj')))) ?_
       refine .det (B := []) rfl rfl (.inl rfl) .nil .nil rfl (RunB.lr (run_move (.tmp rfl))) ?_
       refine .det (B := []) rfl rfl (.inl rfl) .nil .nil rfl (RunB.lr (run_move (.tmp rfl))) ?_
       refine .det (B := []) rfl rfl (.inl rfl) .nil .nil rfl (RunB.lr (run_indexAddr (i := j) (off' := j * 2) (.tmp rfl) (.tmp rfl) el89 (by omega) (Nat.zero_add _))) ?_
       refine .det (B := []) rfl rfl (.inl rfl) (.cons rfl .nil) .nil rfl (RunB.lr (run_loadN_own (l := sC t) (.tmp rfl) kd92 sz92 (by repeat (first | exact List.Mem.head _ | apply List.Mem.tail)) rfl (fun j' v hj' => hgB.get (ssC_at M j t htj j' v hj')))) ?_
       refine .det (B := []) rfl rfl (.inl rfl) .nil .nil rfl (RunB.lr (run_eql_agg (.tmp rfl) (.tmp rfl) eg92 (eql92 (r := true) (by rw [hst]; simp)))) ?_
       refine chain_nil (ts := [0, 1, 2]) (.cons rfl (.cons rfl (.cons rfl .nil))) (by decide) ?_
       refine xw_then ?_
       refine cw_cond_true (.tmp rfl) ?_
       have hbi := bothI_yes htj hst
       refine cw_region ?_
       refine lstepB rfl rfl rfl (run_move (.tmp rfl)) ?_
       refine lstepB rfl rfl rfl (run_move (.tmp rfl)) ?_
       refine lstepB rfl rfl rfl (run_move (.tmp rfl)) ?_
       refine lstepB rfl rfl rfl (run_indexAddr (i := i) (off' := i * 2) (.tmp rfl) (.tmp rfl) el89 (by omega) (Nat.zero_add _)) ?_
       refine lstepB rfl rfl rfl (run_loadN_own (l := sC s) (.tmp rfl) kd92 sz92 (by repeat (first | exact List.Mem.head _ | apply List.Mem.tail)) rfl (fun j' v hj' => hgA.get (ssC_at L i s hsi j' v hj'))) ?_
       refine lstep rfl rfl rfl (LR.runs (lr_buildSlice_at (.cons (.tmp rfl) .nil) (fun w => bs89_1_0 w)) (by repeat (first | exact Pick.nil | (apply Pick.cons; focus (repeat (first | exact Del.here | apply Del.there))))) (by repeat (first | exact Dels.nil | (apply Dels.cons; focus (repeat (first | exact Del.here | apply Del.there)))))) ?_
       intro b44 _
       refine lstep rfl rfl rfl (LR.runs (R := [(b44, _)]) (A := [(gY, _)]) (lr_append_row ap89 (.tmp rfl) hY (.tmp rfl) (news := sC s) rfl rfl (by omega) (by unfold maxLen; omega) (news_own (by repeat (first | exact List.Mem.head _ | apply List.Mem.tail)))) (by repeat (first | exact Pick.nil | (apply Pick.cons; focus (repeat (first | exact Del.here | apply Del.there))))) (by repeat (first | exact Dels.nil | (apply Dels.cons; focus (repeat (first | exact Del.here | apply Del.there)))))) ?_
       intro ⟨gT, cgT, rgT⟩ hgT
       have hle : ((bothF (L.take i) M ++ bothI s M j).length + 1) = (bothF (L.take i) M ++ bothI s M (j + 1)).length := by rw [hbi, ← List.append_assoc]; exact (List.length_append (bs := [s])).symm
       have hT : InRow 2 (bothF (L.take i) M ++ bothI s M (j + 1)).length cgT rgT (ssC (bothF (L.take i) M ++ bothI s M (j + 1))) := by rw [← hle, hbi, ← List.append_assoc, ssC_append]; exact hgT
       dsimp only
       rw [(show Value.slice (some ⟨gT, 0, none⟩) ((bothF (L.take i) M ++ bothI s M j).length + 1) cgT = Value.slice (some ⟨gT, 0, none⟩) (bothF (L.take i) M ++ bothI s M (j + 1)).length cgT from congrArg (fun n => Value.slice (some ⟨gT, 0, none⟩) n cgT) hle)]
       refine lstepB rfl rfl rfl (run_assign (.tmp rfl)) ?_
       refine lnil ?_
       refine xw_in ?_
       refine xw_then ?_
       refine cw_region ?_
       refine lstepB rfl rfl rfl (run_move (.tmp rfl)) ?_
       refine lstepB rfl rfl rfl (run_add (.tmp rfl) .const (by first | exact IntWalk.i64_in _ (by omega) | exact rfl)) ?_
       refine lstepB rfl rfl rfl (run_assign (.tmp rfl)) ?_
       refine lnil ?_
       exact xw_round (j + 1, some (gT, cgT, rgT)) ⟨by simp only; omega, by simp only; omega, hT⟩ (by show M.length - (j + 1) < M.length - j; omega) (by repeat (first | exact Less.nil | refine Less.cons rfl ?_)) (by repeat (first | exact Pick.nil | (apply Pick.cons; focus (repeat (first | exact Del.here | apply Del.there)))))
      ·
       refine cw_skip ?_
       refine xw_then ?_
       refine cw_seq ?_
       refine cw_block ?_
       refine cw_seq ?_
       refine cw_chain2 (σ := [0, 1, 2, 3, 4, 5, 6, 7, 8]) [⟨0, [], [], [], 0⟩, ⟨0, [], [], [], 0⟩, ⟨0, [], [], [], 3⟩, ⟨0, [2], [], [], 7⟩, ⟨0, [], [], [], 0⟩, ⟨0, [], [], [], 0⟩, ⟨0, [], [], [], 48⟩, ⟨0, [1], [], [], 112⟩, ⟨0, [], [], [], 255⟩] [(0, _), (1, _), (2, _)] (by kernel_rfl) (by kernel_rfl) rfl ?_
       refine .det (B := []) rfl rfl (.inl rfl) .nil .nil rfl (RunB.lr (run_move (.tmp rfl))) ?_
       refine .det (B := []) rfl rfl (.inl rfl) .nil .nil rfl (RunB.lr (run_move (.tmp rfl))) ?_
       refine .det (B := []) rfl rfl (.inl rfl) .nil .nil rfl (RunB.lr (run_indexAddr (i := i) (off' := i * 2) (.tmp rfl) (.tmp rfl) el89 (by omega) (Nat.zero_add _))) ?_
       refine .det (B := []) rfl rfl (.inl rfl) (.cons rfl .nil) .nil rfl (RunB.lr (run_loadN_own (l := sC s) (.tmp rfl) kd92 sz92 (by repeat (first | exact List.Mem.head _ | apply List.Mem.tail)) rfl (fun j' v hj' => hgA.get (ssC_at L i s hsi j' v hj')))) ?_
       refine .det (B := []) rfl rfl (.inl rfl) .nil .nil rfl (RunB.lr (run_move (.tmp rfl))) ?_
       refine .det (B := []) rfl rfl (.inl rfl) .nil .nil rfl (RunB.lr (run_move (.tmp rfl))) ?_
       refine .det (B := []) rfl rfl (.inl rfl) .nil .nil rfl (RunB.lr (run_indexAddr (i := j) (off' := j * 2) (.tmp rfl) (.tmp rfl) el89 (by omega) (Nat.zero_add _))) ?_
       refine .det (B := []) rfl rfl (.inl rfl) (.cons rfl .nil) .nil rfl (RunB.lr (run_loadN_own (l := sC t) (.tmp rfl) kd92 sz92 (by repeat (first | exact List.Mem.head _ | apply List.Mem.tail)) rfl (fun j' v hj' => hgB.get (ssC_at M j t htj j' v hj')))) ?_
       refine .det (B := []) rfl rfl (.inl rfl) .nil .nil rfl (RunB.lr (run_eql_agg (.tmp rfl) (.tmp rfl) eg92 (eql92 (r := false) (mix_ne s1 s2 hst)))) ?_
       refine chain_nil (ts := [0, 1, 2]) (.cons rfl (.cons rfl (.cons rfl .nil))) (by decide) ?_
       refine xw_then ?_
       refine cw_cond_false (.tmp rfl) ?_
       have hbi := bothI_no htj hst
       rw [← hbi] at hn2 hY ⊢
       refine cw_skip ?_
       refine xw_in ?_
       refine xw_then ?_
       refine cw_region ?_
       refine lstepB rfl rfl rfl (run_move (.tmp rfl)) ?_
       refine lstepB rfl rfl rfl (run_add (.tmp rfl) .const (by first | exact IntWalk.i64_in _ (by omega) | exact rfl)) ?_
       refine lstepB rfl rfl rfl (run_assign (.tmp rfl)) ?_
       refine lnil ?_
       exact xw_round (j + 1, some (gY, cY, rY)) ⟨by simp only; omega, hn2, hY⟩ (by show M.length - (j + 1) < M.length - j; omega) (by repeat (first | exact Less.nil | refine Less.cons rfl ?_)) (by repeat (first | exact Pick.nil | (apply Pick.cons; focus (repeat (first | exact Del.here | apply Del.there)))))
     ·
      obtain rfl : j = M.length := by omega
      rw [← hsc] at hn2 hY ⊢
      refine cw_exit ?_
      refine xw_then_exit ?_
      refine xw_then_exit ?_
      refine xw_in_exit ?_
      refine xw_in ?_
      refine xw_then ?_
      refine cw_region ?_
      refine lstepB rfl rfl rfl (run_move (.tmp rfl)) ?_
      refine lstepB rfl rfl rfl (run_add (.tmp rfl) .const (by first | exact IntWalk.i64_in _ (by omega) | exact rfl)) ?_
      refine lstepB rfl rfl rfl (run_assign (.tmp rfl)) ?_
      refine lnil ?_
      exact xw_round (i + 1, some (gY, cY, rY)) ⟨by simp only; omega, hn2, hY⟩ (by show L.length - (i + 1) < L.length - i; omega) (by repeat (first | exact Less.nil | refine Less.cons rfl ?_)) (by repeat (first | exact Pick.nil | (apply Pick.cons; focus (repeat (first | exact Del.here | apply Del.there)))))
   ·
    obtain rfl : i = L.length := by omega
    rw [List.take_length] at hn1 hX ⊢
    refine cw_exit ?_
    refine xw_then_exit ?_
    refine xw_then_exit ?_
    refine xw_in_exit ?_
    refine xw_then ?_
    refine cw_seq ?_
    refine cw_region ?_
    refine lstepB rfl rfl rfl (run_move (.tmp rfl)) ?_
    refine lstepB rfl rfl rfl (run_assign (.tmp rfl)) ?_
    refine lnil ?_
    refine xw_then ?_
    refine cw_ret ?_
    refine xw_ret1 Try.results51 rfl (fun w hS => ⟨some (gX, cX, rX), ⟨hn1, hX⟩, rfl, hS.pick (by repeat (first | exact Pick.nil | (apply Pick.cons; focus (repeat (first | exact Del.here | apply Del.there)))))⟩)
end Go.Proofs.Ytfmbnobkenngaaa
