/- Package soil: dug. -/
import Derived.Test.YtfmbnobkenngaaaGI
namespace Go.Proofs.Ytfmbnobkenngaaa
open Go.RowKit En

abbrev mixesC (l : List MixD) : List Value := l.flatMap mixC
theorem put_mix : ∀ (L : List MixD) (k : Nat) (q : MixD), k < L.length → Put (mixesC L) (k * 6) (mixC q) (mixesC (L.set k q))
  | [], k, q, h => by simp at h
  | a :: r, 0, q, _ => by simp only [mixesC, List.flatMap_cons, List.set_cons_zero, Nat.zero_mul]; exact .put (.put (.put (.put (.put (.put .done)))))
  | a :: r, k + 1, q, h => by
    have ih := put_mix r k q (by simpa using h)
    simp only [mixesC, List.flatMap_cons, List.set_cons_succ] at *
    rw [show (k + 1) * 6 = k * 6 + 1 + 1 + 1 + 1 + 1 + 1 by omega]
    exact .skip (.skip (.skip (.skip (.skip (.skip ih)))))
theorem mixes_zero (n : Nat) : List.replicate (n * 6) (Value.int .i64 0) = mixesC (List.replicate n noMix) := by
  induction n with
  | zero => rfl
  | succ n ih =>
    rw [show (n + 1) * 6 = 6 + n * 6 by omega, ← List.replicate_append_replicate, ih, List.replicate_succ]
    rfl
def placesN (g : GroundD) : Nat := (g.long + 1).toNat
def fillL (n k : Nat) : List MixD := List.replicate k anyMix ++ List.replicate (n - k) noMix
theorem fillL_succ {n k : Nat} (h : k < n) : (fillL n k).set k anyMix = fillL n (k + 1) := by
  unfold fillL
  rw [List.set_append_right _ _ (by simp)]
  obtain ⟨m, hm⟩ : ∃ m, n - k = m + 1 := ⟨n - k - 1, by omega⟩
  rw [hm, show n - (k + 1) = m by omega, List.length_replicate, Nat.sub_self, List.replicate_succ, List.set_cons_zero, List.replicate_succ']
  simp
theorem fillL_length {n k : Nat} (h : k ≤ n) : (fillL n k).length = n := by simp [fillL]; omega
def pitM (p : PitD) : MixD := ⟨p.sand, p.silt, p.clay⟩
def dugF (g : GroundD) (j : Nat) : List MixD := (g.pits.take j).foldl (fun L p => L.set p.at_.toNat (pitM p)) (List.replicate (placesN g) anyMix)
def dugL (g : GroundD) : List MixD := dugF g g.pits.length
theorem dugF_succ {g : GroundD} {j : Nat} {p : PitD} (h : g.pits[j]? = some p) : (dugF g j).set p.at_.toNat (pitM p) = dugF g (j + 1) := by
  simp [dugF, List.take_add_one, h, List.foldl_append]
theorem dugF_length (g : GroundD) (j : Nat) : (dugF g j).length = placesN g := by
  suffices h : ∀ (l : List PitD) (L : List MixD), (l.foldl (fun L p => L.set p.at_.toNat (pitM p)) L).length = L.length by rw [dugF, h, List.length_replicate]
  intro l
  induction l with
  | nil => intro L; rfl
  | cons a r ih => intro L; rw [List.foldl_cons, ih, List.length_set]
theorem dugF_zero (g : GroundD) : fillL (placesN g) (placesN g) = dugF g 0 := by simp [fillL, dugF]
theorem fillL_zero (n : Nat) : List.replicate n noMix = fillL n 0 := by simp [fillL]
theorem ap76 : appB Try.prog 76 85 6 48 = true := by kernel_rfl
set_option maxRecDepth 100000 in
set_option maxHeartbeats 4000000 in
theorem dugK (g : GroundD) (pa : Option Addr) (pc : Nat) (hs ms : Value) (w : World) (hg : ValidG g) (hp : PitsAt w pa g.pits) : CallsF Try.prog 97 (([.agg [.int .i64 g.long, .int .i64 g.rise, .int .i64 g.change, .slice pa g.pits.length pc, hs, ms].toArray] : List Value)).toArray w fun e w' => ∃ b, e = .returned (.slice (some ⟨b, 0, none⟩) (placesN g) (placesN g)) ∧ St w NoT [(b, Obj.cells (mixesC (dugL g)).toArray 85 (0, 0))] w' := by
  have hlen := hg.len
  have hlong := hg.long
  have hpl : placesN g ≤ 41 := by unfold placesN; omega
  refine enter (n := 43) Try.func97 rfl rfl rfl (by repeat (first | exact Fill.nil | apply Fill.cons)) ?_
  refine cw_seq ?_
  refine cw_region ?_
  refine lstep rfl rfl rfl (run_boxN (.tmp rfl)) ?_
  intro b1 _
  refine lstepB rfl rfl rfl (run_assign .const) ?_
  refine lnil ?_
  refine xw_then ?_
  refine cw_seq ?_
  refine cw_region ?_
  refine lstepB rfl rfl rfl (run_fieldAddr (.tmp rfl) fa78_0 (by first | exact Nat.zero_add _ | exact rfl)) ?_
  refine lstepB rfl rfl rfl (run_fieldAddr (.tmp rfl) fa24_0 (by first | exact Nat.zero_add _ | exact rfl)) ?_
  refine lstepB rfl rfl rfl (run_load1 (.tmp rfl) kd3 (by repeat (first | exact List.Mem.head _ | apply List.Mem.tail)) (by exact rfl)) ?_
  refine lstepB rfl rfl rfl (run_add (c := ((placesN g : Nat) : Int)) (.tmp rfl) .const (by unfold placesN; rw [IntWalk.i64_in _ (by omega)]; omega)) ?_
  refine lstep rfl rfl rfl (LR.runs (R := []) (A := []) (lr_make0 (n := placesN g) (z0 := .int .i64 0) ap76 zr85 (by omega) (.tmp rfl) (.tmp rfl) (by unfold placesN; omega) (by unfold placesN maxLen; omega)) (by repeat (first | exact Pick.nil | (apply Pick.cons; focus (repeat (first | exact Del.here | apply Del.there))))) (by repeat (first | exact Dels.nil | (apply Dels.cons; focus (repeat (first | exact Del.here | apply Del.there)))))) ?_
  intro gM _
  rw [mixes_zero, fillL_zero]
  refine lstepB rfl rfl rfl (run_assign (.tmp rfl)) ?_
  refine lnil ?_
  refine xw_then ?_
  refine cw_seq ?_
  refine cw_seq ?_
  refine cw_region ?_
  refine lstepB rfl rfl rfl (run_move (.tmp rfl)) ?_
  refine lstepB rfl rfl rfl (run_len (.tmp rfl) sl76) ?_
  refine lstepB rfl rfl rfl (run_move .const) ?_
  refine lnil ?_
  refine xw_then ?_
  refine cw_block ?_
  refine cw_loop (S := Nat) (fun k => [(14, .int .i64 (k : Int))]) [(1, _), (3, _), (13, _)] (fun k => [(gM, Obj.cells (mixesC (fillL (placesN g) k)).toArray 85 (0, 0)), (b1, Obj.cells [.int .i64 g.long, .int .i64 g.rise, .int .i64 g.change, .slice pa g.pits.length pc, hs, ms].toArray 78 (0, 0))]) (fun k => k ≤ placesN g) (fun k => placesN g - k) 0 (Nat.zero_le _) (by repeat (first | exact Less.nil | refine Less.cons rfl ?_)) (by repeat (first | exact Pick.nil | (apply Pick.cons; focus (repeat (first | exact Del.here | apply Del.there))))) ?_
  intro k hk
  refine cw_seq ?_
  refine cw_region ?_
  refine lstepB rfl rfl rfl (run_lss (.tmp rfl) (.tmp rfl) (by first | exact decide_eq_true (by omega) | exact decide_eq_false (by omega) | exact rfl)) ?_
  refine lnil ?_
  refine xw_then ?_
  refine cw_seq ?_
  refine cw_cond_p (.tmp rfl) (fun hl => ?_) (fun hl => ?_)
  ·
    refine cw_skip ?_
    refine xw_then ?_
    refine cw_seq ?_
    refine cw_block ?_
    refine cw_seq ?_
    refine cw_region ?_
    refine lstepB rfl rfl rfl (run_move (.tmp rfl)) ?_
    refine lstepB rfl rfl rfl (run_assign (.tmp rfl)) ?_
    refine lnil ?_
    refine xw_then ?_
    refine cw_region ?_
    refine lstepB rfl rfl rfl (run_move (.tmp rfl)) ?_
    refine lstepB rfl rfl rfl (run_move (.tmp rfl)) ?_
    refine lstepB rfl rfl rfl (run_call1 cb98 .nil (fun w _ => anySoilK w)) ?_
    refine lstepB rfl rfl rfl (run_indexAddr (off' := k * 6) (.tmp rfl) (.tmp rfl) el76 (by omega) (Nat.zero_add _)) ?_
    refine lstep0 rfl rfl (run_storeN (l := mixC anyMix) (cs' := mixesC (fillL (placesN g) (k + 1))) (.tmp rfl) (.tmp rfl) rfl sz85 rfl (by repeat (first | exact Upd.here | apply Upd.there)) (fillL_succ (n := placesN g) (k := k) (by omega) ▸ put_mix _ _ _ (by rw [fillL_length hk]; omega))) ?_
    refine lnil ?_
    refine xw_in ?_
    refine xw_then ?_
    refine cw_region ?_
    refine lstepB rfl rfl rfl (run_add (.tmp rfl) .const (by first | exact IntWalk.i64_in _ (by omega) | exact rfl)) ?_
    refine lstepB rfl rfl rfl (run_move (.tmp rfl)) ?_
    refine lnil ?_
    exact xw_round (k + 1) (by show k + 1 ≤ _; omega) (by show placesN g - (k + 1) < placesN g - k; omega) (by repeat (first | exact Less.nil | refine Less.cons rfl ?_)) (by repeat (first | exact Pick.nil | (apply Pick.cons; focus (repeat (first | exact Del.here | apply Del.there)))))
  ·
    obtain rfl : k = placesN g := by omega
    rw [dugF_zero]
    refine cw_exit ?_
    refine xw_then_exit ?_
    refine xw_then_exit ?_
    refine xw_in_exit ?_
    refine xw_then ?_
    refine cw_seq ?_
    refine cw_seq ?_
    refine cw_region ?_
    refine lstepB rfl rfl rfl (run_fieldAddr (.tmp rfl) fa78_0 (by first | exact Nat.zero_add _ | exact rfl)) ?_
    refine lstepB rfl rfl rfl (run_fieldAddr (.tmp rfl) fa24_3 (by first | exact Nat.zero_add _ | exact rfl)) ?_
    refine lstepB rfl rfl rfl (run_load1 (.tmp rfl) kd22 (by repeat (first | exact List.Mem.head _ | apply List.Mem.tail)) (by exact rfl)) ?_
    refine lstepB rfl rfl rfl (run_len (.tmp rfl) sl22) ?_
    refine lstepB rfl rfl rfl (run_move .const) ?_
    refine lnil ?_
    refine xw_then ?_
    refine cw_block ?_
    refine cw_loop (S := Nat) (fun j => [(26, .int .i64 (j : Int))]) [(1, _), (3, _), (24, _), (25, _)] (fun j => [(gM, Obj.cells (mixesC (dugF g j)).toArray 85 (0, 0)), (b1, Obj.cells [.int .i64 g.long, .int .i64 g.rise, .int .i64 g.change, .slice pa g.pits.length pc, hs, ms].toArray 78 (0, 0))]) (fun j => j ≤ g.pits.length) (fun j => g.pits.length - j) 0 (Nat.zero_le _) (by repeat (first | exact Less.nil | refine Less.cons rfl ?_)) (by repeat (first | exact Pick.nil | (apply Pick.cons; focus (repeat (first | exact Del.here | apply Del.there))))) ?_
    intro j hj
    refine cw_seq ?_
    refine cw_region ?_
    refine lstepB rfl rfl rfl (run_lss (.tmp rfl) (.tmp rfl) (by first | exact decide_eq_true (by omega) | exact decide_eq_false (by omega) | exact rfl)) ?_
    refine lnil ?_
    refine xw_then ?_
    refine cw_seq ?_
    refine cw_cond_p (.tmp rfl) (fun hl2 => ?_) (fun hl2 => ?_)
    ·
      obtain ⟨p, hpk⟩ : ∃ p, g.pits[j]? = some p := ⟨_, List.getElem?_eq_getElem (by omega)⟩
      obtain ⟨b, o, rfl, hb, hc⟩ := hp.pit (by omega)
      obtain ⟨⟨hp1, hp2⟩, _⟩ := hg.pits p (List.mem_of_getElem? hpk)
      have hat : p.at_.toNat < placesN g := by unfold placesN; omega
      refine cw_skip ?_
      refine xw_then ?_
      refine cw_seq ?_
      refine cw_block ?_
      refine cw_seq ?_
      refine cw_region ?_
      refine lstepB rfl rfl rfl (run_indexAddr (off' := o + j * 9) (.tmp rfl) (.tmp rfl) el22 (by omega) rfl) ?_
      refine lstepB rfl rfl rfl (run_loadN_at (l := [.int .i64 p.at_, .int .i64 p.hard.lo, .int .i64 p.hard.hi, .int .i64 p.sand.lo, .int .i64 p.sand.hi, .int .i64 p.silt.lo, .int .i64 p.silt.hi, .int .i64 p.clay.lo, .int .i64 p.clay.hi]) (.tmp rfl) kd55 sz55 rfl (fun w' hS j' v hj => hS.old_cell (fun h => h) (hc j p hpk j' v hj))) ?_
      refine lstep rfl rfl rfl (run_alloc zr55) ?_
      intro b6 _
      refine lstep0 rfl rfl (run_storeN (.tmp rfl) (.tmp rfl) rfl sz55 rfl (by repeat (first | exact Upd.here | apply Upd.there)) (by repeat (first | exact Put.done | apply Put.put | apply Put.skip))) ?_
      refine lnil ?_
      refine xw_then ?_
      refine cw_region ?_
      refine lstepB rfl rfl rfl (run_move (.tmp rfl)) ?_
      refine lstepB rfl rfl rfl (run_fieldAddr (.tmp rfl) fa55_0 (by first | exact Nat.zero_add _ | exact rfl)) ?_
      refine lstepB rfl rfl rfl (run_load1 (v := .int .i64 ((p.at_.toNat : Nat) : Int)) (.tmp rfl) kd3 (by repeat (first | exact List.Mem.head _ | apply List.Mem.tail)) (by rw [Int.toNat_of_nonneg hp1]; rfl)) ?_
      refine lstepB rfl rfl rfl (run_fieldAddr (.tmp rfl) fa55_2 (by first | exact Nat.zero_add _ | exact rfl)) ?_
      refine lstepB rfl rfl rfl (run_loadN (.tmp rfl) kd28 sz28 (by repeat (first | exact List.Mem.head _ | apply List.Mem.tail)) (by repeat (first | exact Sub.done | apply Sub.take | apply Sub.skip))) ?_
      refine lstepB rfl rfl rfl (run_fieldAddr (.tmp rfl) fa55_3 (by first | exact Nat.zero_add _ | exact rfl)) ?_
      refine lstepB rfl rfl rfl (run_loadN (.tmp rfl) kd28 sz28 (by repeat (first | exact List.Mem.head _ | apply List.Mem.tail)) (by repeat (first | exact Sub.done | apply Sub.take | apply Sub.skip))) ?_
      refine lstepB rfl rfl rfl (run_fieldAddr (.tmp rfl) fa55_4 (by first | exact Nat.zero_add _ | exact rfl)) ?_
      refine lstepB rfl rfl rfl (run_loadN (.tmp rfl) kd28 sz28 (by repeat (first | exact List.Mem.head _ | apply List.Mem.tail)) (by repeat (first | exact Sub.done | apply Sub.take | apply Sub.skip))) ?_
      refine lstepB rfl rfl rfl (run_build_at (.cons (.tmp rfl) (.cons (.tmp rfl) (.cons (.tmp rfl) .nil))) (fun w => bd85_0_1_2 w)) ?_
      refine lstepB rfl rfl rfl (run_indexAddr (i := p.at_.toNat) (off' := p.at_.toNat * 6) (.tmp rfl) (.tmp rfl) el76 (by omega) (Nat.zero_add _)) ?_
      refine lstep0 rfl rfl (run_storeN (l := mixC (pitM p)) (cs' := mixesC (dugF g (j + 1))) (.tmp rfl) (.tmp rfl) rfl sz85 rfl (by repeat (first | exact Upd.here | apply Upd.there)) (dugF_succ hpk ▸ put_mix _ _ _ (by rw [dugF_length]; exact hat))) ?_
      refine lnil ?_
      refine xw_in ?_
      refine xw_then ?_
      refine cw_region ?_
      refine lstepB rfl rfl rfl (run_add (.tmp rfl) .const (by first | exact IntWalk.i64_in _ (by omega) | exact rfl)) ?_
      refine lstepB rfl rfl rfl (run_move (.tmp rfl)) ?_
      refine lnil ?_
      exact xw_round (j + 1) (by show j + 1 ≤ _; omega) (by show g.pits.length - (j + 1) < g.pits.length - j; omega) (by repeat (first | exact Less.nil | refine Less.cons rfl ?_)) (by repeat (first | exact Pick.nil | (apply Pick.cons; focus (repeat (first | exact Del.here | apply Del.there)))))
    ·
      obtain rfl : j = g.pits.length := by omega
      refine cw_exit ?_
      refine xw_then_exit ?_
      refine xw_then_exit ?_
      refine xw_in_exit ?_
      refine xw_then ?_
      refine cw_seq ?_
      refine cw_region ?_
      refine lstepB rfl rfl rfl (run_move (.tmp rfl)) ?_
      refine lstepB rfl rfl rfl (run_assign (.tmp rfl)) ?_
      refine lnil ?_
      refine xw_then ?_
      refine cw_ret ?_
      refine xw_ret1 Try.results97 rfl (fun w hS => ⟨gM, rfl, hS.pick (by repeat (first | exact Pick.nil | (apply Pick.cons; focus (repeat (first | exact Del.here | apply Del.there)))))⟩)
end Go.Proofs.Ytfmbnobkenngaaa
