/- Package soil: Odd. -/
import Derived.Test.YtfmbnobkenngaaaHD
namespace Go.Proofs.Ytfmbnobkenngaaa
open Go.RowKit En

def withoutG (g : GroundD) (i : Nat) : GroundD := { g with pits := [g.pits.take i, g.pits.drop (i + 1)].flatten }
theorem without_pits (g : GroundD) (i : Nat) : (withoutG g i).pits = g.pits.take i ++ g.pits.drop (i + 1) := by simp [withoutG]
theorem without_len {g : GroundD} {i : Nat} (h : i < g.pits.length) : (withoutG g i).pits.length = g.pits.length - 1 := by
  rw [without_pits, List.length_append, List.length_take, List.length_drop]; omega
theorem ValidG.without {g : GroundD} (hg : ValidG g) (i : Nat) : ValidG (withoutG g i) := by
  refine ⟨hg.long, hg.rise, hg.change, ?_, fun p hp => hg.pits p ?_⟩
  · have := hg.len
    rw [without_pits, List.length_append, List.length_take, List.length_drop]; omega
  · rw [without_pits] at hp
    rcases List.mem_append.1 hp with h | h
    · exact List.mem_of_mem_take h
    · exact List.mem_of_mem_drop h
def oddF (g : GroundD) : Nat → Nat
  | 0 => 0
  | k + 1 => if lookOk (withoutG g k) then oddF g k ||| 2 ^ k else oddF g k
theorem oddF_lt (g : GroundD) : ∀ k, oddF g k < 2 ^ k
  | 0 => by simp [oddF]
  | k + 1 => by
    have ih := oddF_lt g k
    have h2 : 2 ^ k < 2 ^ (k + 1) := Nat.pow_lt_pow_right (by omega) (by omega)
    unfold oddF
    split
    · exact Nat.or_lt_two_pow (by omega) h2
    · omega
def oddE (g : GroundD) : Option Int := match checkE g [] with | some n => some n | none => if lookOk g then some 4 else none
def oddV (g : GroundD) : Nat := if oddE g = none then oddF g g.pits.length else 0
theorem oddE_cases (g : GroundD) : (∃ n, checkE g [] = some n ∧ oddE g = some n) ∨ (checkE g [] = none ∧ lookOk g = true ∧ oddE g = some 4) ∨ (checkE g [] = none ∧ lookOk g = false ∧ oddE g = none) := by
  unfold oddE
  cases hc : checkE g [] with
  | some n => exact .inl ⟨n, rfl, rfl⟩
  | none =>
    cases ho : lookOk g with
    | true => exact .inr (.inl ⟨rfl, rfl, by simp⟩)
    | false => exact .inr (.inr ⟨rfl, rfl, by simp⟩)
theorem or_small {a b : Nat} (ha : a < 2 ^ 32) (hb : b < 2 ^ 32) : IntKind.i64.wrap ((BitVec.ofInt IntKind.i64.bits (a : Int) ||| BitVec.ofInt IntKind.i64.bits (b : Int)).toNat) = ((a ||| b : Nat) : Int) := by
  have hlt : a ||| b < 2 ^ 32 := Nat.or_lt_two_pow ha hb
  show IntKind.i64.wrap ((BitVec.ofInt 64 (a : Int) ||| BitVec.ofInt 64 (b : Int)).toNat : Int) = _
  have h1 : BitVec.ofInt 64 (a : Int) = BitVec.ofNat 64 a := BitVec.ofInt_natCast ..
  have h2 : BitVec.ofInt 64 (b : Int) = BitVec.ofNat 64 b := BitVec.ofInt_natCast ..
  rw [h1, h2, BitVec.toNat_or, BitVec.toNat_ofNat, BitVec.toNat_ofNat, Nat.mod_eq_of_lt (by omega), Nat.mod_eq_of_lt (by omega)]
  exact IntWalk.i64_in _ (by omega)
theorem shl8 : ∀ c : Fin 8, IntKind.i64.wrap (1 * 2 ^ (min ((c.1 : Int)).toNat IntKind.i64.bits)) = ((2 ^ c.1 : Nat) : Int) := by decide +kernel
theorem pow8 : ∀ c : Fin 9, 2 ^ c.1 ≤ 256 := by decide +kernel
theorem run_sliceL2 {E : Env} {w0 : World} {T : Nat → Prop} {H : Heap} {d : Option Tmp} {t ty : TypeId} {pos : String} {af : Array Edge} {gd : Option (Nat × Bool)} {x z : Operand} {b off : Nat} {k' : IntKind} {m c sz lo : Nat} (hx : Ev E x (.slice (some ⟨b, off, none⟩) m c)) (hz : Ev E z (.int k' (lo : Int))) (he : elemB Try.prog t = some sz) (h2 : lo ≤ m) :
    RunB Try.prog E w0 T H ⟨d, .slice t x (some z) none none, ty, pos, af, gd⟩ (.slice (some ⟨b, (if c = lo then off else off + lo * sz), none⟩) (m - lo) (c - lo)) := runB_to (run_sliceL hx hz he h2) (by split <;> rfl)
theorem pitsAt_row {w : World} {b cap : Nat} {cur : List Value} {te : TypeId} {fr : Nat × Nat} {l : List PitD} {n : Nat} (h : w.heap[b]? = some (.cells cur.toArray te fr)) (hr : InRow 9 n cap cur (pitsC l)) : PitsAt w (some ⟨b, 0, none⟩) l := rowsAt_cells h fun i r hi j v hj => by
  rw [List.getElem?_map] at hi
  obtain ⟨m, hm, rfl⟩ := Option.map_eq_some_iff.1 hi
  exact hr.get (pitsC_at l i m hm j v hj)
theorem sls_two {w : World} {b : Nat} {te : TypeId} {fr : Nat × Nat} {pb po pc o2 c2 n k : Nat} {l : List PitD} (h : w.heap[b]? = some (.cells [.slice (some ⟨pb, po, none⟩) k pc, .slice (some ⟨pb, o2, none⟩) (n - (k + 1)) c2].toArray te fr)) (hn : l.length = n) (hk : k < n) (hP : ∀ i p, l[i]? = some p → ∀ j v, (pitC p)[j]? = some v → w.cell? ⟨pb, po + i * 9 + j, none⟩ = some v) (ho : o2 = po + (k + 1) * 9 ∨ n = k + 1) : SlsAt w b 0 [l.take k, l.drop (k + 1)] :=
  ⟨fun i r hi => by
    match i, hi with
    | 0, hi =>
      cases hi
      refine ⟨pb, po, pc, ?_, fun j p hj m v hv => ?_⟩
      · have : (l.take k).length = k := by rw [List.length_take]; omega
        rw [this]
        simp [World.cell?, h]
      · rw [List.getElem?_take] at hj
        split at hj
        · exact hP j p hj m v hv
        · cases hj
    | 1, hi =>
      cases hi
      refine ⟨pb, o2, c2, ?_, fun j p hj m v hv => ?_⟩
      · have : (l.drop (k + 1)).length = n - (k + 1) := by rw [List.length_drop]; omega
        rw [this]
        simp [World.cell?, h]
      · rw [List.getElem?_drop] at hj
        have hlt := (List.getElem?_eq_some_iff.1 hj).1
        rcases ho with rfl | rfl
        · have := hP (k + 1 + j) p hj m v hv
          rw [show po + (k + 1) * 9 + j * 9 + m = po + (k + 1 + j) * 9 + m by omega]
          exact this
        · omega⟩
theorem concat_ne {l : List PitD} (h : l.length ≤ 1000) : ∃ q : Nat × Nat × List Value, InRow 9 l.length q.2.1 q.2.2 (pitsC l) :=
  ⟨(0, l.length, pitsC l), Nat.le_refl _, by show l.length ≤ maxLen; unfold maxLen; omega, pitsC_length l, by rw [← pitsC_length, List.take_length]⟩
set_option maxRecDepth 100000 in
set_option maxHeartbeats 4000000 in
theorem find68_check {n : Int} {g : GroundD} {pa : Option Addr} {pc b1 : Nat} {w : World} (hm : g.pits.length ≤ 1000000) (hcap : g.pits.length ≤ pc) (hp : PitsAt w pa g.pits) (hG : GroundIn w b1 g pa pc) (hc : checkE g [] = some n) : Pans Try.prog 68 [.pointer (some ⟨b1, 0, none⟩)] w [errP n] := by
  refine enter (n := 37) Try.func68 rfl rfl rfl (by repeat (first | exact Fill.nil | apply Fill.cons)) ?_
  refine cw_seq ?_
  refine cw_region ?_
  refine lstepB rfl rfl rfl (run_assign .const) ?_
  refine lnil ?_
  refine xw_then ?_
  refine cw_seq ?_
  refine cw_region ?_
  refine lstepB rfl rfl rfl (run_loadN_at (l := [.int .i64 g.long, .int .i64 g.rise, .int .i64 g.change, .slice pa g.pits.length pc]) (.tmp rfl) kd24 sz24 rfl (fun w' hS j v hj => hS.old_cell (fun h => h) (hG j v hj))) ?_
  refine lpans rfl cb44 (.cons (.tmp rfl) (.cons .const .nil)) (fun w2 hS => pans_of (checkK g [] pa none pc 0 w2 hm (by simp) (hp.kept hS.kept) ints0) hc) ?_
  refine xw_then_panic ?_
  refine xw_panic (fun w hS => ⟨rfl, hS.kept⟩)
set_option maxRecDepth 100000 in
set_option maxHeartbeats 4000000 in
theorem find68_truth {g : GroundD} {pa : Option Addr} {pc b1 : Nat} {w : World} (hm : g.pits.length ≤ 1000000) (hcap : g.pits.length ≤ pc) (hp : PitsAt w pa g.pits) (hG : GroundIn w b1 g pa pc) (hc : checkE g [] = none) (ho : lookOk g = true) : Pans Try.prog 68 [.pointer (some ⟨b1, 0, none⟩)] w [errP 4] := by
  obtain ⟨hg, _⟩ := check_valid hc
  have hlen := hg.len
  refine enter (n := 37) Try.func68 rfl rfl rfl (by repeat (first | exact Fill.nil | apply Fill.cons)) ?_
  refine cw_seq ?_
  refine cw_region ?_
  refine lstepB rfl rfl rfl (run_assign .const) ?_
  refine lnil ?_
  refine xw_then ?_
  refine cw_seq ?_
  refine cw_region ?_
  refine lstepB rfl rfl rfl (run_loadN_at (l := [.int .i64 g.long, .int .i64 g.rise, .int .i64 g.change, .slice pa g.pits.length pc]) (.tmp rfl) kd24 sz24 rfl (fun w' hS j v hj => hS.old_cell (fun h => h) (hG j v hj))) ?_
  refine lstepB rfl rfl rfl (run_call1 cb44 (.cons (.tmp rfl) (.cons .const .nil)) (fun w2 hS => gives_of (checkK g [] pa none pc 0 w2 hm (by simp) (hp.kept hS.kept) ints0) hc)) ?_
  refine lnil ?_
  refine xw_then ?_
  refine cw_seq ?_
  refine cw_seq ?_
  refine cw_region ?_
  refine lstepB rfl rfl rfl (run_loadN_at (l := [.int .i64 g.long, .int .i64 g.rise, .int .i64 g.change, .slice pa g.pits.length pc]) (.tmp rfl) kd24 sz24 rfl (fun w' hS j v hj => hS.old_cell (fun h => h) (hG j v hj))) ?_
  refine lstepB rfl rfl rfl (run_call1 cb69 (.cons (.tmp rfl) .nil) (fun w2 hS => (hasTruthK g pa pc w2 hg (hp.kept hS.kept)).as (congrArg Value.bool ho))) ?_
  refine lnil ?_
  refine xw_then ?_
  refine cw_cond_true (.tmp rfl) ?_
  refine cw_region ?_
  refine lstepB rfl rfl rfl (En.run_makeInterface .const if29) ?_
  refine lpanic (.tmp rfl) (fun w => rfl) ?_
  refine xw_then_panic ?_
  refine xw_panic (fun w hS => ⟨rfl, hS.kept⟩)
set_option maxRecDepth 100000 in
set_option maxHeartbeats 4000000 in
theorem find68_ok {g : GroundD} {pa : Option Addr} {pc b1 : Nat} {w : World} (hm : g.pits.length ≤ 1000000) (hcap : g.pits.length ≤ pc) (hp : PitsAt w pa g.pits) (hG : GroundIn w b1 g pa pc) (hc : checkE g [] = none) (ho : lookOk g = false) : Gives Try.prog 68 [.pointer (some ⟨b1, 0, none⟩)] w (.int .i64 ((oddF g g.pits.length : Nat) : Int)) := by
  obtain ⟨hg, _⟩ := check_valid hc
  have hlen := hg.len
  refine .mk <| enter (n := 37) Try.func68 rfl rfl rfl (by repeat (first | exact Fill.nil | apply Fill.cons)) ?_
  refine cw_seq ?_
  refine cw_region ?_
  refine lstepB rfl rfl rfl (run_assign .const) ?_
  refine lnil ?_
  refine xw_then ?_
  refine cw_seq ?_
  refine cw_region ?_
  refine lstepB rfl rfl rfl (run_loadN_at (l := [.int .i64 g.long, .int .i64 g.rise, .int .i64 g.change, .slice pa g.pits.length pc]) (.tmp rfl) kd24 sz24 rfl (fun w' hS j v hj => hS.old_cell (fun h => h) (hG j v hj))) ?_
  refine lstepB rfl rfl rfl (run_call1 cb44 (.cons (.tmp rfl) (.cons .const .nil)) (fun w2 hS => gives_of (checkK g [] pa none pc 0 w2 hm (by simp) (hp.kept hS.kept) ints0) hc)) ?_
  refine lnil ?_
  refine xw_then ?_
  refine cw_seq ?_
  refine cw_seq ?_
  refine cw_region ?_
  refine lstepB rfl rfl rfl (run_loadN_at (l := [.int .i64 g.long, .int .i64 g.rise, .int .i64 g.change, .slice pa g.pits.length pc]) (.tmp rfl) kd24 sz24 rfl (fun w' hS j v hj => hS.old_cell (fun h => h) (hG j v hj))) ?_
  refine lstepB rfl rfl rfl (run_call1 cb69 (.cons (.tmp rfl) .nil) (fun w2 hS => (hasTruthK g pa pc w2 hg (hp.kept hS.kept)).as (congrArg Value.bool ho))) ?_
  refine lnil ?_
  refine xw_then ?_
  refine cw_cond_false (.tmp rfl) ?_
  refine cw_skip ?_
  refine xw_then ?_
  refine cw_seq ?_
  refine cw_region ?_
  refine lstepB rfl rfl rfl (run_assign .const) ?_
  refine lnil ?_
  refine xw_then ?_
  refine cw_seq ?_
  refine cw_seq ?_
  refine cw_region ?_
  refine lstepB rfl rfl rfl (run_fieldAddr (.tmp rfl) fa24_3 (by first | exact Nat.zero_add _ | exact rfl)) ?_
  refine lstepB rfl rfl rfl (run_load1_at (v := .slice pa g.pits.length pc) (.tmp rfl) kd22 (fun w' hS => hS.old_cell (fun h => h) (hG 3 _ rfl))) ?_
  refine lstepB rfl rfl rfl (run_len (.tmp rfl) sl22) ?_
  refine lstepB rfl rfl rfl (run_move .const) ?_
  refine lnil ?_
  refine xw_then ?_
  refine cw_block ?_
  refine cw_loop (S := Nat) (fun k => [(13, .int .i64 (k : Int)), (2, .int .i64 ((oddF g k : Nat) : Int))]) [(0, _), (1, _), (12, _)] (fun k => []) (fun k => k ≤ g.pits.length) (fun k => g.pits.length - k) 0 (Nat.zero_le _) (by repeat (first | exact Less.nil | refine Less.cons rfl ?_)) (by repeat (first | exact Pick.nil | (apply Pick.cons; focus (repeat (first | exact Del.here | apply Del.there))))) ?_
  intro k hk
  refine cw_seq ?_
  refine cw_region ?_
  refine lstepB rfl rfl rfl (run_lss (.tmp rfl) (.tmp rfl) (by first | exact decide_eq_true (by omega) | exact decide_eq_false (by omega) | exact rfl)) ?_
  refine lnil ?_
  refine xw_then ?_
  refine cw_seq ?_
  refine cw_cond_p (.tmp rfl) (fun hl => ?_) (fun hl => ?_)
  ·
    obtain ⟨pb, po, rfl, hpb, hpc⟩ := hp.pit (by omega)
    have hvw := hg.without k
    have hwl := without_len (g := g) (i := k) (by omega)
    have hlt := oddF_lt g k
    have hp8 := pow8 ⟨k, by omega⟩
    have hp9 := shl8 ⟨k, by omega⟩
    simp only at hp8 hp9
    have ho2 : (if pc = k + 1 then po else po + (k + 1) * 9) = po + (k + 1) * 9 ∨ g.pits.length = k + 1 := by
      split
      · exact .inr (by omega)
      · exact .inl rfl
    by_cases hone : g.pits.length = 1
    ·
      refine cw_skip ?_
      refine xw_then ?_
      refine cw_seq ?_
      refine cw_block ?_
      refine cw_seq ?_
      refine cw_region ?_
      refine lstepB rfl rfl rfl (run_move (.tmp rfl)) ?_
      refine lstepB rfl rfl rfl (run_assign (.tmp rfl)) ?_
      refine lnil ?_
      refine xw_then ?_
      refine cw_seq ?_
      refine cw_region ?_
      refine lstepB rfl rfl rfl (run_loadN_at (l := [.int .i64 g.long, .int .i64 g.rise, .int .i64 g.change, .slice (some ⟨pb, po, none⟩) g.pits.length pc]) (.tmp rfl) kd24 sz24 rfl (fun w' hS j v hj => hS.old_cell (fun h => h) (hG j v hj))) ?_
      refine lstep rfl rfl rfl (run_alloc zr24) ?_
      intro b4 _
      refine lstep0 rfl rfl (run_storeN (.tmp rfl) (.tmp rfl) rfl sz24 rfl (by repeat (first | exact Upd.here | apply Upd.there)) (by repeat (first | exact Put.done | apply Put.put | apply Put.skip))) ?_
      refine lnil ?_
      refine xw_then ?_
      refine cw_seq ?_
      refine cw_chain2 (σ := [0, 1, 2, 3, 4, 5, 6, 7, 8, 9, 10, 11, 12]) [⟨0, [], [], [], 0⟩, ⟨0, [], [], [], 1⟩, ⟨0, [], [], [], 0⟩, ⟨0, [], [], [], 7⟩, ⟨0, [], [], [], 0⟩, ⟨0, [], [], [], 16⟩, ⟨0, [], [], [], 0⟩, ⟨0, [], [], [], 64⟩, ⟨0, [], [], [], 240⟩, ⟨2, [], [], [1], 511⟩, ⟨0, [1], [], [], 1023⟩, ⟨0, [], [], [], 2047⟩, ⟨0, [], [0], [0], 4095⟩] [(0, _)] (by kernel_rfl) (by kernel_rfl) rfl ?_
      refine .det (B := []) rfl rfl (.inl rfl) .nil .nil rfl (RunB.lr (run_fieldAddr (.tmp rfl) fa24_3 (by first | exact Nat.zero_add _ | exact rfl))) ?_
      refine .det (B := []) rfl rfl (.inl rfl) .nil .nil rfl (RunB.lr (run_load1_at (v := .slice (some ⟨pb, po, none⟩) g.pits.length pc) (.tmp rfl) kd22 (fun w' hS => hS.old_cell (fun h => h) (hG 3 _ rfl)))) ?_
      refine .det (B := []) rfl rfl (.inl rfl) .nil .nil rfl (RunB.lr (run_move (.tmp rfl))) ?_
      refine .det (B := []) rfl rfl (.inl rfl) .nil .nil rfl (RunB.lr (run_sliceH (hi := k) (.tmp rfl) (.tmp rfl) el22 (by omega))) ?_
      refine .det (B := []) rfl rfl (.inl rfl) .nil .nil rfl (RunB.lr (run_fieldAddr (.tmp rfl) fa24_3 (by first | exact Nat.zero_add _ | exact rfl))) ?_
      refine .det (B := []) rfl rfl (.inl rfl) .nil .nil rfl (RunB.lr (run_load1_at (v := .slice (some ⟨pb, po, none⟩) g.pits.length pc) (.tmp rfl) kd22 (fun w' hS => hS.old_cell (fun h => h) (hG 3 _ rfl)))) ?_
      refine .det (B := []) rfl rfl (.inl rfl) .nil .nil rfl (RunB.lr (run_move (.tmp rfl))) ?_
      refine .det (B := []) rfl rfl (.inl rfl) .nil .nil rfl (RunB.lr (run_add (c := ((k + 1 : Nat) : Int)) (.tmp rfl) .const (by rw [IntWalk.i64_in _ (by omega)]; omega))) ?_
      refine .det (B := []) rfl rfl (.inl rfl) .nil .nil rfl (RunB.lr (run_sliceL2 (lo := k + 1) (.tmp rfl) (.tmp rfl) el22 (by omega))) ?_
      refine .flo rfl rfl rfl (.lit rfl (.cons (.tmp rfl) (.cons (.tmp rfl) .nil)) (fun w => bs128_2_0_1 w)) trivial rfl rfl rfl ?_
      intro b26
      refine .det (B := []) rfl rfl (.inl rfl) (.cons rfl .nil) .nil rfl (RunB.lr (run_call1 cb70 (.cons (.tmp rfl) .nil) (fun w2 hS => concat0K [g.pits.take k, g.pits.drop (k + 1)] b26 0 2 w2 (sls_two (hS.mem (by repeat (first | exact List.Mem.head _ | apply List.Mem.tail))) rfl (by omega) (fun i p hi j v hj => hS.old_cell (fun h => h) (hpc i p hi j v hj)) ho2) (by simp) (List.eq_nil_of_length_eq_zero (by show (withoutG g k).pits.length = 0; omega))))) ?_
      refine .det (B := []) rfl rfl (.inl rfl) .nil .nil rfl (RunB.lr (run_fieldAddr (.tmp rfl) fa24_3 (by first | exact Nat.zero_add _ | exact rfl))) ?_
      refine .det (B := [(0, (_, _))]) rfl rfl (.inl rfl) .nil (.cons rfl .nil) rfl (lr_store1 (.tmp rfl) (.tmp rfl) rfl sz22 (by repeat (first | exact Put.done | apply Put.put | apply Put.skip))) ?_
      refine chain_nil (ts := [1, 0]) (.cons rfl (.cons rfl .nil)) (by decide) ?_
      refine xw_then ?_
      refine cw_seq ?_
      refine cw_region ?_
      refine lstepB rfl rfl rfl (run_loadN (.tmp rfl) kd24 sz24 (by repeat (first | exact List.Mem.head _ | apply List.Mem.tail)) (by repeat (first | exact Sub.done | apply Sub.take | apply Sub.skip))) ?_
      refine lstepB rfl rfl rfl (run_call1 cb69 (.cons (.tmp rfl) .nil) (fun w2 hS => by have hz : (withoutG g k).pits = [] := List.eq_nil_of_length_eq_zero (by omega); have := hasTruthK (withoutG g k) none 0 w2 hvw (by rw [hz]; exact fun i r h => by simp at h); rw [hz] at this; exact this)) ?_
      refine lnil ?_
      refine xw_then ?_
      refine cw_cond (.tmp rfl) (fun hc2 => ?_) (fun hc2 => ?_)
      ·
        refine cw_region ?_
        refine lstepB rfl rfl rfl (run_move (.tmp rfl)) ?_
        refine lstepB rfl rfl rfl (run_move (.tmp rfl)) ?_
        refine lstepB rfl rfl rfl (run_shl (c' := ((2 ^ k : Nat) : Int)) .const (.tmp rfl) (by omega) hp9) ?_
        refine lstepB rfl rfl rfl (run_or (c' := ((oddF g k ||| 2 ^ k : Nat) : Int)) (.tmp rfl) (.tmp rfl) (or_small (by omega) (by omega))) ?_
        refine lstepB rfl rfl rfl (run_assign (.tmp rfl)) ?_
        refine lnil ?_
        refine xw_in ?_
        refine xw_then ?_
        refine cw_region ?_
        refine lstepB rfl rfl rfl (run_add (.tmp rfl) .const (by first | exact IntWalk.i64_in _ (by omega) | exact rfl)) ?_
        refine lstepB rfl rfl rfl (run_move (.tmp rfl)) ?_
        refine lnil ?_
        have hs : oddF g (k + 1) = oddF g k ||| 2 ^ k := by rw [oddF, hc2]; rfl
        rw [← hs]
        exact xw_round (k + 1) (by show k + 1 ≤ _; omega) (by show g.pits.length - (k + 1) < g.pits.length - k; omega) (by repeat (first | exact Less.nil | refine Less.cons rfl ?_)) (by repeat (first | exact Pick.nil | (apply Pick.cons; focus (repeat (first | exact Del.here | apply Del.there)))))
      ·
        refine cw_skip ?_
        refine xw_in ?_
        refine xw_then ?_
        refine cw_region ?_
        refine lstepB rfl rfl rfl (run_add (.tmp rfl) .const (by first | exact IntWalk.i64_in _ (by omega) | exact rfl)) ?_
        refine lstepB rfl rfl rfl (run_move (.tmp rfl)) ?_
        refine lnil ?_
        have hs : oddF g (k + 1) = oddF g k := by rw [oddF, hc2]; rfl
        rw [← hs]
        exact xw_round (k + 1) (by show k + 1 ≤ _; omega) (by show g.pits.length - (k + 1) < g.pits.length - k; omega) (by repeat (first | exact Less.nil | refine Less.cons rfl ?_)) (by repeat (first | exact Pick.nil | (apply Pick.cons; focus (repeat (first | exact Del.here | apply Del.there)))))
    ·
      refine cw_skip ?_
      refine xw_then ?_
      refine cw_seq ?_
      refine cw_block ?_
      refine cw_seq ?_
      refine cw_region ?_
      refine lstepB rfl rfl rfl (run_move (.tmp rfl)) ?_
      refine lstepB rfl rfl rfl (run_assign (.tmp rfl)) ?_
      refine lnil ?_
      refine xw_then ?_
      refine cw_seq ?_
      refine cw_region ?_
      refine lstepB rfl rfl rfl (run_loadN_at (l := [.int .i64 g.long, .int .i64 g.rise, .int .i64 g.change, .slice (some ⟨pb, po, none⟩) g.pits.length pc]) (.tmp rfl) kd24 sz24 rfl (fun w' hS j v hj => hS.old_cell (fun h => h) (hG j v hj))) ?_
      refine lstep rfl rfl rfl (run_alloc zr24) ?_
      intro b4 _
      refine lstep0 rfl rfl (run_storeN (.tmp rfl) (.tmp rfl) rfl sz24 rfl (by repeat (first | exact Upd.here | apply Upd.there)) (by repeat (first | exact Put.done | apply Put.put | apply Put.skip))) ?_
      refine lnil ?_
      refine xw_then ?_
      refine cw_seq ?_
      refine cw_chain2 (σ := [0, 1, 2, 3, 4, 5, 6, 7, 8, 9, 10, 11, 12]) [⟨0, [], [], [], 0⟩, ⟨0, [], [], [], 1⟩, ⟨0, [], [], [], 0⟩, ⟨0, [], [], [], 7⟩, ⟨0, [], [], [], 0⟩, ⟨0, [], [], [], 16⟩, ⟨0, [], [], [], 0⟩, ⟨0, [], [], [], 64⟩, ⟨0, [], [], [], 240⟩, ⟨2, [], [], [1], 511⟩, ⟨1, [1], [], [2], 1023⟩, ⟨0, [], [], [], 2047⟩, ⟨0, [], [0], [0], 4095⟩] [(0, _)] (by kernel_rfl) (by kernel_rfl) rfl ?_
      refine .det (B := []) rfl rfl (.inl rfl) .nil .nil rfl (RunB.lr (run_fieldAddr (.tmp rfl) fa24_3 (by first | exact Nat.zero_add _ | exact rfl))) ?_
      refine .det (B := []) rfl rfl (.inl rfl) .nil .nil rfl (RunB.lr (run_load1_at (v := .slice (some ⟨pb, po, none⟩) g.pits.length pc) (.tmp rfl) kd22 (fun w' hS => hS.old_cell (fun h => h) (hG 3 _ rfl)))) ?_
      refine .det (B := []) rfl rfl (.inl rfl) .nil .nil rfl (RunB.lr (run_move (.tmp rfl))) ?_
      refine .det (B := []) rfl rfl (.inl rfl) .nil .nil rfl (RunB.lr (run_sliceH (hi := k) (.tmp rfl) (.tmp rfl) el22 (by omega))) ?_
      refine .det (B := []) rfl rfl (.inl rfl) .nil .nil rfl (RunB.lr (run_fieldAddr (.tmp rfl) fa24_3 (by first | exact Nat.zero_add _ | exact rfl))) ?_
      refine .det (B := []) rfl rfl (.inl rfl) .nil .nil rfl (RunB.lr (run_load1_at (v := .slice (some ⟨pb, po, none⟩) g.pits.length pc) (.tmp rfl) kd22 (fun w' hS => hS.old_cell (fun h => h) (hG 3 _ rfl)))) ?_
      refine .det (B := []) rfl rfl (.inl rfl) .nil .nil rfl (RunB.lr (run_move (.tmp rfl))) ?_
      refine .det (B := []) rfl rfl (.inl rfl) .nil .nil rfl (RunB.lr (run_add (c := ((k + 1 : Nat) : Int)) (.tmp rfl) .const (by rw [IntWalk.i64_in _ (by omega)]; omega))) ?_
      refine .det (B := []) rfl rfl (.inl rfl) .nil .nil rfl (RunB.lr (run_sliceL2 (lo := k + 1) (.tmp rfl) (.tmp rfl) el22 (by omega))) ?_
      refine .flo rfl rfl rfl (.lit rfl (.cons (.tmp rfl) (.cons (.tmp rfl) .nil)) (fun w => bs128_2_0_1 w)) trivial rfl rfl rfl ?_
      intro b26
      refine .ext (B := fun q => [(2, (q.1, _))]) rfl rfl (.inl rfl) (.cons rfl .nil) .nil (fun _ => rfl) (concat_ne (l := (withoutG g k).pits) (by omega)) (lr_gives cb70 (.cons (.tmp rfl) .nil) (fun w2 hS => concatK [g.pits.take k, g.pits.drop (k + 1)] b26 0 2 w2 (sls_two (hS.mem (by repeat (first | exact List.Mem.head _ | apply List.Mem.tail))) rfl (by omega) (fun i p hi j v hj => hS.old_cell (fun h => h) (hpc i p hi j v hj)) ho2) (by simp) (by show (withoutG g k).pits.length ≤ 1000; omega) (by show 0 < (withoutG g k).pits.length; omega))) ?_
      rintro ⟨gN, cN, rN⟩ hN
      refine .det (B := []) rfl rfl (.inl rfl) .nil .nil rfl (RunB.lr (run_fieldAddr (.tmp rfl) fa24_3 (by first | exact Nat.zero_add _ | exact rfl))) ?_
      refine .det (B := [(0, (_, _))]) rfl rfl (.inl rfl) .nil (.cons rfl .nil) rfl (lr_store1 (.tmp rfl) (.tmp rfl) rfl sz22 (by repeat (first | exact Put.done | apply Put.put | apply Put.skip))) ?_
      refine chain_nil (ts := [2, 1, 0]) (.cons rfl (.cons rfl (.cons rfl .nil))) (by decide) ?_
      refine xw_then ?_
      refine cw_seq ?_
      refine cw_region ?_
      refine lstepB rfl rfl rfl (run_loadN (.tmp rfl) kd24 sz24 (by repeat (first | exact List.Mem.head _ | apply List.Mem.tail)) (by repeat (first | exact Sub.done | apply Sub.take | apply Sub.skip))) ?_
      refine lstepB rfl rfl rfl (run_call1 cb69 (.cons (.tmp rfl) .nil) (fun w2 hS => hasTruthK (withoutG g k) (some ⟨gN, 0, none⟩) cN w2 hvw (pitsAt_row (hS.mem (by repeat (first | exact List.Mem.head _ | apply List.Mem.tail))) hN))) ?_
      refine lnil ?_
      refine xw_then ?_
      refine cw_cond (.tmp rfl) (fun hc2 => ?_) (fun hc2 => ?_)
      ·
        refine cw_region ?_
        refine lstepB rfl rfl rfl (run_move (.tmp rfl)) ?_
        refine lstepB rfl rfl rfl (run_move (.tmp rfl)) ?_
        refine lstepB rfl rfl rfl (run_shl (c' := ((2 ^ k : Nat) : Int)) .const (.tmp rfl) (by omega) hp9) ?_
        refine lstepB rfl rfl rfl (run_or (c' := ((oddF g k ||| 2 ^ k : Nat) : Int)) (.tmp rfl) (.tmp rfl) (or_small (by omega) (by omega))) ?_
        refine lstepB rfl rfl rfl (run_assign (.tmp rfl)) ?_
        refine lnil ?_
        refine xw_in ?_
        refine xw_then ?_
        refine cw_region ?_
        refine lstepB rfl rfl rfl (run_add (.tmp rfl) .const (by first | exact IntWalk.i64_in _ (by omega) | exact rfl)) ?_
        refine lstepB rfl rfl rfl (run_move (.tmp rfl)) ?_
        refine lnil ?_
        have hs : oddF g (k + 1) = oddF g k ||| 2 ^ k := by rw [oddF, hc2]; rfl
        rw [← hs]
        exact xw_round (k + 1) (by show k + 1 ≤ _; omega) (by show g.pits.length - (k + 1) < g.pits.length - k; omega) (by repeat (first | exact Less.nil | refine Less.cons rfl ?_)) (by repeat (first | exact Pick.nil | (apply Pick.cons; focus (repeat (first | exact Del.here | apply Del.there)))))
      ·
        refine cw_skip ?_
        refine xw_in ?_
        refine xw_then ?_
        refine cw_region ?_
        refine lstepB rfl rfl rfl (run_add (.tmp rfl) .const (by first | exact IntWalk.i64_in _ (by omega) | exact rfl)) ?_
        refine lstepB rfl rfl rfl (run_move (.tmp rfl)) ?_
        refine lnil ?_
        have hs : oddF g (k + 1) = oddF g k := by rw [oddF, hc2]; rfl
        rw [← hs]
        exact xw_round (k + 1) (by show k + 1 ≤ _; omega) (by show g.pits.length - (k + 1) < g.pits.length - k; omega) (by repeat (first | exact Less.nil | refine Less.cons rfl ?_)) (by repeat (first | exact Pick.nil | (apply Pick.cons; focus (repeat (first | exact Del.here | apply Del.there)))))
  ·
    obtain rfl : k = g.pits.length := by omega
    refine cw_exit ?_
    refine xw_then_exit ?_
    refine xw_then_exit ?_
    refine xw_in_exit ?_
    refine xw_then ?_
    refine cw_seq ?_
    refine cw_region ?_
    refine lstepB rfl rfl rfl (run_move (.tmp rfl)) ?_
    refine lstepB rfl rfl rfl (run_assign (.tmp rfl)) ?_
    refine lnil ?_
    refine xw_then ?_
    refine cw_ret ?_
    refine xw_ret1 Try.results68 rfl (fun w hS => ⟨rfl, hS.kept⟩)
set_option maxRecDepth 100000 in
set_option maxHeartbeats 4000000 in
theorem oddK (g : GroundD) (pa : Option Addr) (pc : Nat) (w : World) (hm : g.pits.length ≤ 1000000) (hcap : g.pits.length ≤ pc) (hp : PitsAt w pa g.pits) : Gives Try.prog 25 [.agg [.int .i64 g.long, .int .i64 g.rise, .int .i64 g.change, .slice pa g.pits.length pc].toArray] w (.tuple #[.int .i64 ((oddV g : Nat) : Int), .int .i64 (errN (oddE g))]) := by
  refine .mk <| enter (n := 8) Try.func25 rfl rfl rfl (by repeat (first | exact Fill.nil | apply Fill.cons)) ?_
  have hG : ∀ {b : Nat} {w2 : World}, w2.heap[b]? = some (Obj.cells [.int .i64 g.long, .int .i64 g.rise, .int .i64 g.change, .slice pa g.pits.length pc].toArray 24 (0, 0)) → GroundIn w2 b g pa pc := fun h j v hj => by
    rw [Nat.zero_add]
    simp only [World.cell?, h]
    simpa using hj
  rcases oddE_cases g with ⟨n, hc, he⟩ | ⟨hc, ho, he⟩ | ⟨hc, ho, he⟩
  ·
    refine cw_seq ?_
    refine cw_region ?_
    refine lstep rfl rfl rfl (run_boxN (.tmp rfl)) ?_
    intro b1 _
    refine lstepB rfl rfl rfl (run_assign .const) ?_
    refine lstepB rfl rfl rfl (run_assign .const) ?_
    refine lnil ?_
    refine xw_then ?_
    refine cw_seq ?_
    refine cw_region ?_
    refine lstepB rfl rfl rfl (En.run_makeFunc .nil (.cons (.tmp rfl) .nil)) ?_
    refine lstepB rfl rfl rfl (run_call1 cb54 (.cons (.tmp rfl) .nil) (fun w hS => told54_bad cb68 (fun w2 hB => find68_check hm hcap ((hp.kept hS.kept).kept hB) (hG ((hB.block _ (hS.lt (by repeat (first | exact List.Mem.head _ | apply List.Mem.tail)))).trans (hS.mem (by repeat (first | exact List.Mem.head _ | apply List.Mem.tail))))) hc))) ?_
    refine lstepB rfl rfl rfl (run_extract (.tmp rfl) rfl) ?_
    refine lstepB rfl rfl rfl (run_extract (.tmp rfl) rfl) ?_
    refine lstepB rfl rfl rfl (run_assign (.tmp rfl)) ?_
    refine lstepB rfl rfl rfl (run_assign (.tmp rfl)) ?_
    refine lnil ?_
    refine xw_then ?_
    refine cw_ret ?_
    refine xw_ret2 Try.results25 rfl rfl (fun w hS => ⟨?_, hS.kept⟩)
    simp [oddV, he, errN]
  ·
    refine cw_seq ?_
    refine cw_region ?_
    refine lstep rfl rfl rfl (run_boxN (.tmp rfl)) ?_
    intro b1 _
    refine lstepB rfl rfl rfl (run_assign .const) ?_
    refine lstepB rfl rfl rfl (run_assign .const) ?_
    refine lnil ?_
    refine xw_then ?_
    refine cw_seq ?_
    refine cw_region ?_
    refine lstepB rfl rfl rfl (En.run_makeFunc .nil (.cons (.tmp rfl) .nil)) ?_
    refine lstepB rfl rfl rfl (run_call1 cb54 (.cons (.tmp rfl) .nil) (fun w hS => told54_bad cb68 (fun w2 hB => find68_truth hm hcap ((hp.kept hS.kept).kept hB) (hG ((hB.block _ (hS.lt (by repeat (first | exact List.Mem.head _ | apply List.Mem.tail)))).trans (hS.mem (by repeat (first | exact List.Mem.head _ | apply List.Mem.tail))))) hc ho))) ?_
    refine lstepB rfl rfl rfl (run_extract (.tmp rfl) rfl) ?_
    refine lstepB rfl rfl rfl (run_extract (.tmp rfl) rfl) ?_
    refine lstepB rfl rfl rfl (run_assign (.tmp rfl)) ?_
    refine lstepB rfl rfl rfl (run_assign (.tmp rfl)) ?_
    refine lnil ?_
    refine xw_then ?_
    refine cw_ret ?_
    refine xw_ret2 Try.results25 rfl rfl (fun w hS => ⟨?_, hS.kept⟩)
    simp [oddV, he, errN]
  ·
    refine cw_seq ?_
    refine cw_region ?_
    refine lstep rfl rfl rfl (run_boxN (.tmp rfl)) ?_
    intro b1 _
    refine lstepB rfl rfl rfl (run_assign .const) ?_
    refine lstepB rfl rfl rfl (run_assign .const) ?_
    refine lnil ?_
    refine xw_then ?_
    refine cw_seq ?_
    refine cw_region ?_
    refine lstepB rfl rfl rfl (En.run_makeFunc .nil (.cons (.tmp rfl) .nil)) ?_
    refine lstepB rfl rfl rfl (run_call1 cb54 (.cons (.tmp rfl) .nil) (fun w hS => told54_ok cb68 (fun w2 hB => find68_ok hm hcap ((hp.kept hS.kept).kept hB) (hG ((hB.block _ (hS.lt (by repeat (first | exact List.Mem.head _ | apply List.Mem.tail)))).trans (hS.mem (by repeat (first | exact List.Mem.head _ | apply List.Mem.tail))))) hc ho))) ?_
    refine lstepB rfl rfl rfl (run_extract (.tmp rfl) rfl) ?_
    refine lstepB rfl rfl rfl (run_extract (.tmp rfl) rfl) ?_
    refine lstepB rfl rfl rfl (run_assign (.tmp rfl)) ?_
    refine lstepB rfl rfl rfl (run_assign (.tmp rfl)) ?_
    refine lnil ?_
    refine xw_then ?_
    refine cw_ret ?_
    refine xw_ret2 Try.results25 rfl rfl (fun w hS => ⟨?_, hS.kept⟩)
    simp [oddV, he, errN]
end Go.Proofs.Ytfmbnobkenngaaa
