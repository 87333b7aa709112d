/- Package soil: Hard, Parts, Class. -/
import Derived.Test.YtfmbnobkenngaaaGO
namespace Go.Proofs.Ytfmbnobkenngaaa
open Go.RowKit En

def hardE (g : GroundD) (l : List Int) : Option Int := match checkE g l with | some n => some n | none => if lookOk g then none else some 10
def hardS (g : GroundD) (at_ : Int) : SpanD := if hardE g [at_] = none then commonS (voicesL g) ((at_.toNat : Nat) : Int) else ⟨0, 0⟩
def partsM (g : GroundD) (at_ : Int) : MixD := if hardE g [at_] = none then (soilsL g).getD at_.toNat noMix else noMix
def classV (g : GroundD) (at_ : Int) : Nat := if hardE g [at_] = none then classesM ((soilsL g).getD at_.toNat noMix) else 0
/-- The number of an error, 0 where there is none. -/
def errN : Option Int → Int
  | none => 0
  | some n => n
theorem hardE_cases (g : GroundD) (l : List Int) : (∃ n, checkE g l = some n ∧ hardE g l = some n) ∨ (checkE g l = none ∧ lookOk g = false ∧ hardE g l = some 10) ∨ (checkE g l = none ∧ lookOk g = true ∧ hardE g l = none) := by
  unfold hardE
  cases hc : checkE g l with
  | some n => exact .inl ⟨n, rfl, rfl⟩
  | none =>
    cases ho : lookOk g with
    | false => exact .inr (.inl ⟨rfl, rfl, by simp⟩)
    | true => exact .inr (.inr ⟨rfl, rfl, by simp⟩)
set_option maxRecDepth 100000 in
set_option maxHeartbeats 4000000 in
theorem hardK (g : GroundD) (at_ : Int) (pa : Option Addr) (pc : Nat) (w : World) (hm : g.pits.length ≤ 1000000) (hp : PitsAt w pa g.pits) : Gives Try.prog 13 [.agg [.int .i64 g.long, .int .i64 g.rise, .int .i64 g.change, .slice pa g.pits.length pc].toArray, .int .i64 at_] w (.tuple #[.agg [.int .i64 (hardS g at_).lo, .int .i64 (hardS g at_).hi].toArray, .int .i64 (errN (hardE g [at_]))]) := by
  refine .mk <| enter (n := 10) Try.func13 rfl rfl rfl (by repeat (first | exact Fill.nil | apply Fill.cons)) ?_
  have hG : ∀ {b : Nat} {w2 : World}, w2.heap[b]? = some (Obj.cells [.int .i64 g.long, .int .i64 g.rise, .int .i64 g.change, .slice pa g.pits.length pc].toArray 24 (0, 0)) → GroundIn w2 b g pa pc := fun h j v hj => by
    rw [Nat.zero_add]
    simp only [World.cell?, h]
    simpa using hj
  have hA : ∀ {b : Nat} {w2 : World}, w2.heap[b]? = some (Obj.cells [.int .i64 at_].toArray 3 (0, 0)) → w2.cell? ⟨b, 0, none⟩ = some (.int .i64 at_) := fun h => by simp [World.cell?, h]
  rcases hardE_cases g [at_] with ⟨n, hc, he⟩ | ⟨hc, ho, he⟩ | ⟨hc, ho, he⟩
  ·
    refine cw_seq ?_
    refine cw_region ?_
    refine lstep rfl rfl rfl (run_boxN (.tmp rfl)) ?_
    intro b2 _
    refine lstep rfl rfl rfl (run_box1 (.tmp rfl) rfl) ?_
    intro b3 _
    refine lstep rfl rfl rfl (run_alloc zr28) ?_
    intro b4 _
    refine lstepB rfl rfl rfl (run_assign .const) ?_
    refine lnil ?_
    refine xw_then ?_
    refine cw_seq ?_
    refine cw_region ?_
    refine lstepB rfl rfl rfl (En.run_makeFunc .nil (.cons (.tmp rfl) (.cons (.tmp rfl) .nil))) ?_
    refine lstepB rfl rfl rfl (run_call1 cb42 (.cons (.tmp rfl) .nil) (fun w hS => told42_bad cb43 (fun w2 hB => find43_check hm ((hp.kept hS.kept).kept hB) (hG ((hB.block _ (hS.lt (by repeat (first | exact List.Mem.head _ | apply List.Mem.tail)))).trans (hS.mem (by repeat (first | exact List.Mem.head _ | apply List.Mem.tail))))) (hA ((hB.block _ (hS.lt (by repeat (first | exact List.Mem.head _ | apply List.Mem.tail)))).trans (hS.mem (by repeat (first | exact List.Mem.head _ | apply List.Mem.tail))))) hc))) ?_
    refine lstepB rfl rfl rfl (run_extract (.tmp rfl) rfl) ?_
    refine lstepB rfl rfl rfl (run_extract (.tmp rfl) rfl) ?_
    refine lstep0 rfl rfl (run_storeN (.tmp rfl) (.tmp rfl) rfl sz28 rfl (by repeat (first | exact Upd.here | apply Upd.there)) (by repeat (first | exact Put.done | apply Put.put | apply Put.skip))) ?_
    refine lstepB rfl rfl rfl (run_assign (.tmp rfl)) ?_
    refine lnil ?_
    refine xw_then ?_
    refine cw_ret ?_
    refine xw_retC2 rfl rfl rfl kd28 sz28 (by repeat (first | exact List.Mem.head _ | apply List.Mem.tail)) (by repeat (first | exact Sub.done | apply Sub.take | apply Sub.skip)) (fun w hS => ⟨?_, hS.kept⟩)
    simp [hardS, he, errN]
  ·
    refine cw_seq ?_
    refine cw_region ?_
    refine lstep rfl rfl rfl (run_boxN (.tmp rfl)) ?_
    intro b2 _
    refine lstep rfl rfl rfl (run_box1 (.tmp rfl) rfl) ?_
    intro b3 _
    refine lstep rfl rfl rfl (run_alloc zr28) ?_
    intro b4 _
    refine lstepB rfl rfl rfl (run_assign .const) ?_
    refine lnil ?_
    refine xw_then ?_
    refine cw_seq ?_
    refine cw_region ?_
    refine lstepB rfl rfl rfl (En.run_makeFunc .nil (.cons (.tmp rfl) (.cons (.tmp rfl) .nil))) ?_
    refine lstepB rfl rfl rfl (run_call1 cb42 (.cons (.tmp rfl) .nil) (fun w hS => told42_bad cb43 (fun w2 hB => find43_clash hm ((hp.kept hS.kept).kept hB) (hG ((hB.block _ (hS.lt (by repeat (first | exact List.Mem.head _ | apply List.Mem.tail)))).trans (hS.mem (by repeat (first | exact List.Mem.head _ | apply List.Mem.tail))))) (hA ((hB.block _ (hS.lt (by repeat (first | exact List.Mem.head _ | apply List.Mem.tail)))).trans (hS.mem (by repeat (first | exact List.Mem.head _ | apply List.Mem.tail))))) hc ho))) ?_
    refine lstepB rfl rfl rfl (run_extract (.tmp rfl) rfl) ?_
    refine lstepB rfl rfl rfl (run_extract (.tmp rfl) rfl) ?_
    refine lstep0 rfl rfl (run_storeN (.tmp rfl) (.tmp rfl) rfl sz28 rfl (by repeat (first | exact Upd.here | apply Upd.there)) (by repeat (first | exact Put.done | apply Put.put | apply Put.skip))) ?_
    refine lstepB rfl rfl rfl (run_assign (.tmp rfl)) ?_
    refine lnil ?_
    refine xw_then ?_
    refine cw_ret ?_
    refine xw_retC2 rfl rfl rfl kd28 sz28 (by repeat (first | exact List.Mem.head _ | apply List.Mem.tail)) (by repeat (first | exact Sub.done | apply Sub.take | apply Sub.skip)) (fun w hS => ⟨?_, hS.kept⟩)
    simp [hardS, he, errN]
  ·
    refine cw_seq ?_
    refine cw_region ?_
    refine lstep rfl rfl rfl (run_boxN (.tmp rfl)) ?_
    intro b2 _
    refine lstep rfl rfl rfl (run_box1 (.tmp rfl) rfl) ?_
    intro b3 _
    refine lstep rfl rfl rfl (run_alloc zr28) ?_
    intro b4 _
    refine lstepB rfl rfl rfl (run_assign .const) ?_
    refine lnil ?_
    refine xw_then ?_
    refine cw_seq ?_
    refine cw_region ?_
    refine lstepB rfl rfl rfl (En.run_makeFunc .nil (.cons (.tmp rfl) (.cons (.tmp rfl) .nil))) ?_
    refine lstepB rfl rfl rfl (run_call1 cb42 (.cons (.tmp rfl) .nil) (fun w hS => told42_ok cb43 (fun w2 hB => find43_ok hm ((hp.kept hS.kept).kept hB) (hG ((hB.block _ (hS.lt (by repeat (first | exact List.Mem.head _ | apply List.Mem.tail)))).trans (hS.mem (by repeat (first | exact List.Mem.head _ | apply List.Mem.tail))))) (hA ((hB.block _ (hS.lt (by repeat (first | exact List.Mem.head _ | apply List.Mem.tail)))).trans (hS.mem (by repeat (first | exact List.Mem.head _ | apply List.Mem.tail))))) hc ho))) ?_
    refine lstepB rfl rfl rfl (run_extract (.tmp rfl) rfl) ?_
    refine lstepB rfl rfl rfl (run_extract (.tmp rfl) rfl) ?_
    refine lstep0 rfl rfl (run_storeN (.tmp rfl) (.tmp rfl) rfl sz28 rfl (by repeat (first | exact Upd.here | apply Upd.there)) (by repeat (first | exact Put.done | apply Put.put | apply Put.skip))) ?_
    refine lstepB rfl rfl rfl (run_assign (.tmp rfl)) ?_
    refine lnil ?_
    refine xw_then ?_
    refine cw_ret ?_
    refine xw_retC2 rfl rfl rfl kd28 sz28 (by repeat (first | exact List.Mem.head _ | apply List.Mem.tail)) (by repeat (first | exact Sub.done | apply Sub.take | apply Sub.skip)) (fun w hS => ⟨?_, hS.kept⟩)
    simp [hardS, he, errN]
set_option maxRecDepth 100000 in
set_option maxHeartbeats 4000000 in
theorem classK (g : GroundD) (at_ : Int) (pa : Option Addr) (pc : Nat) (w : World) (hm : g.pits.length ≤ 1000000) (hp : PitsAt w pa g.pits) : Gives Try.prog 17 [.agg [.int .i64 g.long, .int .i64 g.rise, .int .i64 g.change, .slice pa g.pits.length pc].toArray, .int .i64 at_] w (.tuple #[.int .i64 ((classV g at_ : Nat) : Int), .int .i64 (errN (hardE g [at_]))]) := by
  refine .mk <| enter (n := 10) Try.func17 rfl rfl rfl (by repeat (first | exact Fill.nil | apply Fill.cons)) ?_
  have hG : ∀ {b : Nat} {w2 : World}, w2.heap[b]? = some (Obj.cells [.int .i64 g.long, .int .i64 g.rise, .int .i64 g.change, .slice pa g.pits.length pc].toArray 24 (0, 0)) → GroundIn w2 b g pa pc := fun h j v hj => by
    rw [Nat.zero_add]
    simp only [World.cell?, h]
    simpa using hj
  have hA : ∀ {b : Nat} {w2 : World}, w2.heap[b]? = some (Obj.cells [.int .i64 at_].toArray 3 (0, 0)) → w2.cell? ⟨b, 0, none⟩ = some (.int .i64 at_) := fun h => by simp [World.cell?, h]
  rcases hardE_cases g [at_] with ⟨n, hc, he⟩ | ⟨hc, ho, he⟩ | ⟨hc, ho, he⟩
  ·
    refine cw_seq ?_
    refine cw_region ?_
    refine lstep rfl rfl rfl (run_boxN (.tmp rfl)) ?_
    intro b2 _
    refine lstep rfl rfl rfl (run_box1 (.tmp rfl) rfl) ?_
    intro b3 _
    refine lstepB rfl rfl rfl (run_assign .const) ?_
    refine lstepB rfl rfl rfl (run_assign .const) ?_
    refine lnil ?_
    refine xw_then ?_
    refine cw_seq ?_
    refine cw_region ?_
    refine lstepB rfl rfl rfl (En.run_makeFunc .nil (.cons (.tmp rfl) (.cons (.tmp rfl) .nil))) ?_
    refine lstepB rfl rfl rfl (run_call1 cb54 (.cons (.tmp rfl) .nil) (fun w hS => told54_bad cb55 (fun w2 hB => find55_check hm ((hp.kept hS.kept).kept hB) (hG ((hB.block _ (hS.lt (by repeat (first | exact List.Mem.head _ | apply List.Mem.tail)))).trans (hS.mem (by repeat (first | exact List.Mem.head _ | apply List.Mem.tail))))) (hA ((hB.block _ (hS.lt (by repeat (first | exact List.Mem.head _ | apply List.Mem.tail)))).trans (hS.mem (by repeat (first | exact List.Mem.head _ | apply List.Mem.tail))))) hc))) ?_
    refine lstepB rfl rfl rfl (run_extract (.tmp rfl) rfl) ?_
    refine lstepB rfl rfl rfl (run_extract (.tmp rfl) rfl) ?_
    refine lstepB rfl rfl rfl (run_assign (.tmp rfl)) ?_
    refine lstepB rfl rfl rfl (run_assign (.tmp rfl)) ?_
    refine lnil ?_
    refine xw_then ?_
    refine cw_ret ?_
    refine xw_ret2 Try.results17 rfl rfl (fun w hS => ⟨?_, hS.kept⟩)
    simp [classV, he, errN]
  ·
    refine cw_seq ?_
    refine cw_region ?_
    refine lstep rfl rfl rfl (run_boxN (.tmp rfl)) ?_
    intro b2 _
    refine lstep rfl rfl rfl (run_box1 (.tmp rfl) rfl) ?_
    intro b3 _
    refine lstepB rfl rfl rfl (run_assign .const) ?_
    refine lstepB rfl rfl rfl (run_assign .const) ?_
    refine lnil ?_
    refine xw_then ?_
    refine cw_seq ?_
    refine cw_region ?_
    refine lstepB rfl rfl rfl (En.run_makeFunc .nil (.cons (.tmp rfl) (.cons (.tmp rfl) .nil))) ?_
    refine lstepB rfl rfl rfl (run_call1 cb54 (.cons (.tmp rfl) .nil) (fun w hS => told54_bad cb55 (fun w2 hB => find55_clash hm ((hp.kept hS.kept).kept hB) (hG ((hB.block _ (hS.lt (by repeat (first | exact List.Mem.head _ | apply List.Mem.tail)))).trans (hS.mem (by repeat (first | exact List.Mem.head _ | apply List.Mem.tail))))) (hA ((hB.block _ (hS.lt (by repeat (first | exact List.Mem.head _ | apply List.Mem.tail)))).trans (hS.mem (by repeat (first | exact List.Mem.head _ | apply List.Mem.tail))))) hc ho))) ?_
    refine lstepB rfl rfl rfl (run_extract (.tmp rfl) rfl) ?_
    refine lstepB rfl rfl rfl (run_extract (.tmp rfl) rfl) ?_
    refine lstepB rfl rfl rfl (run_assign (.tmp rfl)) ?_
    refine lstepB rfl rfl rfl (run_assign (.tmp rfl)) ?_
    refine lnil ?_
    refine xw_then ?_
    refine cw_ret ?_
    refine xw_ret2 Try.results17 rfl rfl (fun w hS => ⟨?_, hS.kept⟩)
    simp [classV, he, errN]
  ·
    refine cw_seq ?_
    refine cw_region ?_
    refine lstep rfl rfl rfl (run_boxN (.tmp rfl)) ?_
    intro b2 _
    refine lstep rfl rfl rfl (run_box1 (.tmp rfl) rfl) ?_
    intro b3 _
    refine lstepB rfl rfl rfl (run_assign .const) ?_
    refine lstepB rfl rfl rfl (run_assign .const) ?_
    refine lnil ?_
    refine xw_then ?_
    refine cw_seq ?_
    refine cw_region ?_
    refine lstepB rfl rfl rfl (En.run_makeFunc .nil (.cons (.tmp rfl) (.cons (.tmp rfl) .nil))) ?_
    refine lstepB rfl rfl rfl (run_call1 cb54 (.cons (.tmp rfl) .nil) (fun w hS => told54_ok cb55 (fun w2 hB => find55_ok hm ((hp.kept hS.kept).kept hB) (hG ((hB.block _ (hS.lt (by repeat (first | exact List.Mem.head _ | apply List.Mem.tail)))).trans (hS.mem (by repeat (first | exact List.Mem.head _ | apply List.Mem.tail))))) (hA ((hB.block _ (hS.lt (by repeat (first | exact List.Mem.head _ | apply List.Mem.tail)))).trans (hS.mem (by repeat (first | exact List.Mem.head _ | apply List.Mem.tail))))) hc ho))) ?_
    refine lstepB rfl rfl rfl (run_extract (.tmp rfl) rfl) ?_
    refine lstepB rfl rfl rfl (run_extract (.tmp rfl) rfl) ?_
    refine lstepB rfl rfl rfl (run_assign (.tmp rfl)) ?_
    refine lstepB rfl rfl rfl (run_assign (.tmp rfl)) ?_
    refine lnil ?_
    refine xw_then ?_
    refine cw_ret ?_
    refine xw_ret2 Try.results17 rfl rfl (fun w hS => ⟨?_, hS.kept⟩)
    simp [classV, he, errN]
set_option maxRecDepth 100000 in
set_option maxHeartbeats 4000000 in
theorem partsK (g : GroundD) (at_ : Int) (pa : Option Addr) (pc : Nat) (w : World) (hm : g.pits.length ≤ 1000000) (hp : PitsAt w pa g.pits) : Gives Try.prog 15 [.agg [.int .i64 g.long, .int .i64 g.rise, .int .i64 g.change, .slice pa g.pits.length pc].toArray, .int .i64 at_] w (.tuple #[.agg [.int .i64 (partsM g at_).sand.lo, .int .i64 (partsM g at_).sand.hi].toArray, .agg [.int .i64 (partsM g at_).silt.lo, .int .i64 (partsM g at_).silt.hi].toArray, .agg [.int .i64 (partsM g at_).clay.lo, .int .i64 (partsM g at_).clay.hi].toArray, .int .i64 (errN (hardE g [at_]))]) := by
  refine .mk <| enter (n := 21) Try.func15 rfl rfl rfl (by repeat (first | exact Fill.nil | apply Fill.cons)) ?_
  have hG : ∀ {b : Nat} {w2 : World}, w2.heap[b]? = some (Obj.cells [.int .i64 g.long, .int .i64 g.rise, .int .i64 g.change, .slice pa g.pits.length pc].toArray 24 (0, 0)) → GroundIn w2 b g pa pc := fun h j v hj => by
    rw [Nat.zero_add]
    simp only [World.cell?, h]
    simpa using hj
  have hA : ∀ {b : Nat} {w2 : World}, w2.heap[b]? = some (Obj.cells [.int .i64 at_].toArray 3 (0, 0)) → w2.cell? ⟨b, 0, none⟩ = some (.int .i64 at_) := fun h => by simp [World.cell?, h]
  rcases hardE_cases g [at_] with ⟨n, hc, he⟩ | ⟨hc, ho, he⟩ | ⟨hc, ho, he⟩
  ·
    refine cw_seq ?_
    refine cw_region ?_
    refine lstep rfl rfl rfl (run_boxN (.tmp rfl)) ?_
    intro b2 _
    refine lstep rfl rfl rfl (run_box1 (.tmp rfl) rfl) ?_
    intro b3 _
    refine lstep rfl rfl rfl (run_alloc zr28) ?_
    intro b4 _
    refine lstep rfl rfl rfl (run_alloc zr28) ?_
    intro b5 _
    refine lstep rfl rfl rfl (run_alloc zr28) ?_
    intro b6 _
    refine lstepB rfl rfl rfl (run_assign .const) ?_
    refine lnil ?_
    refine xw_then ?_
    refine cw_seq ?_
    refine cw_region ?_
    refine lstepB rfl rfl rfl (En.run_makeFunc .nil (.cons (.tmp rfl) (.cons (.tmp rfl) .nil))) ?_
    refine lstepB rfl rfl rfl (run_call1 cb49 (.cons (.tmp rfl) .nil) (fun w hS => told49_bad cb50 (fun w2 hB => find50_check hm ((hp.kept hS.kept).kept hB) (hG ((hB.block _ (hS.lt (by repeat (first | exact List.Mem.head _ | apply List.Mem.tail)))).trans (hS.mem (by repeat (first | exact List.Mem.head _ | apply List.Mem.tail))))) (hA ((hB.block _ (hS.lt (by repeat (first | exact List.Mem.head _ | apply List.Mem.tail)))).trans (hS.mem (by repeat (first | exact List.Mem.head _ | apply List.Mem.tail))))) hc))) ?_
    refine lstepB rfl rfl rfl (run_move (.tmp rfl)) ?_
    refine lstepB rfl rfl rfl (run_extract (.tmp rfl) rfl) ?_
    refine lstepB rfl rfl rfl (run_extract (.tmp rfl) rfl) ?_
    refine lstep rfl rfl rfl (run_alloc zr85) ?_
    intro b8 _
    refine lstep0 rfl rfl (run_storeN (.tmp rfl) (.tmp rfl) rfl sz85 rfl (by repeat (first | exact Upd.here | apply Upd.there)) (by repeat (first | exact Put.done | apply Put.put | apply Put.skip))) ?_
    refine lstepB rfl rfl rfl (run_assign (.tmp rfl)) ?_
    refine lnil ?_
    refine xw_then ?_
    refine cw_seq ?_
    refine cw_chain2 (σ := [0, 1, 2, 3, 4, 5, 6, 7, 8, 9, 10]) [⟨0, [], [], [], 0⟩, ⟨0, [0], [], [], 1⟩, ⟨0, [], [], [], 0⟩, ⟨0, [0], [], [], 4⟩, ⟨0, [], [], [], 0⟩, ⟨0, [0], [], [], 16⟩, ⟨0, [], [], [], 0⟩, ⟨0, [], [3], [3], 3⟩, ⟨0, [], [2], [2], 143⟩, ⟨0, [], [1], [1], 447⟩, ⟨0, [], [], [], 1023⟩] [(0, _), (1, _), (2, _), (3, _), (4, _), (5, _)] (by kernel_rfl) (by kernel_rfl) rfl ?_
    refine .det (B := []) rfl rfl (.inl rfl) .nil .nil rfl (RunB.lr (run_fieldAddr (.tmp rfl) fa85_0 (by first | exact Nat.zero_add _ | exact rfl))) ?_
    refine .det (B := []) rfl rfl (.inl rfl) (.cons rfl .nil) .nil rfl (RunB.lr (run_loadN (.tmp rfl) kd28 sz28 (by repeat (first | exact List.Mem.head _ | apply List.Mem.tail)) (by repeat (first | exact Sub.done | apply Sub.take | apply Sub.skip)))) ?_
    refine .det (B := []) rfl rfl (.inl rfl) .nil .nil rfl (RunB.lr (run_fieldAddr (.tmp rfl) fa85_1 (by first | exact Nat.zero_add _ | exact rfl))) ?_
    refine .det (B := []) rfl rfl (.inl rfl) (.cons rfl .nil) .nil rfl (RunB.lr (run_loadN (.tmp rfl) kd28 sz28 (by repeat (first | exact List.Mem.head _ | apply List.Mem.tail)) (by repeat (first | exact Sub.done | apply Sub.take | apply Sub.skip)))) ?_
    refine .det (B := []) rfl rfl (.inl rfl) .nil .nil rfl (RunB.lr (run_fieldAddr (.tmp rfl) fa85_2 (by first | exact Nat.zero_add _ | exact rfl))) ?_
    refine .det (B := []) rfl rfl (.inl rfl) (.cons rfl .nil) .nil rfl (RunB.lr (run_loadN (.tmp rfl) kd28 sz28 (by repeat (first | exact List.Mem.head _ | apply List.Mem.tail)) (by repeat (first | exact Sub.done | apply Sub.take | apply Sub.skip)))) ?_
    refine .det (B := []) rfl rfl (.inl rfl) .nil .nil rfl (RunB.lr (run_move (.tmp rfl))) ?_
    refine .det (B := [(3, (_, _))]) rfl rfl (.inl rfl) .nil (.cons rfl .nil) rfl (lr_storeN (.tmp rfl) (.tmp rfl) rfl sz28 rfl (by repeat (first | exact Put.done | apply Put.put | apply Put.skip))) ?_
    refine .det (B := [(2, (_, _))]) rfl rfl (.inl rfl) .nil (.cons rfl .nil) rfl (lr_storeN (.tmp rfl) (.tmp rfl) rfl sz28 rfl (by repeat (first | exact Put.done | apply Put.put | apply Put.skip))) ?_
    refine .det (B := [(1, (_, _))]) rfl rfl (.inl rfl) .nil (.cons rfl .nil) rfl (lr_storeN (.tmp rfl) (.tmp rfl) rfl sz28 rfl (by repeat (first | exact Put.done | apply Put.put | apply Put.skip))) ?_
    refine .det (B := []) rfl rfl (.inl rfl) .nil .nil rfl (RunB.lr (run_assign (.tmp rfl))) ?_
    refine chain_nil (ts := [0, 1, 2, 3, 4, 5]) (.cons rfl (.cons rfl (.cons rfl (.cons rfl (.cons rfl (.cons rfl .nil)))))) (by decide) ?_
    refine xw_then ?_
    refine cw_ret ?_
    refine xw_retM (Ds := []) fun a w hF hS => ⟨_, resCCCT Try.results15 rfl rfl rfl rfl hF (load_own hS kd28 sz28 (by repeat (first | exact List.Mem.head _ | apply List.Mem.tail)) (by repeat (first | exact Sub.done | apply Sub.take | apply Sub.skip))) (load_own hS kd28 sz28 (by repeat (first | exact List.Mem.head _ | apply List.Mem.tail)) (by repeat (first | exact Sub.done | apply Sub.take | apply Sub.skip))) (load_own hS kd28 sz28 (by repeat (first | exact List.Mem.head _ | apply List.Mem.tail)) (by repeat (first | exact Sub.done | apply Sub.take | apply Sub.skip))), ?_, hS.kept⟩
    simp [partsM, he, errN, noMix]
  ·
    refine cw_seq ?_
    refine cw_region ?_
    refine lstep rfl rfl rfl (run_boxN (.tmp rfl)) ?_
    intro b2 _
    refine lstep rfl rfl rfl (run_box1 (.tmp rfl) rfl) ?_
    intro b3 _
    refine lstep rfl rfl rfl (run_alloc zr28) ?_
    intro b4 _
    refine lstep rfl rfl rfl (run_alloc zr28) ?_
    intro b5 _
    refine lstep rfl rfl rfl (run_alloc zr28) ?_
    intro b6 _
    refine lstepB rfl rfl rfl (run_assign .const) ?_
    refine lnil ?_
    refine xw_then ?_
    refine cw_seq ?_
    refine cw_region ?_
    refine lstepB rfl rfl rfl (En.run_makeFunc .nil (.cons (.tmp rfl) (.cons (.tmp rfl) .nil))) ?_
    refine lstepB rfl rfl rfl (run_call1 cb49 (.cons (.tmp rfl) .nil) (fun w hS => told49_bad cb50 (fun w2 hB => find50_clash hm ((hp.kept hS.kept).kept hB) (hG ((hB.block _ (hS.lt (by repeat (first | exact List.Mem.head _ | apply List.Mem.tail)))).trans (hS.mem (by repeat (first | exact List.Mem.head _ | apply List.Mem.tail))))) (hA ((hB.block _ (hS.lt (by repeat (first | exact List.Mem.head _ | apply List.Mem.tail)))).trans (hS.mem (by repeat (first | exact List.Mem.head _ | apply List.Mem.tail))))) hc ho))) ?_
    refine lstepB rfl rfl rfl (run_move (.tmp rfl)) ?_
    refine lstepB rfl rfl rfl (run_extract (.tmp rfl) rfl) ?_
    refine lstepB rfl rfl rfl (run_extract (.tmp rfl) rfl) ?_
    refine lstep rfl rfl rfl (run_alloc zr85) ?_
    intro b8 _
    refine lstep0 rfl rfl (run_storeN (.tmp rfl) (.tmp rfl) rfl sz85 rfl (by repeat (first | exact Upd.here | apply Upd.there)) (by repeat (first | exact Put.done | apply Put.put | apply Put.skip))) ?_
    refine lstepB rfl rfl rfl (run_assign (.tmp rfl)) ?_
    refine lnil ?_
    refine xw_then ?_
    refine cw_seq ?_
    refine cw_chain2 (σ := [0, 1, 2, 3, 4, 5, 6, 7, 8, 9, 10]) [⟨0, [], [], [], 0⟩, ⟨0, [0], [], [], 1⟩, ⟨0, [], [], [], 0⟩, ⟨0, [0], [], [], 4⟩, ⟨0, [], [], [], 0⟩, ⟨0, [0], [], [], 16⟩, ⟨0, [], [], [], 0⟩, ⟨0, [], [3], [3], 3⟩, ⟨0, [], [2], [2], 143⟩, ⟨0, [], [1], [1], 447⟩, ⟨0, [], [], [], 1023⟩] [(0, _), (1, _), (2, _), (3, _), (4, _), (5, _)] (by kernel_rfl) (by kernel_rfl) rfl ?_
    refine .det (B := []) rfl rfl (.inl rfl) .nil .nil rfl (RunB.lr (run_fieldAddr (.tmp rfl) fa85_0 (by first | exact Nat.zero_add _ | exact rfl))) ?_
    refine .det (B := []) rfl rfl (.inl rfl) (.cons rfl .nil) .nil rfl (RunB.lr (run_loadN (.tmp rfl) kd28 sz28 (by repeat (first | exact List.Mem.head _ | apply List.Mem.tail)) (by repeat (first | exact Sub.done | apply Sub.take | apply Sub.skip)))) ?_
    refine .det (B := []) rfl rfl (.inl rfl) .nil .nil rfl (RunB.lr (run_fieldAddr (.tmp rfl) fa85_1 (by first | exact Nat.zero_add _ | exact rfl))) ?_
    refine .det (B := []) rfl rfl (.inl rfl) (.cons rfl .nil) .nil rfl (RunB.lr (run_loadN (.tmp rfl) kd28 sz28 (by repeat (first | exact List.Mem.head _ | apply List.Mem.tail)) (by repeat (first | exact Sub.done | apply Sub.take | apply Sub.skip)))) ?_
    refine .det (B := []) rfl rfl (.inl rfl) .nil .nil rfl (RunB.lr (run_fieldAddr (.tmp rfl) fa85_2 (by first | exact Nat.zero_add _ | exact rfl))) ?_
    refine .det (B := []) rfl rfl (.inl rfl) (.cons rfl .nil) .nil rfl (RunB.lr (run_loadN (.tmp rfl) kd28 sz28 (by repeat (first | exact List.Mem.head _ | apply List.Mem.tail)) (by repeat (first | exact Sub.done | apply Sub.take | apply Sub.skip)))) ?_
    refine .det (B := []) rfl rfl (.inl rfl) .nil .nil rfl (RunB.lr (run_move (.tmp rfl))) ?_
    refine .det (B := [(3, (_, _))]) rfl rfl (.inl rfl) .nil (.cons rfl .nil) rfl (lr_storeN (.tmp rfl) (.tmp rfl) rfl sz28 rfl (by repeat (first | exact Put.done | apply Put.put | apply Put.skip))) ?_
    refine .det (B := [(2, (_, _))]) rfl rfl (.inl rfl) .nil (.cons rfl .nil) rfl (lr_storeN (.tmp rfl) (.tmp rfl) rfl sz28 rfl (by repeat (first | exact Put.done | apply Put.put | apply Put.skip))) ?_
    refine .det (B := [(1, (_, _))]) rfl rfl (.inl rfl) .nil (.cons rfl .nil) rfl (lr_storeN (.tmp rfl) (.tmp rfl) rfl sz28 rfl (by repeat (first | exact Put.done | apply Put.put | apply Put.skip))) ?_
    refine .det (B := []) rfl rfl (.inl rfl) .nil .nil rfl (RunB.lr (run_assign (.tmp rfl))) ?_
    refine chain_nil (ts := [0, 1, 2, 3, 4, 5]) (.cons rfl (.cons rfl (.cons rfl (.cons rfl (.cons rfl (.cons rfl .nil)))))) (by decide) ?_
    refine xw_then ?_
    refine cw_ret ?_
    refine xw_retM (Ds := []) fun a w hF hS => ⟨_, resCCCT Try.results15 rfl rfl rfl rfl hF (load_own hS kd28 sz28 (by repeat (first | exact List.Mem.head _ | apply List.Mem.tail)) (by repeat (first | exact Sub.done | apply Sub.take | apply Sub.skip))) (load_own hS kd28 sz28 (by repeat (first | exact List.Mem.head _ | apply List.Mem.tail)) (by repeat (first | exact Sub.done | apply Sub.take | apply Sub.skip))) (load_own hS kd28 sz28 (by repeat (first | exact List.Mem.head _ | apply List.Mem.tail)) (by repeat (first | exact Sub.done | apply Sub.take | apply Sub.skip))), ?_, hS.kept⟩
    simp [partsM, he, errN, noMix]
  ·
    refine cw_seq ?_
    refine cw_region ?_
    refine lstep rfl rfl rfl (run_boxN (.tmp rfl)) ?_
    intro b2 _
    refine lstep rfl rfl rfl (run_box1 (.tmp rfl) rfl) ?_
    intro b3 _
    refine lstep rfl rfl rfl (run_alloc zr28) ?_
    intro b4 _
    refine lstep rfl rfl rfl (run_alloc zr28) ?_
    intro b5 _
    refine lstep rfl rfl rfl (run_alloc zr28) ?_
    intro b6 _
    refine lstepB rfl rfl rfl (run_assign .const) ?_
    refine lnil ?_
    refine xw_then ?_
    refine cw_seq ?_
    refine cw_region ?_
    refine lstepB rfl rfl rfl (En.run_makeFunc .nil (.cons (.tmp rfl) (.cons (.tmp rfl) .nil))) ?_
    refine lstepB rfl rfl rfl (run_call1 cb49 (.cons (.tmp rfl) .nil) (fun w hS => told49_ok cb50 (fun w2 hB => find50_ok hm ((hp.kept hS.kept).kept hB) (hG ((hB.block _ (hS.lt (by repeat (first | exact List.Mem.head _ | apply List.Mem.tail)))).trans (hS.mem (by repeat (first | exact List.Mem.head _ | apply List.Mem.tail))))) (hA ((hB.block _ (hS.lt (by repeat (first | exact List.Mem.head _ | apply List.Mem.tail)))).trans (hS.mem (by repeat (first | exact List.Mem.head _ | apply List.Mem.tail))))) hc ho))) ?_
    refine lstepB rfl rfl rfl (run_move (.tmp rfl)) ?_
    refine lstepB rfl rfl rfl (run_extract (.tmp rfl) rfl) ?_
    refine lstepB rfl rfl rfl (run_extract (.tmp rfl) rfl) ?_
    refine lstep rfl rfl rfl (run_alloc zr85) ?_
    intro b8 _
    refine lstep0 rfl rfl (run_storeN (.tmp rfl) (.tmp rfl) rfl sz85 rfl (by repeat (first | exact Upd.here | apply Upd.there)) (by repeat (first | exact Put.done | apply Put.put | apply Put.skip))) ?_
    refine lstepB rfl rfl rfl (run_assign (.tmp rfl)) ?_
    refine lnil ?_
    refine xw_then ?_
    refine cw_seq ?_
    refine cw_chain2 (σ := [0, 1, 2, 3, 4, 5, 6, 7, 8, 9, 10]) [⟨0, [], [], [], 0⟩, ⟨0, [0], [], [], 1⟩, ⟨0, [], [], [], 0⟩, ⟨0, [0], [], [], 4⟩, ⟨0, [], [], [], 0⟩, ⟨0, [0], [], [], 16⟩, ⟨0, [], [], [], 0⟩, ⟨0, [], [3], [3], 3⟩, ⟨0, [], [2], [2], 143⟩, ⟨0, [], [1], [1], 447⟩, ⟨0, [], [], [], 1023⟩] [(0, _), (1, _), (2, _), (3, _), (4, _), (5, _)] (by kernel_rfl) (by kernel_rfl) rfl ?_
    refine .det (B := []) rfl rfl (.inl rfl) .nil .nil rfl (RunB.lr (run_fieldAddr (.tmp rfl) fa85_0 (by first | exact Nat.zero_add _ | exact rfl))) ?_
    refine .det (B := []) rfl rfl (.inl rfl) (.cons rfl .nil) .nil rfl (RunB.lr (run_loadN (.tmp rfl) kd28 sz28 (by repeat (first | exact List.Mem.head _ | apply List.Mem.tail)) (by repeat (first | exact Sub.done | apply Sub.take | apply Sub.skip)))) ?_
    refine .det (B := []) rfl rfl (.inl rfl) .nil .nil rfl (RunB.lr (run_fieldAddr (.tmp rfl) fa85_1 (by first | exact Nat.zero_add _ | exact rfl))) ?_
    refine .det (B := []) rfl rfl (.inl rfl) (.cons rfl .nil) .nil rfl (RunB.lr (run_loadN (.tmp rfl) kd28 sz28 (by repeat (first | exact List.Mem.head _ | apply List.Mem.tail)) (by repeat (first | exact Sub.done | apply Sub.take | apply Sub.skip)))) ?_
    refine .det (B := []) rfl rfl (.inl rfl) .nil .nil rfl (RunB.lr (run_fieldAddr (.tmp rfl) fa85_2 (by first | exact Nat.zero_add _ | exact rfl))) ?_
    refine .det (B := []) rfl rfl (.inl rfl) (.cons rfl .nil) .nil rfl (RunB.lr (run_loadN (.tmp rfl) kd28 sz28 (by repeat (first | exact List.Mem.head _ | apply List.Mem.tail)) (by repeat (first | exact Sub.done | apply Sub.take | apply Sub.skip)))) ?_
    refine .det (B := []) rfl rfl (.inl rfl) .nil .nil rfl (RunB.lr (run_move (.tmp rfl))) ?_
    refine .det (B := [(3, (_, _))]) rfl rfl (.inl rfl) .nil (.cons rfl .nil) rfl (lr_storeN (.tmp rfl) (.tmp rfl) rfl sz28 rfl (by repeat (first | exact Put.done | apply Put.put | apply Put.skip))) ?_
    refine .det (B := [(2, (_, _))]) rfl rfl (.inl rfl) .nil (.cons rfl .nil) rfl (lr_storeN (.tmp rfl) (.tmp rfl) rfl sz28 rfl (by repeat (first | exact Put.done | apply Put.put | apply Put.skip))) ?_
    refine .det (B := [(1, (_, _))]) rfl rfl (.inl rfl) .nil (.cons rfl .nil) rfl (lr_storeN (.tmp rfl) (.tmp rfl) rfl sz28 rfl (by repeat (first | exact Put.done | apply Put.put | apply Put.skip))) ?_
    refine .det (B := []) rfl rfl (.inl rfl) .nil .nil rfl (RunB.lr (run_assign (.tmp rfl))) ?_
    refine chain_nil (ts := [0, 1, 2, 3, 4, 5]) (.cons rfl (.cons rfl (.cons rfl (.cons rfl (.cons rfl (.cons rfl .nil)))))) (by decide) ?_
    refine xw_then ?_
    refine cw_ret ?_
    refine xw_retM (Ds := []) fun a w hF hS => ⟨_, resCCCT Try.results15 rfl rfl rfl rfl hF (load_own hS kd28 sz28 (by repeat (first | exact List.Mem.head _ | apply List.Mem.tail)) (by repeat (first | exact Sub.done | apply Sub.take | apply Sub.skip))) (load_own hS kd28 sz28 (by repeat (first | exact List.Mem.head _ | apply List.Mem.tail)) (by repeat (first | exact Sub.done | apply Sub.take | apply Sub.skip))) (load_own hS kd28 sz28 (by repeat (first | exact List.Mem.head _ | apply List.Mem.tail)) (by repeat (first | exact Sub.done | apply Sub.take | apply Sub.skip))), ?_, hS.kept⟩
    simp [partsM, he, errN, noMix]
end Go.Proofs.Ytfmbnobkenngaaa
