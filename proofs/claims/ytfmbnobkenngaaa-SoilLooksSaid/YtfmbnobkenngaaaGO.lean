/- Package soil: what Hard, Parts and Class find. -/
import Derived.Test.YtfmbnobkenngaaaGN
import Derived.Test.YtfmbnobkenngaaaGF
namespace Go.Proofs.Ytfmbnobkenngaaa
open Go.RowKit En

theorem look_ok {g : GroundD} {pa : Option Addr} {pc : Nat} {w : World} (hg : ValidG g) (hp : PitsAt w pa g.pits) (ho : lookOk g = true) : CallsF Try.prog 45 (([.agg [.int .i64 g.long, .int .i64 g.rise, .int .i64 g.change, .slice pa g.pits.length pc].toArray] : List Value)).toArray w fun e w' => ∃ q : Nat × Nat × List Value × Nat, InRow 2 (hardL g).length q.2.1 q.2.2.1 (spansC (hardL g)) ∧ e = .returned (.agg [.int .i64 g.long, .int .i64 g.rise, .int .i64 g.change, .slice pa g.pits.length pc, .slice (some ⟨q.1, 0, none⟩) (hardL g).length q.2.1, .slice (some ⟨q.2.2.2, 0, none⟩) (placesN g) (placesN g)].toArray) ∧ St w NoT [(q.1, Obj.cells q.2.2.1.toArray 28 (0, 0)), (q.2.2.2, Obj.cells (mixesC (soilsL g)).toArray 85 (0, 0))] w' :=
  (lookK g pa pc w hg hp).mono fun e w' h => by
    rcases h with ⟨_, q, h1, h2, h3⟩ | ⟨h, _⟩
    · exact ⟨q, h2, h1, h3⟩
    · rw [ho] at h; cases h
theorem look_bad {g : GroundD} {pa : Option Addr} {pc : Nat} {w : World} (hg : ValidG g) (hp : PitsAt w pa g.pits) (ho : lookOk g = false) : Pans Try.prog 45 [.agg [.int .i64 g.long, .int .i64 g.rise, .int .i64 g.change, .slice pa g.pits.length pc].toArray] w [errP 10] :=
  (lookK g pa pc w hg hp).mono fun e w' h => by
    rcases h with ⟨h, _⟩ | ⟨_, h1, h2⟩
    · rw [ho] at h; cases h
    · exact ⟨h1, h2⟩
theorem look_ne (g : GroundD) (hg : ValidG g) : ∃ q : Nat × Nat × List Value × Nat, InRow 2 (hardL g).length q.2.1 q.2.2.1 (spansC (hardL g)) :=
  ⟨(0, (hardL g).length, spansC (hardL g), 0), Nat.le_refl _, by have := hg.long; show (hardL g).length ≤ maxLen; rw [hardL_length]; unfold maxLen; omega, spansC_length _, by rw [← spansC_length, List.take_length]⟩
theorem row_span {w : World} {b cap n : Nat} {cur : List Value} {te : TypeId} {fr : Nat × Nat} {L : List SpanD} {i : Nat} {s : SpanD} (h : w.heap[b]? = some (.cells cur.toArray te fr)) (hr : InRow 2 n cap cur (spansC L)) (hs : L[i]? = some s) : ∀ j v, (spanC s)[j]? = some v → w.cell? ⟨b, i * 2 + j, none⟩ = some v := fun j v hj => by
  obtain ⟨a1, a2⟩ := spansC_at L i s hs
  match j, hj with
  | 0, hj => cases hj; have := hr.get a1; simp [World.cell?, h, this]
  | 1, hj => cases hj; have := hr.get a2; simp [World.cell?, h, this]
def GroundIn (w : World) (b : Nat) (g : GroundD) (pa : Option Addr) (pc : Nat) : Prop := ∀ j v, ([.int .i64 g.long, .int .i64 g.rise, .int .i64 g.change, .slice pa g.pits.length pc] : List Value)[j]? = some v → w.cell? ⟨b, 0 + j, none⟩ = some v
theorem check_valid {g : GroundD} {l : List Int} (h : checkE g l = none) : ValidG g ∧ ∀ n ∈ l, 0 ≤ n ∧ n ≤ g.long := by
  unfold checkE at h
  split at h
  · rename_i hv
    refine ⟨validG hv, fun n hn => ?_⟩
    split at h
    · rename_i ha
      have := List.all_eq_true.1 ha n hn
      simpa [upToB] using this
    · cases h
  · cases h
theorem soilsL_in20 {g : GroundD} (hg : ValidG g) : ∀ m ∈ soilsL g, In20M m := wayF_in20 (wayF_in20 (dugL_in20 hg) _) _
set_option maxRecDepth 100000 in
set_option maxHeartbeats 4000000 in
theorem find43_check {g : GroundD} {at_ n : Int} {pa : Option Addr} {pc b1 b2 : Nat} {w : World} (hm : g.pits.length ≤ 1000000) (hp : PitsAt w pa g.pits) (hG : GroundIn w b1 g pa pc) (hA : w.cell? ⟨b2, 0, none⟩ = some (.int .i64 at_)) (hc : checkE g [at_] = some n) : Pans Try.prog 43 [.pointer (some ⟨b1, 0, none⟩), .pointer (some ⟨b2, 0, none⟩)] w [errP n] := by
  refine enter (n := 13) Try.func43 rfl rfl rfl (by repeat (first | exact Fill.nil | apply Fill.cons)) ?_
  refine cw_seq ?_
  refine cw_region ?_
  refine lstep rfl rfl rfl (run_alloc zr28) ?_
  intro b2 _
  refine lnil ?_
  refine xw_then ?_
  refine cw_seq ?_
  refine cw_region ?_
  refine lstepB rfl rfl rfl (run_loadN_at (l := [.int .i64 g.long, .int .i64 g.rise, .int .i64 g.change, .slice pa g.pits.length pc]) (.tmp rfl) kd24 sz24 rfl (fun w' hS j v hj => hS.old_cell (fun h => h) (hG j v hj))) ?_
  refine lstepB rfl rfl rfl (run_load1_at (.tmp rfl) kd3 (fun w' hS => hS.old_cell (fun h => h) hA)) ?_
  refine lstep rfl rfl rfl (LR.runs (lr_buildSlice_at (.cons (.tmp rfl) .nil) (fun w => bs102_1_0 w)) (by repeat (first | exact Pick.nil | (apply Pick.cons; focus (repeat (first | exact Del.here | apply Del.there))))) (by repeat (first | exact Dels.nil | (apply Dels.cons; focus (repeat (first | exact Del.here | apply Del.there)))))) ?_
  intro b5 _
  refine lpans rfl cb44 (.cons (.tmp rfl) (.cons (.tmp rfl) .nil)) (fun w2 hS => pans_of (checkK g [at_] pa _ pc 1 w2 hm (by simp) (hp.kept hS.kept) (ints1 (hS.mem (by repeat (first | exact List.Mem.head _ | apply List.Mem.tail))))) hc) ?_
  refine xw_then_panic ?_
  refine xw_panic (fun w hS => ⟨rfl, hS.kept⟩)
set_option maxRecDepth 100000 in
set_option maxHeartbeats 4000000 in
theorem find43_clash {g : GroundD} {at_ : Int} {pa : Option Addr} {pc b1 b2 : Nat} {w : World} (hm : g.pits.length ≤ 1000000) (hp : PitsAt w pa g.pits) (hG : GroundIn w b1 g pa pc) (hA : w.cell? ⟨b2, 0, none⟩ = some (.int .i64 at_)) (hc : checkE g [at_] = none) (ho : lookOk g = false) : Pans Try.prog 43 [.pointer (some ⟨b1, 0, none⟩), .pointer (some ⟨b2, 0, none⟩)] w [errP 10] := by
  obtain ⟨hg, hat⟩ := check_valid hc
  have hat := hat at_ (by simp)
  refine enter (n := 13) Try.func43 rfl rfl rfl (by repeat (first | exact Fill.nil | apply Fill.cons)) ?_
  refine cw_seq ?_
  refine cw_region ?_
  refine lstep rfl rfl rfl (run_alloc zr28) ?_
  intro b2 _
  refine lnil ?_
  refine xw_then ?_
  refine cw_seq ?_
  refine cw_region ?_
  refine lstepB rfl rfl rfl (run_loadN_at (l := [.int .i64 g.long, .int .i64 g.rise, .int .i64 g.change, .slice pa g.pits.length pc]) (.tmp rfl) kd24 sz24 rfl (fun w' hS j v hj => hS.old_cell (fun h => h) (hG j v hj))) ?_
  refine lstepB rfl rfl rfl (run_load1_at (.tmp rfl) kd3 (fun w' hS => hS.old_cell (fun h => h) hA)) ?_
  refine lstep rfl rfl rfl (LR.runs (lr_buildSlice_at (.cons (.tmp rfl) .nil) (fun w => bs102_1_0 w)) (by repeat (first | exact Pick.nil | (apply Pick.cons; focus (repeat (first | exact Del.here | apply Del.there))))) (by repeat (first | exact Dels.nil | (apply Dels.cons; focus (repeat (first | exact Del.here | apply Del.there)))))) ?_
  intro b5 _
  refine lstepB rfl rfl rfl (run_call1 cb44 (.cons (.tmp rfl) (.cons (.tmp rfl) .nil)) (fun w2 hS => gives_of (checkK g [at_] pa _ pc 1 w2 hm (by simp) (hp.kept hS.kept) (ints1 (hS.mem (by repeat (first | exact List.Mem.head _ | apply List.Mem.tail))))) hc)) ?_
  refine lnil ?_
  refine xw_then ?_
  refine cw_seq ?_
  have hb : ∀ w2, Below w.heap.size w w2 → Pans Try.prog 45 [.agg [.int .i64 g.long, .int .i64 g.rise, .int .i64 g.change, .slice pa g.pits.length pc].toArray] w2 [errP 10] := fun w2 hB => look_bad hg (hp.kept hB) ho
  refine cw_anyP (j := 1) [⟨0, [], [], [], 0⟩, ⟨0, [], [], [], 1⟩, ⟨0, [], [], [], 3⟩, ⟨0, [], [], [], 0⟩, ⟨0, [], [], [], 15⟩, ⟨0, [], [], [], 31⟩, ⟨0, [], [], [], 63⟩] [(0, 7, .agg [.int .i64 g.long, .int .i64 g.rise, .int .i64 g.change, .slice pa g.pits.length pc].toArray), (3, 10, .int .i64 at_)] (by kernel_rfl) (by kernel_rfl) (.cons ⟨[], _, rfl, rfl, rfl, rfl, run_loadN_at (l := [.int .i64 g.long, .int .i64 g.rise, .int .i64 g.change, .slice pa g.pits.length pc]) (.tmp rfl) kd24 sz24 rfl (fun w' hS j v hj => hS.old_cell (fun h => h) (hG j v hj))⟩ (.cons ⟨[], _, rfl, rfl, rfl, rfl, run_load1_at (.tmp rfl) kd3 (fun w' hS => hS.old_cell (fun h => h) hA)⟩ .nil)) ?_
  refine panJ [0] rfl (by kernel_rfl) cb45 (.cons (.tmp rfl) .nil) (fun w2 hS => hb w2 hS.kept) ?_
  refine xw_then_panic ?_
  refine xw_panic (fun w hS => ⟨rfl, hS.kept⟩)
set_option maxRecDepth 100000 in
set_option maxHeartbeats 4000000 in
theorem find43_ok {g : GroundD} {at_ : Int} {pa : Option Addr} {pc b1 b2 : Nat} {w : World} (hm : g.pits.length ≤ 1000000) (hp : PitsAt w pa g.pits) (hG : GroundIn w b1 g pa pc) (hA : w.cell? ⟨b2, 0, none⟩ = some (.int .i64 at_)) (hc : checkE g [at_] = none) (ho : lookOk g = true) : Gives Try.prog 43 [.pointer (some ⟨b1, 0, none⟩), .pointer (some ⟨b2, 0, none⟩)] w (.agg [.int .i64 (commonS (voicesL g) ((at_.toNat : Nat) : Int)).lo, .int .i64 (commonS (voicesL g) ((at_.toNat : Nat) : Int)).hi].toArray) := by
  obtain ⟨hg, hat⟩ := check_valid hc
  have hat := hat at_ (by simp)
  have hlen : (hardL g).length = placesN g := hardL_length g
  have hll := soilsL_length g
  have hlt : at_.toNat < placesN g := by unfold placesN; omega
  refine .mk <| enter (n := 13) Try.func43 rfl rfl rfl (by repeat (first | exact Fill.nil | apply Fill.cons)) ?_
  refine cw_seq ?_
  refine cw_region ?_
  refine lstep rfl rfl rfl (run_alloc zr28) ?_
  intro b2 _
  refine lnil ?_
  refine xw_then ?_
  refine cw_seq ?_
  refine cw_region ?_
  refine lstepB rfl rfl rfl (run_loadN_at (l := [.int .i64 g.long, .int .i64 g.rise, .int .i64 g.change, .slice pa g.pits.length pc]) (.tmp rfl) kd24 sz24 rfl (fun w' hS j v hj => hS.old_cell (fun h => h) (hG j v hj))) ?_
  refine lstepB rfl rfl rfl (run_load1_at (.tmp rfl) kd3 (fun w' hS => hS.old_cell (fun h => h) hA)) ?_
  refine lstep rfl rfl rfl (LR.runs (lr_buildSlice_at (.cons (.tmp rfl) .nil) (fun w => bs102_1_0 w)) (by repeat (first | exact Pick.nil | (apply Pick.cons; focus (repeat (first | exact Del.here | apply Del.there))))) (by repeat (first | exact Dels.nil | (apply Dels.cons; focus (repeat (first | exact Del.here | apply Del.there)))))) ?_
  intro b5 _
  refine lstepB rfl rfl rfl (run_call1 cb44 (.cons (.tmp rfl) (.cons (.tmp rfl) .nil)) (fun w2 hS => gives_of (checkK g [at_] pa _ pc 1 w2 hm (by simp) (hp.kept hS.kept) (ints1 (hS.mem (by repeat (first | exact List.Mem.head _ | apply List.Mem.tail))))) hc)) ?_
  refine lnil ?_
  refine xw_then ?_
  refine cw_seq ?_
  refine cw_chain2 (σ := [0, 3, 1, 2, 4, 5, 6]) [⟨0, [], [], [], 0⟩, ⟨1, [], [], [2, 3], 1⟩, ⟨0, [], [], [], 3⟩, ⟨0, [], [], [], 0⟩, ⟨0, [], [], [], 15⟩, ⟨0, [2], [], [], 31⟩, ⟨0, [], [1], [1], 63⟩] [(0, _), (1, _)] (by kernel_rfl) (by kernel_rfl) rfl ?_
  refine .det (B := []) rfl rfl (.inl rfl) .nil .nil rfl (RunB.lr (run_loadN_at (l := [.int .i64 g.long, .int .i64 g.rise, .int .i64 g.change, .slice pa g.pits.length pc]) (.tmp rfl) kd24 sz24 rfl (fun w' hS j v hj => hS.old_cell (fun h => h) (hG j v hj)))) ?_
  refine .det (B := []) rfl rfl (.inl rfl) .nil .nil rfl (RunB.lr (run_load1_at (v := .int .i64 ((at_.toNat : Nat) : Int)) (.tmp rfl) kd3 (fun w' hS => by rw [Int.toNat_of_nonneg hat.1]; exact hS.old_cell (fun h => h) hA))) ?_
  refine .ext (B := fun q => [(2, (q.1, _)), (3, (q.2.2.2, _))]) rfl rfl (.inl rfl) .nil .nil (fun _ => rfl) (look_ne g hg) (lr_gives cb45 (.cons (.tmp rfl) .nil) (fun w2 hS => look_ok hg (hp.kept hS.kept) ho)) ?_
  rintro ⟨gH, cH, rH, gM⟩ hH
  refine .det (B := []) rfl rfl (.inl rfl) .nil .nil rfl (RunB.lr (run_field1 (.tmp rfl) ft78_1 kd58 (by exact rfl))) ?_
  refine .det (B := []) rfl rfl (.inl rfl) .nil .nil rfl (RunB.lr (run_indexAddr (i := at_.toNat) (off' := at_.toNat * 2) (.tmp rfl) (.tmp rfl) el58 (by omega) (Nat.zero_add _))) ?_
  refine .det (B := []) rfl rfl (.inl rfl) (.cons rfl .nil) .nil rfl (RunB.lr (run_loadN_at (l := spanC (commonS (voicesL g) ((at_.toNat : Nat) : Int))) (.tmp rfl) kd28 sz28 rfl (fun w hS j v hj => row_span (hS.mem (by repeat (first | exact List.Mem.head _ | apply List.Mem.tail))) hH (hardL_at hlt) j v hj))) ?_
  refine .det (B := [(1, (_, _))]) rfl rfl (.inl rfl) .nil (.cons rfl .nil) rfl (lr_storeN (.tmp rfl) (.tmp rfl) rfl sz28 rfl (by repeat (first | exact Put.done | apply Put.put | apply Put.skip))) ?_
  refine chain_nil (ts := [3, 2, 0, 1]) (.cons rfl (.cons rfl (.cons rfl (.cons rfl .nil)))) (by decide) ?_
  refine xw_then ?_
  refine cw_ret ?_
  refine xw_retC1 rfl rfl kd28 sz28 (by repeat (first | exact List.Mem.head _ | apply List.Mem.tail)) (by repeat (first | exact Sub.done | apply Sub.take | apply Sub.skip)) (fun w hS => ⟨rfl, hS.kept⟩)
set_option maxRecDepth 100000 in
set_option maxHeartbeats 4000000 in
theorem find50_check {g : GroundD} {at_ n : Int} {pa : Option Addr} {pc b1 b2 : Nat} {w : World} (hm : g.pits.length ≤ 1000000) (hp : PitsAt w pa g.pits) (hG : GroundIn w b1 g pa pc) (hA : w.cell? ⟨b2, 0, none⟩ = some (.int .i64 at_)) (hc : checkE g [at_] = some n) : Pans Try.prog 50 [.pointer (some ⟨b1, 0, none⟩), .pointer (some ⟨b2, 0, none⟩)] w [errP n] := by
  refine enter (n := 13) Try.func50 rfl rfl rfl (by repeat (first | exact Fill.nil | apply Fill.cons)) ?_
  refine cw_seq ?_
  refine cw_region ?_
  refine lstep rfl rfl rfl (run_alloc zr85) ?_
  intro b2 _
  refine lnil ?_
  refine xw_then ?_
  refine cw_seq ?_
  refine cw_region ?_
  refine lstepB rfl rfl rfl (run_loadN_at (l := [.int .i64 g.long, .int .i64 g.rise, .int .i64 g.change, .slice pa g.pits.length pc]) (.tmp rfl) kd24 sz24 rfl (fun w' hS j v hj => hS.old_cell (fun h => h) (hG j v hj))) ?_
  refine lstepB rfl rfl rfl (run_load1_at (.tmp rfl) kd3 (fun w' hS => hS.old_cell (fun h => h) hA)) ?_
  refine lstep rfl rfl rfl (LR.runs (lr_buildSlice_at (.cons (.tmp rfl) .nil) (fun w => bs102_1_0 w)) (by repeat (first | exact Pick.nil | (apply Pick.cons; focus (repeat (first | exact Del.here | apply Del.there))))) (by repeat (first | exact Dels.nil | (apply Dels.cons; focus (repeat (first | exact Del.here | apply Del.there)))))) ?_
  intro b5 _
  refine lpans rfl cb44 (.cons (.tmp rfl) (.cons (.tmp rfl) .nil)) (fun w2 hS => pans_of (checkK g [at_] pa _ pc 1 w2 hm (by simp) (hp.kept hS.kept) (ints1 (hS.mem (by repeat (first | exact List.Mem.head _ | apply List.Mem.tail))))) hc) ?_
  refine xw_then_panic ?_
  refine xw_panic (fun w hS => ⟨rfl, hS.kept⟩)
set_option maxRecDepth 100000 in
set_option maxHeartbeats 4000000 in
theorem find50_clash {g : GroundD} {at_ : Int} {pa : Option Addr} {pc b1 b2 : Nat} {w : World} (hm : g.pits.length ≤ 1000000) (hp : PitsAt w pa g.pits) (hG : GroundIn w b1 g pa pc) (hA : w.cell? ⟨b2, 0, none⟩ = some (.int .i64 at_)) (hc : checkE g [at_] = none) (ho : lookOk g = false) : Pans Try.prog 50 [.pointer (some ⟨b1, 0, none⟩), .pointer (some ⟨b2, 0, none⟩)] w [errP 10] := by
  obtain ⟨hg, hat⟩ := check_valid hc
  have hat := hat at_ (by simp)
  refine enter (n := 13) Try.func50 rfl rfl rfl (by repeat (first | exact Fill.nil | apply Fill.cons)) ?_
  refine cw_seq ?_
  refine cw_region ?_
  refine lstep rfl rfl rfl (run_alloc zr85) ?_
  intro b2 _
  refine lnil ?_
  refine xw_then ?_
  refine cw_seq ?_
  refine cw_region ?_
  refine lstepB rfl rfl rfl (run_loadN_at (l := [.int .i64 g.long, .int .i64 g.rise, .int .i64 g.change, .slice pa g.pits.length pc]) (.tmp rfl) kd24 sz24 rfl (fun w' hS j v hj => hS.old_cell (fun h => h) (hG j v hj))) ?_
  refine lstepB rfl rfl rfl (run_load1_at (.tmp rfl) kd3 (fun w' hS => hS.old_cell (fun h => h) hA)) ?_
  refine lstep rfl rfl rfl (LR.runs (lr_buildSlice_at (.cons (.tmp rfl) .nil) (fun w => bs102_1_0 w)) (by repeat (first | exact Pick.nil | (apply Pick.cons; focus (repeat (first | exact Del.here | apply Del.there))))) (by repeat (first | exact Dels.nil | (apply Dels.cons; focus (repeat (first | exact Del.here | apply Del.there)))))) ?_
  intro b5 _
  refine lstepB rfl rfl rfl (run_call1 cb44 (.cons (.tmp rfl) (.cons (.tmp rfl) .nil)) (fun w2 hS => gives_of (checkK g [at_] pa _ pc 1 w2 hm (by simp) (hp.kept hS.kept) (ints1 (hS.mem (by repeat (first | exact List.Mem.head _ | apply List.Mem.tail))))) hc)) ?_
  refine lnil ?_
  refine xw_then ?_
  refine cw_seq ?_
  have hb : ∀ w2, Below w.heap.size w w2 → Pans Try.prog 45 [.agg [.int .i64 g.long, .int .i64 g.rise, .int .i64 g.change, .slice pa g.pits.length pc].toArray] w2 [errP 10] := fun w2 hB => look_bad hg (hp.kept hB) ho
  refine cw_anyP (j := 1) [⟨0, [], [], [], 0⟩, ⟨0, [], [], [], 1⟩, ⟨0, [], [], [], 3⟩, ⟨0, [], [], [], 0⟩, ⟨0, [], [], [], 15⟩, ⟨0, [], [], [], 31⟩, ⟨0, [], [], [], 63⟩] [(0, 7, .agg [.int .i64 g.long, .int .i64 g.rise, .int .i64 g.change, .slice pa g.pits.length pc].toArray), (3, 10, .int .i64 at_)] (by kernel_rfl) (by kernel_rfl) (.cons ⟨[], _, rfl, rfl, rfl, rfl, run_loadN_at (l := [.int .i64 g.long, .int .i64 g.rise, .int .i64 g.change, .slice pa g.pits.length pc]) (.tmp rfl) kd24 sz24 rfl (fun w' hS j v hj => hS.old_cell (fun h => h) (hG j v hj))⟩ (.cons ⟨[], _, rfl, rfl, rfl, rfl, run_load1_at (.tmp rfl) kd3 (fun w' hS => hS.old_cell (fun h => h) hA)⟩ .nil)) ?_
  refine panJ [0] rfl (by kernel_rfl) cb45 (.cons (.tmp rfl) .nil) (fun w2 hS => hb w2 hS.kept) ?_
  refine xw_then_panic ?_
  refine xw_panic (fun w hS => ⟨rfl, hS.kept⟩)
set_option maxRecDepth 100000 in
set_option maxHeartbeats 4000000 in
theorem find50_ok {g : GroundD} {at_ : Int} {pa : Option Addr} {pc b1 b2 : Nat} {w : World} (hm : g.pits.length ≤ 1000000) (hp : PitsAt w pa g.pits) (hG : GroundIn w b1 g pa pc) (hA : w.cell? ⟨b2, 0, none⟩ = some (.int .i64 at_)) (hc : checkE g [at_] = none) (ho : lookOk g = true) : Gives Try.prog 50 [.pointer (some ⟨b1, 0, none⟩), .pointer (some ⟨b2, 0, none⟩)] w (.agg [.int .i64 ((soilsL g).getD at_.toNat noMix).sand.lo, .int .i64 ((soilsL g).getD at_.toNat noMix).sand.hi, .int .i64 ((soilsL g).getD at_.toNat noMix).silt.lo, .int .i64 ((soilsL g).getD at_.toNat noMix).silt.hi, .int .i64 ((soilsL g).getD at_.toNat noMix).clay.lo, .int .i64 ((soilsL g).getD at_.toNat noMix).clay.hi].toArray) := by
  obtain ⟨hg, hat⟩ := check_valid hc
  have hat := hat at_ (by simp)
  have hlen : (hardL g).length = placesN g := hardL_length g
  have hll := soilsL_length g
  have hlt : at_.toNat < placesN g := by unfold placesN; omega
  refine .mk <| enter (n := 13) Try.func50 rfl rfl rfl (by repeat (first | exact Fill.nil | apply Fill.cons)) ?_
  refine cw_seq ?_
  refine cw_region ?_
  refine lstep rfl rfl rfl (run_alloc zr85) ?_
  intro b2 _
  refine lnil ?_
  refine xw_then ?_
  refine cw_seq ?_
  refine cw_region ?_
  refine lstepB rfl rfl rfl (run_loadN_at (l := [.int .i64 g.long, .int .i64 g.rise, .int .i64 g.change, .slice pa g.pits.length pc]) (.tmp rfl) kd24 sz24 rfl (fun w' hS j v hj => hS.old_cell (fun h => h) (hG j v hj))) ?_
  refine lstepB rfl rfl rfl (run_load1_at (.tmp rfl) kd3 (fun w' hS => hS.old_cell (fun h => h) hA)) ?_
  refine lstep rfl rfl rfl (LR.runs (lr_buildSlice_at (.cons (.tmp rfl) .nil) (fun w => bs102_1_0 w)) (by repeat (first | exact Pick.nil | (apply Pick.cons; focus (repeat (first | exact Del.here | apply Del.there))))) (by repeat (first | exact Dels.nil | (apply Dels.cons; focus (repeat (first | exact Del.here | apply Del.there)))))) ?_
  intro b5 _
  refine lstepB rfl rfl rfl (run_call1 cb44 (.cons (.tmp rfl) (.cons (.tmp rfl) .nil)) (fun w2 hS => gives_of (checkK g [at_] pa _ pc 1 w2 hm (by simp) (hp.kept hS.kept) (ints1 (hS.mem (by repeat (first | exact List.Mem.head _ | apply List.Mem.tail))))) hc)) ?_
  refine lnil ?_
  refine xw_then ?_
  refine cw_seq ?_
  refine cw_chain2 (σ := [0, 3, 1, 2, 4, 5, 6]) [⟨0, [], [], [], 0⟩, ⟨1, [], [], [2, 3], 1⟩, ⟨0, [], [], [], 3⟩, ⟨0, [], [], [], 0⟩, ⟨0, [], [], [], 15⟩, ⟨0, [3], [], [], 31⟩, ⟨0, [], [1], [1], 63⟩] [(0, _), (1, _)] (by kernel_rfl) (by kernel_rfl) rfl ?_
  refine .det (B := []) rfl rfl (.inl rfl) .nil .nil rfl (RunB.lr (run_loadN_at (l := [.int .i64 g.long, .int .i64 g.rise, .int .i64 g.change, .slice pa g.pits.length pc]) (.tmp rfl) kd24 sz24 rfl (fun w' hS j v hj => hS.old_cell (fun h => h) (hG j v hj)))) ?_
  refine .det (B := []) rfl rfl (.inl rfl) .nil .nil rfl (RunB.lr (run_load1_at (v := .int .i64 ((at_.toNat : Nat) : Int)) (.tmp rfl) kd3 (fun w' hS => by rw [Int.toNat_of_nonneg hat.1]; exact hS.old_cell (fun h => h) hA))) ?_
  refine .ext (B := fun q => [(2, (q.1, _)), (3, (q.2.2.2, _))]) rfl rfl (.inl rfl) .nil .nil (fun _ => rfl) (look_ne g hg) (lr_gives cb45 (.cons (.tmp rfl) .nil) (fun w2 hS => look_ok hg (hp.kept hS.kept) ho)) ?_
  rintro ⟨gH, cH, rH, gM⟩ hH
  refine .det (B := []) rfl rfl (.inl rfl) .nil .nil rfl (RunB.lr (run_field1 (.tmp rfl) ft78_2 kd76 (by exact rfl))) ?_
  refine .det (B := []) rfl rfl (.inl rfl) .nil .nil rfl (RunB.lr (run_indexAddr (i := at_.toNat) (off' := at_.toNat * 6) (.tmp rfl) (.tmp rfl) el76 (by omega) (Nat.zero_add _))) ?_
  refine .det (B := []) rfl rfl (.inl rfl) (.cons rfl .nil) .nil rfl (RunB.lr (run_loadN (l := mixC ((soilsL g).getD at_.toNat noMix)) (.tmp rfl) kd85 sz85 (by repeat (first | exact List.Mem.head _ | apply List.Mem.tail)) (sub_getD (by omega)))) ?_
  refine .det (B := [(1, (_, _))]) rfl rfl (.inl rfl) .nil (.cons rfl .nil) rfl (lr_storeN (.tmp rfl) (.tmp rfl) rfl sz85 rfl (by repeat (first | exact Put.done | apply Put.put | apply Put.skip))) ?_
  refine chain_nil (ts := [3, 2, 0, 1]) (.cons rfl (.cons rfl (.cons rfl (.cons rfl .nil)))) (by decide) ?_
  refine xw_then ?_
  refine cw_ret ?_
  refine xw_retC1 rfl rfl kd85 sz85 (by repeat (first | exact List.Mem.head _ | apply List.Mem.tail)) (by repeat (first | exact Sub.done | apply Sub.take | apply Sub.skip)) (fun w hS => ⟨rfl, hS.kept⟩)
set_option maxRecDepth 100000 in
set_option maxHeartbeats 4000000 in
theorem find55_check {g : GroundD} {at_ n : Int} {pa : Option Addr} {pc b1 b2 : Nat} {w : World} (hm : g.pits.length ≤ 1000000) (hp : PitsAt w pa g.pits) (hG : GroundIn w b1 g pa pc) (hA : w.cell? ⟨b2, 0, none⟩ = some (.int .i64 at_)) (hc : checkE g [at_] = some n) : Pans Try.prog 55 [.pointer (some ⟨b1, 0, none⟩), .pointer (some ⟨b2, 0, none⟩)] w [errP n] := by
  refine enter (n := 14) Try.func55 rfl rfl rfl (by repeat (first | exact Fill.nil | apply Fill.cons)) ?_
  refine cw_seq ?_
  refine cw_region ?_
  refine lstepB rfl rfl rfl (run_assign .const) ?_
  refine lnil ?_
  refine xw_then ?_
  refine cw_seq ?_
  refine cw_region ?_
  refine lstepB rfl rfl rfl (run_loadN_at (l := [.int .i64 g.long, .int .i64 g.rise, .int .i64 g.change, .slice pa g.pits.length pc]) (.tmp rfl) kd24 sz24 rfl (fun w' hS j v hj => hS.old_cell (fun h => h) (hG j v hj))) ?_
  refine lstepB rfl rfl rfl (run_load1_at (.tmp rfl) kd3 (fun w' hS => hS.old_cell (fun h => h) hA)) ?_
  refine lstep rfl rfl rfl (LR.runs (lr_buildSlice_at (.cons (.tmp rfl) .nil) (fun w => bs102_1_0 w)) (by repeat (first | exact Pick.nil | (apply Pick.cons; focus (repeat (first | exact Del.here | apply Del.there))))) (by repeat (first | exact Dels.nil | (apply Dels.cons; focus (repeat (first | exact Del.here | apply Del.there)))))) ?_
  intro b5 _
  refine lpans rfl cb44 (.cons (.tmp rfl) (.cons (.tmp rfl) .nil)) (fun w2 hS => pans_of (checkK g [at_] pa _ pc 1 w2 hm (by simp) (hp.kept hS.kept) (ints1 (hS.mem (by repeat (first | exact List.Mem.head _ | apply List.Mem.tail))))) hc) ?_
  refine xw_then_panic ?_
  refine xw_panic (fun w hS => ⟨rfl, hS.kept⟩)
set_option maxRecDepth 100000 in
set_option maxHeartbeats 4000000 in
theorem find55_clash {g : GroundD} {at_ : Int} {pa : Option Addr} {pc b1 b2 : Nat} {w : World} (hm : g.pits.length ≤ 1000000) (hp : PitsAt w pa g.pits) (hG : GroundIn w b1 g pa pc) (hA : w.cell? ⟨b2, 0, none⟩ = some (.int .i64 at_)) (hc : checkE g [at_] = none) (ho : lookOk g = false) : Pans Try.prog 55 [.pointer (some ⟨b1, 0, none⟩), .pointer (some ⟨b2, 0, none⟩)] w [errP 10] := by
  obtain ⟨hg, hat⟩ := check_valid hc
  have hat := hat at_ (by simp)
  refine enter (n := 14) Try.func55 rfl rfl rfl (by repeat (first | exact Fill.nil | apply Fill.cons)) ?_
  refine cw_seq ?_
  refine cw_region ?_
  refine lstepB rfl rfl rfl (run_assign .const) ?_
  refine lnil ?_
  refine xw_then ?_
  refine cw_seq ?_
  refine cw_region ?_
  refine lstepB rfl rfl rfl (run_loadN_at (l := [.int .i64 g.long, .int .i64 g.rise, .int .i64 g.change, .slice pa g.pits.length pc]) (.tmp rfl) kd24 sz24 rfl (fun w' hS j v hj => hS.old_cell (fun h => h) (hG j v hj))) ?_
  refine lstepB rfl rfl rfl (run_load1_at (.tmp rfl) kd3 (fun w' hS => hS.old_cell (fun h => h) hA)) ?_
  refine lstep rfl rfl rfl (LR.runs (lr_buildSlice_at (.cons (.tmp rfl) .nil) (fun w => bs102_1_0 w)) (by repeat (first | exact Pick.nil | (apply Pick.cons; focus (repeat (first | exact Del.here | apply Del.there))))) (by repeat (first | exact Dels.nil | (apply Dels.cons; focus (repeat (first | exact Del.here | apply Del.there)))))) ?_
  intro b5 _
  refine lstepB rfl rfl rfl (run_call1 cb44 (.cons (.tmp rfl) (.cons (.tmp rfl) .nil)) (fun w2 hS => gives_of (checkK g [at_] pa _ pc 1 w2 hm (by simp) (hp.kept hS.kept) (ints1 (hS.mem (by repeat (first | exact List.Mem.head _ | apply List.Mem.tail))))) hc)) ?_
  refine lnil ?_
  refine xw_then ?_
  refine cw_seq ?_
  have hb : ∀ w2, Below w.heap.size w w2 → Pans Try.prog 45 [.agg [.int .i64 g.long, .int .i64 g.rise, .int .i64 g.change, .slice pa g.pits.length pc].toArray] w2 [errP 10] := fun w2 hB => look_bad hg (hp.kept hB) ho
  refine cw_anyP (j := 1) [⟨0, [], [], [], 0⟩, ⟨0, [], [], [], 1⟩, ⟨0, [], [], [], 3⟩, ⟨0, [], [], [], 0⟩, ⟨0, [], [], [], 15⟩, ⟨0, [], [], [], 31⟩, ⟨0, [], [], [], 63⟩, ⟨0, [], [], [], 127⟩] [(0, 7, .agg [.int .i64 g.long, .int .i64 g.rise, .int .i64 g.change, .slice pa g.pits.length pc].toArray), (3, 10, .int .i64 at_)] (by kernel_rfl) (by kernel_rfl) (.cons ⟨[], _, rfl, rfl, rfl, rfl, run_loadN_at (l := [.int .i64 g.long, .int .i64 g.rise, .int .i64 g.change, .slice pa g.pits.length pc]) (.tmp rfl) kd24 sz24 rfl (fun w' hS j v hj => hS.old_cell (fun h => h) (hG j v hj))⟩ (.cons ⟨[], _, rfl, rfl, rfl, rfl, run_load1_at (.tmp rfl) kd3 (fun w' hS => hS.old_cell (fun h => h) hA)⟩ .nil)) ?_
  refine panJ [0] rfl (by kernel_rfl) cb45 (.cons (.tmp rfl) .nil) (fun w2 hS => hb w2 hS.kept) ?_
  refine xw_then_panic ?_
  refine xw_panic (fun w hS => ⟨rfl, hS.kept⟩)
set_option maxRecDepth 100000 in
set_option maxHeartbeats 4000000 in
theorem find55_ok {g : GroundD} {at_ : Int} {pa : Option Addr} {pc b1 b2 : Nat} {w : World} (hm : g.pits.length ≤ 1000000) (hp : PitsAt w pa g.pits) (hG : GroundIn w b1 g pa pc) (hA : w.cell? ⟨b2, 0, none⟩ = some (.int .i64 at_)) (hc : checkE g [at_] = none) (ho : lookOk g = true) : Gives Try.prog 55 [.pointer (some ⟨b1, 0, none⟩), .pointer (some ⟨b2, 0, none⟩)] w (.int .i64 ((classesM ((soilsL g).getD at_.toNat noMix) : Nat) : Int)) := by
  obtain ⟨hg, hat⟩ := check_valid hc
  have hat := hat at_ (by simp)
  have hlen : (hardL g).length = placesN g := hardL_length g
  have hll := soilsL_length g
  have hlt : at_.toNat < placesN g := by unfold placesN; omega
  refine .mk <| enter (n := 14) Try.func55 rfl rfl rfl (by repeat (first | exact Fill.nil | apply Fill.cons)) ?_
  refine cw_seq ?_
  refine cw_region ?_
  refine lstepB rfl rfl rfl (run_assign .const) ?_
  refine lnil ?_
  refine xw_then ?_
  refine cw_seq ?_
  refine cw_region ?_
  refine lstepB rfl rfl rfl (run_loadN_at (l := [.int .i64 g.long, .int .i64 g.rise, .int .i64 g.change, .slice pa g.pits.length pc]) (.tmp rfl) kd24 sz24 rfl (fun w' hS j v hj => hS.old_cell (fun h => h) (hG j v hj))) ?_
  refine lstepB rfl rfl rfl (run_load1_at (.tmp rfl) kd3 (fun w' hS => hS.old_cell (fun h => h) hA)) ?_
  refine lstep rfl rfl rfl (LR.runs (lr_buildSlice_at (.cons (.tmp rfl) .nil) (fun w => bs102_1_0 w)) (by repeat (first | exact Pick.nil | (apply Pick.cons; focus (repeat (first | exact Del.here | apply Del.there))))) (by repeat (first | exact Dels.nil | (apply Dels.cons; focus (repeat (first | exact Del.here | apply Del.there)))))) ?_
  intro b5 _
  refine lstepB rfl rfl rfl (run_call1 cb44 (.cons (.tmp rfl) (.cons (.tmp rfl) .nil)) (fun w2 hS => gives_of (checkK g [at_] pa _ pc 1 w2 hm (by simp) (hp.kept hS.kept) (ints1 (hS.mem (by repeat (first | exact List.Mem.head _ | apply List.Mem.tail))))) hc)) ?_
  refine lnil ?_
  refine xw_then ?_
  refine cw_seq ?_
  refine cw_chain2 (σ := [0, 3, 1, 2, 4, 5, 6, 7]) [⟨0, [], [], [], 0⟩, ⟨1, [], [], [1, 2], 1⟩, ⟨0, [], [], [], 3⟩, ⟨0, [], [], [], 0⟩, ⟨0, [], [], [], 15⟩, ⟨0, [2], [], [], 31⟩, ⟨0, [], [], [], 63⟩, ⟨0, [], [], [], 127⟩] [(0, _)] (by kernel_rfl) (by kernel_rfl) rfl ?_
  refine .det (B := []) rfl rfl (.inl rfl) .nil .nil rfl (RunB.lr (run_loadN_at (l := [.int .i64 g.long, .int .i64 g.rise, .int .i64 g.change, .slice pa g.pits.length pc]) (.tmp rfl) kd24 sz24 rfl (fun w' hS j v hj => hS.old_cell (fun h => h) (hG j v hj)))) ?_
  refine .det (B := []) rfl rfl (.inl rfl) .nil .nil rfl (RunB.lr (run_load1_at (v := .int .i64 ((at_.toNat : Nat) : Int)) (.tmp rfl) kd3 (fun w' hS => by rw [Int.toNat_of_nonneg hat.1]; exact hS.old_cell (fun h => h) hA))) ?_
  refine .ext (B := fun q => [(1, (q.1, _)), (2, (q.2.2.2, _))]) rfl rfl (.inl rfl) .nil .nil (fun _ => rfl) (look_ne g hg) (lr_gives cb45 (.cons (.tmp rfl) .nil) (fun w2 hS => look_ok hg (hp.kept hS.kept) ho)) ?_
  rintro ⟨gH, cH, rH, gM⟩ hH
  refine .det (B := []) rfl rfl (.inl rfl) .nil .nil rfl (RunB.lr (run_field1 (.tmp rfl) ft78_2 kd76 (by exact rfl))) ?_
  refine .det (B := []) rfl rfl (.inl rfl) .nil .nil rfl (RunB.lr (run_indexAddr (i := at_.toNat) (off' := at_.toNat * 6) (.tmp rfl) (.tmp rfl) el76 (by omega) (Nat.zero_add _))) ?_
  refine .det (B := []) rfl rfl (.inl rfl) (.cons rfl .nil) .nil rfl (RunB.lr (run_loadN (l := mixC ((soilsL g).getD at_.toNat noMix)) (.tmp rfl) kd85 sz85 (by repeat (first | exact List.Mem.head _ | apply List.Mem.tail)) (sub_getD (by omega)))) ?_
  refine .det (B := []) rfl rfl (.inl rfl) .nil .nil rfl (RunB.lr (run_call1 cb56 (.cons (.tmp rfl) .nil) (fun w _ => classesK _ (getD_in20 (soilsL_in20 hg) _).sm w))) ?_
  refine .det (B := []) rfl rfl (.inl rfl) .nil .nil rfl (RunB.lr (run_assign (.tmp rfl))) ?_
  refine chain_nil (ts := [2, 1, 0]) (.cons rfl (.cons rfl (.cons rfl .nil))) (by decide) ?_
  refine xw_then ?_
  refine cw_ret ?_
  refine xw_ret1 Try.results55 rfl (fun w hS => ⟨rfl, hS.kept⟩)
end Go.Proofs.Ytfmbnobkenngaaa
