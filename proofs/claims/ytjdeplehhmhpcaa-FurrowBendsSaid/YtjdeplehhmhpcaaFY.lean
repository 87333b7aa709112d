/- Package furrow: its questions. -/
import Derived.Test.YtjdeplehhmhpcaaFX
namespace Go.Proofs.Ytjdeplehhmhpcaa
open Go.RowKit En

theorem furrowIn_cells {w : World} {b : Nat} {te : TypeId} {fr : Nat × Nat} {f : FurrowD} {oa wa da : Option Addr} {oc wc dc : Nat} (h : w.heap[b]? = some (.cells (furrowC f oa wa da oc wc dc).toArray te fr)) : FurrowIn w b f oa wa da oc wc dc := fun j v hj => by
  rw [Nat.zero_add]
  simp only [World.cell?, h]
  simpa using hj
def bendR (f : FurrowD) : SpanD × Int := if validB f then (bendT f.offs, 0) else (⟨0, 0⟩, 1)
def atR (f : FurrowD) (st : Int) : SpanD × Int := if validB f then (if innerB f.offs.length st then (bendS f.offs st.toNat, 0) else (⟨0, 0⟩, 2)) else (⟨0, 0⟩, 1)
def worstR (f : FurrowD) : (Nat × Nat) × Int := if validB f then (worstN f.offs (f.offs.length - 2), 0) else ((0, 0), 1)
def wrongR (f : FurrowD) (most : Int) : Int × Int := if validB f then (if 0 ≤ most then (wrongN f most, 0) else (0, 2)) else (0, 1)
def shallowR (f : FurrowD) (least : Int) : (Nat × Nat) × Int := if validB f then (if 0 ≤ least then (shallowN f.deps least f.deps.length, 0) else ((0, 0), 2)) else ((0, 0), 1)
def soilR (f : FurrowD) : SpanD × Int := if validB f then (soilS f, 0) else (⟨0, 0⟩, 1)
set_option maxRecDepth 100000 in
set_option maxHeartbeats 4000000 in
theorem bendQ (f : FurrowD) (oa wa da : Option Addr) (oc wc dc : Nat) (w : World) (hm : Lens f) (hf : FurrowAt w f oa wa da) : Gives Try.prog 14 [furrowV f oa wa da oc wc dc] w (.tuple #[spanV (bendR f).1, .int .i64 (bendR f).2]) := by
  cases hv : validB f
  ·
    refine .mk <| enter (n := 8) Try.func14 rfl rfl rfl (by repeat (first | exact Fill.nil | apply Fill.cons)) ?_
    refine cw_seq ?_
    refine cw_region ?_
    refine lstep rfl rfl rfl (run_boxN (.tmp rfl)) ?_
    intro b1 _
    refine lstep rfl rfl rfl (run_alloc zr28) ?_
    intro b2 _
    refine lstepB rfl rfl rfl (run_assign .const) ?_
    refine lnil ?_
    refine xw_then ?_
    refine cw_seq ?_
    refine cw_region ?_
    refine lstepB rfl rfl rfl (En.run_makeFunc .nil (.cons (.tmp rfl) .nil)) ?_
    refine lstepB rfl rfl rfl (run_call1 cb40 (.cons (.tmp rfl) .nil) (fun w2 hS => told40_bad cb41 (fun w3 hb => find41_bad hm ((hf.kept hS.kept).kept hb) ((furrowIn_cells (hS.mem (b := b1) (by repeat (first | exact List.Mem.head _ | apply List.Mem.tail)))).kept hb) hv))) ?_
    refine lstepB rfl rfl rfl (run_extract (.tmp rfl) rfl) ?_
    refine lstepB rfl rfl rfl (run_extract (.tmp rfl) rfl) ?_
    refine lstep0 rfl rfl (run_storeN (.tmp rfl) (.tmp rfl) rfl sz28 rfl (by repeat (first | exact Upd.here | apply Upd.there)) (by repeat (first | exact Put.done | apply Put.put | apply Put.skip))) ?_
    refine lstepB rfl rfl rfl (run_assign (.tmp rfl)) ?_
    refine lnil ?_
    refine xw_then ?_
    refine cw_ret ?_
    refine xw_retC2 Try.results14 rfl rfl kd28 sz28 (by repeat (first | exact List.Mem.head _ | apply List.Mem.tail)) (by repeat (first | exact Sub.done | apply Sub.take | apply Sub.skip)) (fun w hS => ⟨(by rw [bendR, hv]; try rfl), hS.kept⟩)
  ·
    refine .mk <| enter (n := 8) Try.func14 rfl rfl rfl (by repeat (first | exact Fill.nil | apply Fill.cons)) ?_
    refine cw_seq ?_
    refine cw_region ?_
    refine lstep rfl rfl rfl (run_boxN (.tmp rfl)) ?_
    intro b1 _
    refine lstep rfl rfl rfl (run_alloc zr28) ?_
    intro b2 _
    refine lstepB rfl rfl rfl (run_assign .const) ?_
    refine lnil ?_
    refine xw_then ?_
    refine cw_seq ?_
    refine cw_region ?_
    refine lstepB rfl rfl rfl (En.run_makeFunc .nil (.cons (.tmp rfl) .nil)) ?_
    refine lstepB rfl rfl rfl (run_call1 cb40 (.cons (.tmp rfl) .nil) (fun w2 hS => told40_ok cb41 (fun w3 hb => find41_ok hm ((hf.kept hS.kept).kept hb) ((furrowIn_cells (hS.mem (b := b1) (by repeat (first | exact List.Mem.head _ | apply List.Mem.tail)))).kept hb) hv))) ?_
    refine lstepB rfl rfl rfl (run_extract (.tmp rfl) rfl) ?_
    refine lstepB rfl rfl rfl (run_extract (.tmp rfl) rfl) ?_
    refine lstep0 rfl rfl (run_storeN (.tmp rfl) (.tmp rfl) rfl sz28 rfl (by repeat (first | exact Upd.here | apply Upd.there)) (by repeat (first | exact Put.done | apply Put.put | apply Put.skip))) ?_
    refine lstepB rfl rfl rfl (run_assign (.tmp rfl)) ?_
    refine lnil ?_
    refine xw_then ?_
    refine cw_ret ?_
    refine xw_retC2 Try.results14 rfl rfl kd28 sz28 (by repeat (first | exact List.Mem.head _ | apply List.Mem.tail)) (by repeat (first | exact Sub.done | apply Sub.take | apply Sub.skip)) (fun w hS => ⟨(by rw [bendR, hv]; try rfl), hS.kept⟩)
set_option maxRecDepth 100000 in
set_option maxHeartbeats 4000000 in
theorem soilQ (f : FurrowD) (oa wa da : Option Addr) (oc wc dc : Nat) (w : World) (hm : Lens f) (hf : FurrowAt w f oa wa da) : Gives Try.prog 27 [furrowV f oa wa da oc wc dc] w (.tuple #[spanV (soilR f).1, .int .i64 (soilR f).2]) := by
  cases hv : validB f
  ·
    refine .mk <| enter (n := 8) Try.func27 rfl rfl rfl (by repeat (first | exact Fill.nil | apply Fill.cons)) ?_
    refine cw_seq ?_
    refine cw_region ?_
    refine lstep rfl rfl rfl (run_boxN (.tmp rfl)) ?_
    intro b1 _
    refine lstep rfl rfl rfl (run_alloc zr28) ?_
    intro b2 _
    refine lstepB rfl rfl rfl (run_assign .const) ?_
    refine lnil ?_
    refine xw_then ?_
    refine cw_seq ?_
    refine cw_region ?_
    refine lstepB rfl rfl rfl (En.run_makeFunc .nil (.cons (.tmp rfl) .nil)) ?_
    refine lstepB rfl rfl rfl (run_call1 cb40 (.cons (.tmp rfl) .nil) (fun w2 hS => told40_bad cb70 (fun w3 hb => find70_bad hm ((hf.kept hS.kept).kept hb) ((furrowIn_cells (hS.mem (b := b1) (by repeat (first | exact List.Mem.head _ | apply List.Mem.tail)))).kept hb) hv))) ?_
    refine lstepB rfl rfl rfl (run_extract (.tmp rfl) rfl) ?_
    refine lstepB rfl rfl rfl (run_extract (.tmp rfl) rfl) ?_
    refine lstep0 rfl rfl (run_storeN (.tmp rfl) (.tmp rfl) rfl sz28 rfl (by repeat (first | exact Upd.here | apply Upd.there)) (by repeat (first | exact Put.done | apply Put.put | apply Put.skip))) ?_
    refine lstepB rfl rfl rfl (run_assign (.tmp rfl)) ?_
    refine lnil ?_
    refine xw_then ?_
    refine cw_ret ?_
    refine xw_retC2 Try.results27 rfl rfl kd28 sz28 (by repeat (first | exact List.Mem.head _ | apply List.Mem.tail)) (by repeat (first | exact Sub.done | apply Sub.take | apply Sub.skip)) (fun w hS => ⟨(by rw [soilR, hv]; try rfl), hS.kept⟩)
  ·
    refine .mk <| enter (n := 8) Try.func27 rfl rfl rfl (by repeat (first | exact Fill.nil | apply Fill.cons)) ?_
    refine cw_seq ?_
    refine cw_region ?_
    refine lstep rfl rfl rfl (run_boxN (.tmp rfl)) ?_
    intro b1 _
    refine lstep rfl rfl rfl (run_alloc zr28) ?_
    intro b2 _
    refine lstepB rfl rfl rfl (run_assign .const) ?_
    refine lnil ?_
    refine xw_then ?_
    refine cw_seq ?_
    refine cw_region ?_
    refine lstepB rfl rfl rfl (En.run_makeFunc .nil (.cons (.tmp rfl) .nil)) ?_
    refine lstepB rfl rfl rfl (run_call1 cb40 (.cons (.tmp rfl) .nil) (fun w2 hS => told40_ok cb70 (fun w3 hb => find70_ok hm ((hf.kept hS.kept).kept hb) ((furrowIn_cells (hS.mem (b := b1) (by repeat (first | exact List.Mem.head _ | apply List.Mem.tail)))).kept hb) hv))) ?_
    refine lstepB rfl rfl rfl (run_extract (.tmp rfl) rfl) ?_
    refine lstepB rfl rfl rfl (run_extract (.tmp rfl) rfl) ?_
    refine lstep0 rfl rfl (run_storeN (.tmp rfl) (.tmp rfl) rfl sz28 rfl (by repeat (first | exact Upd.here | apply Upd.there)) (by repeat (first | exact Put.done | apply Put.put | apply Put.skip))) ?_
    refine lstepB rfl rfl rfl (run_assign (.tmp rfl)) ?_
    refine lnil ?_
    refine xw_then ?_
    refine cw_ret ?_
    refine xw_retC2 Try.results27 rfl rfl kd28 sz28 (by repeat (first | exact List.Mem.head _ | apply List.Mem.tail)) (by repeat (first | exact Sub.done | apply Sub.take | apply Sub.skip)) (fun w hS => ⟨(by rw [soilR, hv]; try rfl), hS.kept⟩)
set_option maxRecDepth 100000 in
set_option maxHeartbeats 4000000 in
theorem atQ (f : FurrowD) (oa wa da : Option Addr) (oc wc dc : Nat) (st : Int) (w : World) (hm : Lens f) (hf : FurrowAt w f oa wa da) : Gives Try.prog 16 [furrowV f oa wa da oc wc dc, .int .i64 st] w (.tuple #[spanV (atR f st).1, .int .i64 (atR f st).2]) := by
  cases hv : validB f
  ·
    refine .mk <| enter (n := 10) Try.func16 rfl rfl rfl (by repeat (first | exact Fill.nil | apply Fill.cons)) ?_
    refine cw_seq ?_
    refine cw_region ?_
    refine lstep rfl rfl rfl (run_boxN (.tmp rfl)) ?_
    intro b2 _
    refine lstep rfl rfl rfl (run_box1 (.tmp rfl) rfl) ?_
    intro b3 _
    refine lstep rfl rfl rfl (run_alloc zr28) ?_
    intro b4 _
    refine lstepB rfl rfl rfl (run_assign .const) ?_
    refine lnil ?_
    refine xw_then ?_
    refine cw_seq ?_
    refine cw_region ?_
    refine lstepB rfl rfl rfl (En.run_makeFunc .nil (.cons (.tmp rfl) (.cons (.tmp rfl) .nil))) ?_
    refine lstepB rfl rfl rfl (run_call1 cb40 (.cons (.tmp rfl) .nil) (fun w2 hS => told40_bad cb48 (fun w3 hb => find48_bad hm ((hf.kept hS.kept).kept hb) ((furrowIn_cells (hS.mem (b := b2) (by repeat (first | exact List.Mem.head _ | apply List.Mem.tail)))).kept hb) hv _))) ?_
    refine lstepB rfl rfl rfl (run_extract (.tmp rfl) rfl) ?_
    refine lstepB rfl rfl rfl (run_extract (.tmp rfl) rfl) ?_
    refine lstep0 rfl rfl (run_storeN (.tmp rfl) (.tmp rfl) rfl sz28 rfl (by repeat (first | exact Upd.here | apply Upd.there)) (by repeat (first | exact Put.done | apply Put.put | apply Put.skip))) ?_
    refine lstepB rfl rfl rfl (run_assign (.tmp rfl)) ?_
    refine lnil ?_
    refine xw_then ?_
    refine cw_ret ?_
    refine xw_retC2 Try.results16 rfl rfl kd28 sz28 (by repeat (first | exact List.Mem.head _ | apply List.Mem.tail)) (by repeat (first | exact Sub.done | apply Sub.take | apply Sub.skip)) (fun w hS => ⟨(by rw [atR, hv]; try rfl), hS.kept⟩)
  ·
    cases hi : innerB f.offs.length st
    ·
      refine .mk <| enter (n := 10) Try.func16 rfl rfl rfl (by repeat (first | exact Fill.nil | apply Fill.cons)) ?_
      refine cw_seq ?_
      refine cw_region ?_
      refine lstep rfl rfl rfl (run_boxN (.tmp rfl)) ?_
      intro b2 _
      refine lstep rfl rfl rfl (run_box1 (.tmp rfl) rfl) ?_
      intro b3 _
      refine lstep rfl rfl rfl (run_alloc zr28) ?_
      intro b4 _
      refine lstepB rfl rfl rfl (run_assign .const) ?_
      refine lnil ?_
      refine xw_then ?_
      refine cw_seq ?_
      refine cw_region ?_
      refine lstepB rfl rfl rfl (En.run_makeFunc .nil (.cons (.tmp rfl) (.cons (.tmp rfl) .nil))) ?_
      refine lstepB rfl rfl rfl (run_call1 cb40 (.cons (.tmp rfl) .nil) (fun w2 hS => told40_bad cb48 (fun w3 hb => find48_range hm ((hf.kept hS.kept).kept hb) ((furrowIn_cells (hS.mem (b := b2) (by repeat (first | exact List.Mem.head _ | apply List.Mem.tail)))).kept hb) hv (cell_kept' (hS.cell (b := b3) (by repeat (first | exact List.Mem.head _ | apply List.Mem.tail)) rfl) hb) hi))) ?_
      refine lstepB rfl rfl rfl (run_extract (.tmp rfl) rfl) ?_
      refine lstepB rfl rfl rfl (run_extract (.tmp rfl) rfl) ?_
      refine lstep0 rfl rfl (run_storeN (.tmp rfl) (.tmp rfl) rfl sz28 rfl (by repeat (first | exact Upd.here | apply Upd.there)) (by repeat (first | exact Put.done | apply Put.put | apply Put.skip))) ?_
      refine lstepB rfl rfl rfl (run_assign (.tmp rfl)) ?_
      refine lnil ?_
      refine xw_then ?_
      refine cw_ret ?_
      refine xw_retC2 Try.results16 rfl rfl kd28 sz28 (by repeat (first | exact List.Mem.head _ | apply List.Mem.tail)) (by repeat (first | exact Sub.done | apply Sub.take | apply Sub.skip)) (fun w hS => ⟨(by rw [atR, hv, hi]; try rfl), hS.kept⟩)
    ·
      refine .mk <| enter (n := 10) Try.func16 rfl rfl rfl (by repeat (first | exact Fill.nil | apply Fill.cons)) ?_
      refine cw_seq ?_
      refine cw_region ?_
      refine lstep rfl rfl rfl (run_boxN (.tmp rfl)) ?_
      intro b2 _
      refine lstep rfl rfl rfl (run_box1 (.tmp rfl) rfl) ?_
      intro b3 _
      refine lstep rfl rfl rfl (run_alloc zr28) ?_
      intro b4 _
      refine lstepB rfl rfl rfl (run_assign .const) ?_
      refine lnil ?_
      refine xw_then ?_
      refine cw_seq ?_
      refine cw_region ?_
      refine lstepB rfl rfl rfl (En.run_makeFunc .nil (.cons (.tmp rfl) (.cons (.tmp rfl) .nil))) ?_
      refine lstepB rfl rfl rfl (run_call1 cb40 (.cons (.tmp rfl) .nil) (fun w2 hS => told40_ok cb48 (fun w3 hb => find48_ok hm ((hf.kept hS.kept).kept hb) ((furrowIn_cells (hS.mem (b := b2) (by repeat (first | exact List.Mem.head _ | apply List.Mem.tail)))).kept hb) hv (cell_kept' (hS.cell (b := b3) (by repeat (first | exact List.Mem.head _ | apply List.Mem.tail)) rfl) hb) hi))) ?_
      refine lstepB rfl rfl rfl (run_extract (.tmp rfl) rfl) ?_
      refine lstepB rfl rfl rfl (run_extract (.tmp rfl) rfl) ?_
      refine lstep0 rfl rfl (run_storeN (.tmp rfl) (.tmp rfl) rfl sz28 rfl (by repeat (first | exact Upd.here | apply Upd.there)) (by repeat (first | exact Put.done | apply Put.put | apply Put.skip))) ?_
      refine lstepB rfl rfl rfl (run_assign (.tmp rfl)) ?_
      refine lnil ?_
      refine xw_then ?_
      refine cw_ret ?_
      refine xw_retC2 Try.results16 rfl rfl kd28 sz28 (by repeat (first | exact List.Mem.head _ | apply List.Mem.tail)) (by repeat (first | exact Sub.done | apply Sub.take | apply Sub.skip)) (fun w hS => ⟨(by rw [atR, hv, hi]; try rfl), hS.kept⟩)
set_option maxRecDepth 100000 in
set_option maxHeartbeats 4000000 in
theorem straightQ_bad (f : FurrowD) (oa wa da : Option Addr) (oc wc dc : Nat) (w : World) (hm : Lens f) (hf : FurrowAt w f oa wa da) (hv : validB f = false) : Gives Try.prog 18 [furrowV f oa wa da oc wc dc] w (.tuple #[.slice none 0 0, .int .i64 1]) := by
  refine .mk <| enter (n := 8) Try.func18 rfl rfl rfl (by repeat (first | exact Fill.nil | apply Fill.cons)) ?_
  refine cw_seq ?_
  refine cw_region ?_
  refine lstep rfl rfl rfl (run_boxN (.tmp rfl)) ?_
  intro b1 _
  refine lstepB rfl rfl rfl (run_assign .const) ?_
  refine lstepB rfl rfl rfl (run_assign .const) ?_
  refine lnil ?_
  refine xw_then ?_
  refine cw_seq ?_
  refine cw_region ?_
  refine lstepB rfl rfl rfl (En.run_makeFunc .nil (.cons (.tmp rfl) .nil)) ?_
  refine lstepB rfl rfl rfl (run_call1 cb53 (.cons (.tmp rfl) .nil) (fun w2 hS => told53_bad cb54 (fun w3 hb => find54_bad hm ((hf.kept hS.kept).kept hb) ((furrowIn_cells (hS.mem (b := b1) (by repeat (first | exact List.Mem.head _ | apply List.Mem.tail)))).kept hb) hv))) ?_
  refine lstepB rfl rfl rfl (run_extract (.tmp rfl) rfl) ?_
  refine lstepB rfl rfl rfl (run_extract (.tmp rfl) rfl) ?_
  refine lstepB rfl rfl rfl (run_assign (.tmp rfl)) ?_
  refine lstepB rfl rfl rfl (run_assign (.tmp rfl)) ?_
  refine lnil ?_
  refine xw_then ?_
  refine cw_ret ?_
  refine xw_ret2 Try.results18 rfl rfl (fun w hS => ⟨rfl, hS.kept⟩)
set_option maxRecDepth 100000 in
set_option maxHeartbeats 4000000 in
theorem straightQ_ok (f : FurrowD) (oa wa da : Option Addr) (oc wc dc : Nat) (w : World) (hm : Lens f) (hf : FurrowAt w f oa wa da) (hv : validB f = true) : CallsF Try.prog 18 (([furrowV f oa wa da oc wc dc] : List Value)).toArray w fun e w' => ∃ s : Nat × List Int, (s.2.length = f.offs.length ∧ ∀ t, wayS f.offs (mostB (bendT f.offs).lo) = some t → s.2 = t) ∧ e = .returned (.tuple #[.slice (some ⟨s.1, 0, none⟩) f.offs.length f.offs.length, .int .i64 0]) ∧ St w NoT [(s.1, Obj.cells (intsV s.2).toArray 3 (0, 0))] w' := by
  refine enter (n := 8) Try.func18 rfl rfl rfl (by repeat (first | exact Fill.nil | apply Fill.cons)) ?_
  refine cw_seq ?_
  refine cw_region ?_
  refine lstep rfl rfl rfl (run_boxN (.tmp rfl)) ?_
  intro b1 _
  refine lstepB rfl rfl rfl (run_assign .const) ?_
  refine lstepB rfl rfl rfl (run_assign .const) ?_
  refine lnil ?_
  refine xw_then ?_
  refine cw_seq ?_
  refine cw_region ?_
  refine lstepB rfl rfl rfl (En.run_makeFunc .nil (.cons (.tmp rfl) .nil)) ?_
  refine lstep rfl rfl rfl (LR.runs (R := [(b1, Obj.cells (furrowC f oa wa da oc wc dc).toArray 24 (0, 0))]) (A := []) (lr_call (A := []) (F := fun s : Nat × List Int => s.2.length = f.offs.length ∧ ∀ t, wayS f.offs (mostB (bendT f.offs).lo) = some t → s.2 = t) (r := fun s => .tuple #[.slice (some ⟨s.1, 0, none⟩) f.offs.length f.offs.length, .int .i64 0]) (B := fun s => [(s.1, Obj.cells (intsV s.2).toArray 3 (0, 0))]) cb53 (.cons (.tmp rfl) .nil) (fun w2 hS _ => (told53_ok cb54 (fun w3 hb => find54_ok hm ((hf.kept hS.kept).kept hb) ((furrowIn_cells (hS.mem (b := b1) (by repeat (first | exact List.Mem.head _ | apply List.Mem.tail)))).kept hb) hv)).mono fun e w' ⟨s, h1, h2, h3⟩ => ⟨s, h1, h2, tr_new h3⟩)) (by repeat (first | exact Pick.nil | (apply Pick.cons; focus (repeat (first | exact Del.here | apply Del.there))))) (by repeat (first | exact Dels.nil | (apply Dels.cons; focus (repeat (first | exact Del.here | apply Del.there)))))) ?_
  intro ⟨gO, o2⟩ hO
  refine lstepB rfl rfl rfl (run_extract (.tmp rfl) rfl) ?_
  refine lstepB rfl rfl rfl (run_extract (.tmp rfl) rfl) ?_
  refine lstepB rfl rfl rfl (run_assign (.tmp rfl)) ?_
  refine lstepB rfl rfl rfl (run_assign (.tmp rfl)) ?_
  refine lnil ?_
  refine xw_then ?_
  refine cw_ret ?_
  refine xw_ret2 Try.results18 rfl rfl (fun w hS => ⟨(gO, o2), hO, rfl, hS.pick (by repeat (first | exact Pick.nil | (apply Pick.cons; focus (repeat (first | exact Del.here | apply Del.there)))))⟩)
set_option maxRecDepth 100000 in
set_option maxHeartbeats 4000000 in
theorem worstQ (f : FurrowD) (oa wa da : Option Addr) (oc wc dc : Nat) (w : World) (hm : Lens f) (hf : FurrowAt w f oa wa da) : Gives Try.prog 20 [furrowV f oa wa da oc wc dc] w (.tuple #[.int .i64 ((worstR f).1.1 : Int), .int .i64 ((worstR f).1.2 : Int), .int .i64 (worstR f).2]) := by
  cases hv : validB f
  ·
    refine .mk <| enter (n := 16) Try.func20 rfl rfl rfl (by repeat (first | exact Fill.nil | apply Fill.cons)) ?_
    refine cw_seq ?_
    refine cw_region ?_
    refine lstep rfl rfl rfl (run_boxN (.tmp rfl)) ?_
    intro b1 _
    refine lstepB rfl rfl rfl (run_assign .const) ?_
    refine lstepB rfl rfl rfl (run_assign .const) ?_
    refine lstepB rfl rfl rfl (run_assign .const) ?_
    refine lnil ?_
    refine xw_then ?_
    refine cw_seq ?_
    refine cw_region ?_
    refine lstepB rfl rfl rfl (En.run_makeFunc .nil (.cons (.tmp rfl) .nil)) ?_
    refine lstepB rfl rfl rfl (run_call1 cb56 (.cons (.tmp rfl) .nil) (fun w2 hS => told56_bad cb57 (fun w3 hb => find57_bad hm ((hf.kept hS.kept).kept hb) ((furrowIn_cells (hS.mem (b := b1) (by repeat (first | exact List.Mem.head _ | apply List.Mem.tail)))).kept hb) hv))) ?_
    refine lstepB rfl rfl rfl (run_move (.tmp rfl)) ?_
    refine lstepB rfl rfl rfl (run_extract (.tmp rfl) rfl) ?_
    refine lstepB rfl rfl rfl (run_extract (.tmp rfl) rfl) ?_
    refine lstep rfl rfl rfl (run_alloc zr81) ?_
    intro b5 _
    refine lstep0 rfl rfl (run_storeN (.tmp rfl) (.tmp rfl) rfl sz81 rfl (by repeat (first | exact Upd.here | apply Upd.there)) (by repeat (first | exact Put.done | apply Put.put | apply Put.skip))) ?_
    refine lstepB rfl rfl rfl (run_assign (.tmp rfl)) ?_
    refine lnil ?_
    refine xw_then ?_
    refine cw_seq ?_
    refine cw_chain2 (σ := [0, 1, 2, 3, 4, 5, 6, 7]) [⟨0, [], [], [], 0⟩, ⟨0, [0], [], [], 1⟩, ⟨0, [], [], [], 0⟩, ⟨0, [0], [], [], 4⟩, ⟨0, [], [], [], 0⟩, ⟨0, [], [], [], 3⟩, ⟨0, [], [], [], 47⟩, ⟨0, [], [], [], 127⟩] [(0, _), (1, _)] (by kernel_rfl) (by kernel_rfl) rfl ?_
    refine .det (B := []) rfl rfl (.inl rfl) .nil .nil rfl (RunB.lr (run_fieldAddr (.tmp rfl) fa81_0 (by first | exact Nat.zero_add _ | exact rfl))) ?_
    refine .det (B := []) rfl rfl (.inl rfl) (.cons rfl .nil) .nil rfl (RunB.lr (run_load1 (.tmp rfl) kd3 (by repeat (first | exact List.Mem.head _ | apply List.Mem.tail)) (by exact rfl))) ?_
    refine .det (B := []) rfl rfl (.inl rfl) .nil .nil rfl (RunB.lr (run_fieldAddr (.tmp rfl) fa81_1 (by first | exact Nat.zero_add _ | exact rfl))) ?_
    refine .det (B := []) rfl rfl (.inl rfl) (.cons rfl .nil) .nil rfl (RunB.lr (run_load1 (.tmp rfl) kd3 (by repeat (first | exact List.Mem.head _ | apply List.Mem.tail)) (by exact rfl))) ?_
    refine .det (B := []) rfl rfl (.inl rfl) .nil .nil rfl (RunB.lr (run_move (.tmp rfl))) ?_
    refine .det (B := []) rfl rfl (.inl rfl) .nil .nil rfl (RunB.lr (run_assign (.tmp rfl))) ?_
    refine .det (B := []) rfl rfl (.inl rfl) .nil .nil rfl (RunB.lr (run_assign (.tmp rfl))) ?_
    refine .det (B := []) rfl rfl (.inl rfl) .nil .nil rfl (RunB.lr (run_assign (.tmp rfl))) ?_
    refine chain_nil (ts := [0, 1]) (.cons rfl (.cons rfl .nil)) (by decide) ?_
    refine xw_then ?_
    refine cw_ret ?_
    refine xw_ret3 Try.results20 rfl rfl rfl (fun w hS => ⟨(by rw [worstR, hv]; try rfl), hS.kept⟩)
  ·
    refine .mk <| enter (n := 16) Try.func20 rfl rfl rfl (by repeat (first | exact Fill.nil | apply Fill.cons)) ?_
    refine cw_seq ?_
    refine cw_region ?_
    refine lstep rfl rfl rfl (run_boxN (.tmp rfl)) ?_
    intro b1 _
    refine lstepB rfl rfl rfl (run_assign .const) ?_
    refine lstepB rfl rfl rfl (run_assign .const) ?_
    refine lstepB rfl rfl rfl (run_assign .const) ?_
    refine lnil ?_
    refine xw_then ?_
    refine cw_seq ?_
    refine cw_region ?_
    refine lstepB rfl rfl rfl (En.run_makeFunc .nil (.cons (.tmp rfl) .nil)) ?_
    refine lstepB rfl rfl rfl (run_call1 cb56 (.cons (.tmp rfl) .nil) (fun w2 hS => told56_ok cb57 (fun w3 hb => find57_ok hm ((hf.kept hS.kept).kept hb) ((furrowIn_cells (hS.mem (b := b1) (by repeat (first | exact List.Mem.head _ | apply List.Mem.tail)))).kept hb) hv))) ?_
    refine lstepB rfl rfl rfl (run_move (.tmp rfl)) ?_
    refine lstepB rfl rfl rfl (run_extract (.tmp rfl) rfl) ?_
    refine lstepB rfl rfl rfl (run_extract (.tmp rfl) rfl) ?_
    refine lstep rfl rfl rfl (run_alloc zr81) ?_
    intro b5 _
    refine lstep0 rfl rfl (run_storeN (.tmp rfl) (.tmp rfl) rfl sz81 rfl (by repeat (first | exact Upd.here | apply Upd.there)) (by repeat (first | exact Put.done | apply Put.put | apply Put.skip))) ?_
    refine lstepB rfl rfl rfl (run_assign (.tmp rfl)) ?_
    refine lnil ?_
    refine xw_then ?_
    refine cw_seq ?_
    refine cw_chain2 (σ := [0, 1, 2, 3, 4, 5, 6, 7]) [⟨0, [], [], [], 0⟩, ⟨0, [0], [], [], 1⟩, ⟨0, [], [], [], 0⟩, ⟨0, [0], [], [], 4⟩, ⟨0, [], [], [], 0⟩, ⟨0, [], [], [], 3⟩, ⟨0, [], [], [], 47⟩, ⟨0, [], [], [], 127⟩] [(0, _), (1, _)] (by kernel_rfl) (by kernel_rfl) rfl ?_
    refine .det (B := []) rfl rfl (.inl rfl) .nil .nil rfl (RunB.lr (run_fieldAddr (.tmp rfl) fa81_0 (by first | exact Nat.zero_add _ | exact rfl))) ?_
    refine .det (B := []) rfl rfl (.inl rfl) (.cons rfl .nil) .nil rfl (RunB.lr (run_load1 (.tmp rfl) kd3 (by repeat (first | exact List.Mem.head _ | apply List.Mem.tail)) (by exact rfl))) ?_
    refine .det (B := []) rfl rfl (.inl rfl) .nil .nil rfl (RunB.lr (run_fieldAddr (.tmp rfl) fa81_1 (by first | exact Nat.zero_add _ | exact rfl))) ?_
    refine .det (B := []) rfl rfl (.inl rfl) (.cons rfl .nil) .nil rfl (RunB.lr (run_load1 (.tmp rfl) kd3 (by repeat (first | exact List.Mem.head _ | apply List.Mem.tail)) (by exact rfl))) ?_
    refine .det (B := []) rfl rfl (.inl rfl) .nil .nil rfl (RunB.lr (run_move (.tmp rfl))) ?_
    refine .det (B := []) rfl rfl (.inl rfl) .nil .nil rfl (RunB.lr (run_assign (.tmp rfl))) ?_
    refine .det (B := []) rfl rfl (.inl rfl) .nil .nil rfl (RunB.lr (run_assign (.tmp rfl))) ?_
    refine .det (B := []) rfl rfl (.inl rfl) .nil .nil rfl (RunB.lr (run_assign (.tmp rfl))) ?_
    refine chain_nil (ts := [0, 1]) (.cons rfl (.cons rfl .nil)) (by decide) ?_
    refine xw_then ?_
    refine cw_ret ?_
    refine xw_ret3 Try.results20 rfl rfl rfl (fun w hS => ⟨(by rw [worstR, hv]; try rfl), hS.kept⟩)
set_option maxRecDepth 100000 in
set_option maxHeartbeats 4000000 in
theorem wrongQ (f : FurrowD) (oa wa da : Option Addr) (oc wc dc : Nat) (most : Int) (w : World) (hm : Lens f) (hf : FurrowAt w f oa wa da) : Gives Try.prog 23 [furrowV f oa wa da oc wc dc, .int .i64 most] w (.tuple #[.int .i64 (wrongR f most).1, .int .i64 (wrongR f most).2]) := by
  cases hv : validB f
  ·
    refine .mk <| enter (n := 10) Try.func23 rfl rfl rfl (by repeat (first | exact Fill.nil | apply Fill.cons)) ?_
    refine cw_seq ?_
    refine cw_region ?_
    refine lstep rfl rfl rfl (run_boxN (.tmp rfl)) ?_
    intro b2 _
    refine lstep rfl rfl rfl (run_box1 (.tmp rfl) rfl) ?_
    intro b3 _
    refine lstepB rfl rfl rfl (run_assign .const) ?_
    refine lstepB rfl rfl rfl (run_assign .const) ?_
    refine lnil ?_
    refine xw_then ?_
    refine cw_seq ?_
    refine cw_region ?_
    refine lstepB rfl rfl rfl (En.run_makeFunc .nil (.cons (.tmp rfl) (.cons (.tmp rfl) .nil))) ?_
    refine lstepB rfl rfl rfl (run_call1 cb60 (.cons (.tmp rfl) .nil) (fun w2 hS => told60_bad cb61 (fun w3 hb => find61_bad hm ((hf.kept hS.kept).kept hb) ((furrowIn_cells (hS.mem (b := b2) (by repeat (first | exact List.Mem.head _ | apply List.Mem.tail)))).kept hb) hv _))) ?_
    refine lstepB rfl rfl rfl (run_extract (.tmp rfl) rfl) ?_
    refine lstepB rfl rfl rfl (run_extract (.tmp rfl) rfl) ?_
    refine lstepB rfl rfl rfl (run_assign (.tmp rfl)) ?_
    refine lstepB rfl rfl rfl (run_assign (.tmp rfl)) ?_
    refine lnil ?_
    refine xw_then ?_
    refine cw_ret ?_
    refine xw_ret2 Try.results23 rfl rfl (fun w hS => ⟨(by rw [wrongR, hv]; try rfl), hS.kept⟩)
  ·
    by_cases hi : 0 ≤ most
    ·
      refine .mk <| enter (n := 10) Try.func23 rfl rfl rfl (by repeat (first | exact Fill.nil | apply Fill.cons)) ?_
      refine cw_seq ?_
      refine cw_region ?_
      refine lstep rfl rfl rfl (run_boxN (.tmp rfl)) ?_
      intro b2 _
      refine lstep rfl rfl rfl (run_box1 (.tmp rfl) rfl) ?_
      intro b3 _
      refine lstepB rfl rfl rfl (run_assign .const) ?_
      refine lstepB rfl rfl rfl (run_assign .const) ?_
      refine lnil ?_
      refine xw_then ?_
      refine cw_seq ?_
      refine cw_region ?_
      refine lstepB rfl rfl rfl (En.run_makeFunc .nil (.cons (.tmp rfl) (.cons (.tmp rfl) .nil))) ?_
      refine lstepB rfl rfl rfl (run_call1 cb60 (.cons (.tmp rfl) .nil) (fun w2 hS => told60_ok cb61 (fun w3 hb => find61_ok hm ((hf.kept hS.kept).kept hb) ((furrowIn_cells (hS.mem (b := b2) (by repeat (first | exact List.Mem.head _ | apply List.Mem.tail)))).kept hb) hv (cell_kept' (hS.cell (b := b3) (by repeat (first | exact List.Mem.head _ | apply List.Mem.tail)) rfl) hb) hi))) ?_
      refine lstepB rfl rfl rfl (run_extract (.tmp rfl) rfl) ?_
      refine lstepB rfl rfl rfl (run_extract (.tmp rfl) rfl) ?_
      refine lstepB rfl rfl rfl (run_assign (.tmp rfl)) ?_
      refine lstepB rfl rfl rfl (run_assign (.tmp rfl)) ?_
      refine lnil ?_
      refine xw_then ?_
      refine cw_ret ?_
      refine xw_ret2 Try.results23 rfl rfl (fun w hS => ⟨(by rw [wrongR, hv, if_pos rfl, if_pos hi]; try rfl), hS.kept⟩)
    ·
      refine .mk <| enter (n := 10) Try.func23 rfl rfl rfl (by repeat (first | exact Fill.nil | apply Fill.cons)) ?_
      refine cw_seq ?_
      refine cw_region ?_
      refine lstep rfl rfl rfl (run_boxN (.tmp rfl)) ?_
      intro b2 _
      refine lstep rfl rfl rfl (run_box1 (.tmp rfl) rfl) ?_
      intro b3 _
      refine lstepB rfl rfl rfl (run_assign .const) ?_
      refine lstepB rfl rfl rfl (run_assign .const) ?_
      refine lnil ?_
      refine xw_then ?_
      refine cw_seq ?_
      refine cw_region ?_
      refine lstepB rfl rfl rfl (En.run_makeFunc .nil (.cons (.tmp rfl) (.cons (.tmp rfl) .nil))) ?_
      refine lstepB rfl rfl rfl (run_call1 cb60 (.cons (.tmp rfl) .nil) (fun w2 hS => told60_bad cb61 (fun w3 hb => find61_range hm ((hf.kept hS.kept).kept hb) ((furrowIn_cells (hS.mem (b := b2) (by repeat (first | exact List.Mem.head _ | apply List.Mem.tail)))).kept hb) hv (cell_kept' (hS.cell (b := b3) (by repeat (first | exact List.Mem.head _ | apply List.Mem.tail)) rfl) hb) (by omega)))) ?_
      refine lstepB rfl rfl rfl (run_extract (.tmp rfl) rfl) ?_
      refine lstepB rfl rfl rfl (run_extract (.tmp rfl) rfl) ?_
      refine lstepB rfl rfl rfl (run_assign (.tmp rfl)) ?_
      refine lstepB rfl rfl rfl (run_assign (.tmp rfl)) ?_
      refine lnil ?_
      refine xw_then ?_
      refine cw_ret ?_
      refine xw_ret2 Try.results23 rfl rfl (fun w hS => ⟨(by rw [wrongR, hv, if_pos rfl, if_neg hi]; try rfl), hS.kept⟩)
set_option maxRecDepth 100000 in
set_option maxHeartbeats 4000000 in
theorem shallowQ (f : FurrowD) (oa wa da : Option Addr) (oc wc dc : Nat) (most : Int) (w : World) (hm : Lens f) (hf : FurrowAt w f oa wa da) : Gives Try.prog 25 [furrowV f oa wa da oc wc dc, .int .i64 most] w (.tuple #[.int .i64 ((shallowR f most).1.1 : Int), .int .i64 ((shallowR f most).1.2 : Int), .int .i64 (shallowR f most).2]) := by
  cases hv : validB f
  ·
    refine .mk <| enter (n := 18) Try.func25 rfl rfl rfl (by repeat (first | exact Fill.nil | apply Fill.cons)) ?_
    refine cw_seq ?_
    refine cw_region ?_
    refine lstep rfl rfl rfl (run_boxN (.tmp rfl)) ?_
    intro b2 _
    refine lstep rfl rfl rfl (run_box1 (.tmp rfl) rfl) ?_
    intro b3 _
    refine lstepB rfl rfl rfl (run_assign .const) ?_
    refine lstepB rfl rfl rfl (run_assign .const) ?_
    refine lstepB rfl rfl rfl (run_assign .const) ?_
    refine lnil ?_
    refine xw_then ?_
    refine cw_seq ?_
    refine cw_region ?_
    refine lstepB rfl rfl rfl (En.run_makeFunc .nil (.cons (.tmp rfl) (.cons (.tmp rfl) .nil))) ?_
    refine lstepB rfl rfl rfl (run_call1 cb56 (.cons (.tmp rfl) .nil) (fun w2 hS => told56_bad cb67 (fun w3 hb => find67_bad hm ((hf.kept hS.kept).kept hb) ((furrowIn_cells (hS.mem (b := b2) (by repeat (first | exact List.Mem.head _ | apply List.Mem.tail)))).kept hb) hv _))) ?_
    refine lstepB rfl rfl rfl (run_move (.tmp rfl)) ?_
    refine lstepB rfl rfl rfl (run_extract (.tmp rfl) rfl) ?_
    refine lstepB rfl rfl rfl (run_extract (.tmp rfl) rfl) ?_
    refine lstep rfl rfl rfl (run_alloc zr81) ?_
    intro b7 _
    refine lstep0 rfl rfl (run_storeN (.tmp rfl) (.tmp rfl) rfl sz81 rfl (by repeat (first | exact Upd.here | apply Upd.there)) (by repeat (first | exact Put.done | apply Put.put | apply Put.skip))) ?_
    refine lstepB rfl rfl rfl (run_assign (.tmp rfl)) ?_
    refine lnil ?_
    refine xw_then ?_
    refine cw_seq ?_
    refine cw_chain2 (σ := [0, 1, 2, 3, 4, 5, 6, 7]) [⟨0, [], [], [], 0⟩, ⟨0, [0], [], [], 1⟩, ⟨0, [], [], [], 0⟩, ⟨0, [0], [], [], 4⟩, ⟨0, [], [], [], 0⟩, ⟨0, [], [], [], 3⟩, ⟨0, [], [], [], 47⟩, ⟨0, [], [], [], 127⟩] [(0, _), (1, _), (2, _)] (by kernel_rfl) (by kernel_rfl) rfl ?_
    refine .det (B := []) rfl rfl (.inl rfl) .nil .nil rfl (RunB.lr (run_fieldAddr (.tmp rfl) fa81_0 (by first | exact Nat.zero_add _ | exact rfl))) ?_
    refine .det (B := []) rfl rfl (.inl rfl) (.cons rfl .nil) .nil rfl (RunB.lr (run_load1 (.tmp rfl) kd3 (by repeat (first | exact List.Mem.head _ | apply List.Mem.tail)) (by exact rfl))) ?_
    refine .det (B := []) rfl rfl (.inl rfl) .nil .nil rfl (RunB.lr (run_fieldAddr (.tmp rfl) fa81_1 (by first | exact Nat.zero_add _ | exact rfl))) ?_
    refine .det (B := []) rfl rfl (.inl rfl) (.cons rfl .nil) .nil rfl (RunB.lr (run_load1 (.tmp rfl) kd3 (by repeat (first | exact List.Mem.head _ | apply List.Mem.tail)) (by exact rfl))) ?_
    refine .det (B := []) rfl rfl (.inl rfl) .nil .nil rfl (RunB.lr (run_move (.tmp rfl))) ?_
    refine .det (B := []) rfl rfl (.inl rfl) .nil .nil rfl (RunB.lr (run_assign (.tmp rfl))) ?_
    refine .det (B := []) rfl rfl (.inl rfl) .nil .nil rfl (RunB.lr (run_assign (.tmp rfl))) ?_
    refine .det (B := []) rfl rfl (.inl rfl) .nil .nil rfl (RunB.lr (run_assign (.tmp rfl))) ?_
    refine chain_nil (ts := [0, 1, 2]) (.cons rfl (.cons rfl (.cons rfl .nil))) (by decide) ?_
    refine xw_then ?_
    refine cw_ret ?_
    refine xw_ret3 Try.results25 rfl rfl rfl (fun w hS => ⟨(by rw [shallowR, hv]; try rfl), hS.kept⟩)
  ·
    by_cases hi : 0 ≤ most
    ·
      refine .mk <| enter (n := 18) Try.func25 rfl rfl rfl (by repeat (first | exact Fill.nil | apply Fill.cons)) ?_
      refine cw_seq ?_
      refine cw_region ?_
      refine lstep rfl rfl rfl (run_boxN (.tmp rfl)) ?_
      intro b2 _
      refine lstep rfl rfl rfl (run_box1 (.tmp rfl) rfl) ?_
      intro b3 _
      refine lstepB rfl rfl rfl (run_assign .const) ?_
      refine lstepB rfl rfl rfl (run_assign .const) ?_
      refine lstepB rfl rfl rfl (run_assign .const) ?_
      refine lnil ?_
      refine xw_then ?_
      refine cw_seq ?_
      refine cw_region ?_
      refine lstepB rfl rfl rfl (En.run_makeFunc .nil (.cons (.tmp rfl) (.cons (.tmp rfl) .nil))) ?_
      refine lstepB rfl rfl rfl (run_call1 cb56 (.cons (.tmp rfl) .nil) (fun w2 hS => told56_ok cb67 (fun w3 hb => find67_ok hm ((hf.kept hS.kept).kept hb) ((furrowIn_cells (hS.mem (b := b2) (by repeat (first | exact List.Mem.head _ | apply List.Mem.tail)))).kept hb) hv (cell_kept' (hS.cell (b := b3) (by repeat (first | exact List.Mem.head _ | apply List.Mem.tail)) rfl) hb) hi))) ?_
      refine lstepB rfl rfl rfl (run_move (.tmp rfl)) ?_
      refine lstepB rfl rfl rfl (run_extract (.tmp rfl) rfl) ?_
      refine lstepB rfl rfl rfl (run_extract (.tmp rfl) rfl) ?_
      refine lstep rfl rfl rfl (run_alloc zr81) ?_
      intro b7 _
      refine lstep0 rfl rfl (run_storeN (.tmp rfl) (.tmp rfl) rfl sz81 rfl (by repeat (first | exact Upd.here | apply Upd.there)) (by repeat (first | exact Put.done | apply Put.put | apply Put.skip))) ?_
      refine lstepB rfl rfl rfl (run_assign (.tmp rfl)) ?_
      refine lnil ?_
      refine xw_then ?_
      refine cw_seq ?_
      refine cw_chain2 (σ := [0, 1, 2, 3, 4, 5, 6, 7]) [⟨0, [], [], [], 0⟩, ⟨0, [0], [], [], 1⟩, ⟨0, [], [], [], 0⟩, ⟨0, [0], [], [], 4⟩, ⟨0, [], [], [], 0⟩, ⟨0, [], [], [], 3⟩, ⟨0, [], [], [], 47⟩, ⟨0, [], [], [], 127⟩] [(0, _), (1, _), (2, _)] (by kernel_rfl) (by kernel_rfl) rfl ?_
      refine .det (B := []) rfl rfl (.inl rfl) .nil .nil rfl (RunB.lr (run_fieldAddr (.tmp rfl) fa81_0 (by first | exact Nat.zero_add _ | exact rfl))) ?_
      refine .det (B := []) rfl rfl (.inl rfl) (.cons rfl .nil) .nil rfl (RunB.lr (run_load1 (.tmp rfl) kd3 (by repeat (first | exact List.Mem.head _ | apply List.Mem.tail)) (by exact rfl))) ?_
      refine .det (B := []) rfl rfl (.inl rfl) .nil .nil rfl (RunB.lr (run_fieldAddr (.tmp rfl) fa81_1 (by first | exact Nat.zero_add _ | exact rfl))) ?_
      refine .det (B := []) rfl rfl (.inl rfl) (.cons rfl .nil) .nil rfl (RunB.lr (run_load1 (.tmp rfl) kd3 (by repeat (first | exact List.Mem.head _ | apply List.Mem.tail)) (by exact rfl))) ?_
      refine .det (B := []) rfl rfl (.inl rfl) .nil .nil rfl (RunB.lr (run_move (.tmp rfl))) ?_
      refine .det (B := []) rfl rfl (.inl rfl) .nil .nil rfl (RunB.lr (run_assign (.tmp rfl))) ?_
      refine .det (B := []) rfl rfl (.inl rfl) .nil .nil rfl (RunB.lr (run_assign (.tmp rfl))) ?_
      refine .det (B := []) rfl rfl (.inl rfl) .nil .nil rfl (RunB.lr (run_assign (.tmp rfl))) ?_
      refine chain_nil (ts := [0, 1, 2]) (.cons rfl (.cons rfl (.cons rfl .nil))) (by decide) ?_
      refine xw_then ?_
      refine cw_ret ?_
      refine xw_ret3 Try.results25 rfl rfl rfl (fun w hS => ⟨(by rw [shallowR, hv, if_pos rfl, if_pos hi]; try rfl), hS.kept⟩)
    ·
      refine .mk <| enter (n := 18) Try.func25 rfl rfl rfl (by repeat (first | exact Fill.nil | apply Fill.cons)) ?_
      refine cw_seq ?_
      refine cw_region ?_
      refine lstep rfl rfl rfl (run_boxN (.tmp rfl)) ?_
      intro b2 _
      refine lstep rfl rfl rfl (run_box1 (.tmp rfl) rfl) ?_
      intro b3 _
      refine lstepB rfl rfl rfl (run_assign .const) ?_
      refine lstepB rfl rfl rfl (run_assign .const) ?_
      refine lstepB rfl rfl rfl (run_assign .const) ?_
      refine lnil ?_
      refine xw_then ?_
      refine cw_seq ?_
      refine cw_region ?_
      refine lstepB rfl rfl rfl (En.run_makeFunc .nil (.cons (.tmp rfl) (.cons (.tmp rfl) .nil))) ?_
      refine lstepB rfl rfl rfl (run_call1 cb56 (.cons (.tmp rfl) .nil) (fun w2 hS => told56_bad cb67 (fun w3 hb => find67_range hm ((hf.kept hS.kept).kept hb) ((furrowIn_cells (hS.mem (b := b2) (by repeat (first | exact List.Mem.head _ | apply List.Mem.tail)))).kept hb) hv (cell_kept' (hS.cell (b := b3) (by repeat (first | exact List.Mem.head _ | apply List.Mem.tail)) rfl) hb) (by omega)))) ?_
      refine lstepB rfl rfl rfl (run_move (.tmp rfl)) ?_
      refine lstepB rfl rfl rfl (run_extract (.tmp rfl) rfl) ?_
      refine lstepB rfl rfl rfl (run_extract (.tmp rfl) rfl) ?_
      refine lstep rfl rfl rfl (run_alloc zr81) ?_
      intro b7 _
      refine lstep0 rfl rfl (run_storeN (.tmp rfl) (.tmp rfl) rfl sz81 rfl (by repeat (first | exact Upd.here | apply Upd.there)) (by repeat (first | exact Put.done | apply Put.put | apply Put.skip))) ?_
      refine lstepB rfl rfl rfl (run_assign (.tmp rfl)) ?_
      refine lnil ?_
      refine xw_then ?_
      refine cw_seq ?_
      refine cw_chain2 (σ := [0, 1, 2, 3, 4, 5, 6, 7]) [⟨0, [], [], [], 0⟩, ⟨0, [0], [], [], 1⟩, ⟨0, [], [], [], 0⟩, ⟨0, [0], [], [], 4⟩, ⟨0, [], [], [], 0⟩, ⟨0, [], [], [], 3⟩, ⟨0, [], [], [], 47⟩, ⟨0, [], [], [], 127⟩] [(0, _), (1, _), (2, _)] (by kernel_rfl) (by kernel_rfl) rfl ?_
      refine .det (B := []) rfl rfl (.inl rfl) .nil .nil rfl (RunB.lr (run_fieldAddr (.tmp rfl) fa81_0 (by first | exact Nat.zero_add _ | exact rfl))) ?_
      refine .det (B := []) rfl rfl (.inl rfl) (.cons rfl .nil) .nil rfl (RunB.lr (run_load1 (.tmp rfl) kd3 (by repeat (first | exact List.Mem.head _ | apply List.Mem.tail)) (by exact rfl))) ?_
      refine .det (B := []) rfl rfl (.inl rfl) .nil .nil rfl (RunB.lr (run_fieldAddr (.tmp rfl) fa81_1 (by first | exact Nat.zero_add _ | exact rfl))) ?_
      refine .det (B := []) rfl rfl (.inl rfl) (.cons rfl .nil) .nil rfl (RunB.lr (run_load1 (.tmp rfl) kd3 (by repeat (first | exact List.Mem.head _ | apply List.Mem.tail)) (by exact rfl))) ?_
      refine .det (B := []) rfl rfl (.inl rfl) .nil .nil rfl (RunB.lr (run_move (.tmp rfl))) ?_
      refine .det (B := []) rfl rfl (.inl rfl) .nil .nil rfl (RunB.lr (run_assign (.tmp rfl))) ?_
      refine .det (B := []) rfl rfl (.inl rfl) .nil .nil rfl (RunB.lr (run_assign (.tmp rfl))) ?_
      refine .det (B := []) rfl rfl (.inl rfl) .nil .nil rfl (RunB.lr (run_assign (.tmp rfl))) ?_
      refine chain_nil (ts := [0, 1, 2]) (.cons rfl (.cons rfl (.cons rfl .nil))) (by decide) ?_
      refine xw_then ?_
      refine cw_ret ?_
      refine xw_ret3 Try.results25 rfl rfl rfl (fun w hS => ⟨(by rw [shallowR, hv, if_pos rfl, if_neg hi]; try rfl), hS.kept⟩)
end Go.Proofs.Ytjdeplehhmhpcaa
