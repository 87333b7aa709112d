/- Some of what is one's own put aside, and taken back. -/
import Derived.Test.YtkjciobphbcknaaEZ
namespace Go.Proofs.Ytkjciobphbcknaa.En
open Go.RowKit
section
variable {P : Program} {n : Nat} {Q : Exit → Act → World → Prop} {w0 w w' : World} {T : Nat → Prop} {H : Heap} {E : Env} {fn : Func} {R : Ending → World → Prop} {v u y : Value} {b off b' off' : Nat}
theorem load_own {t k : Nat} {cs l : List Value} {te : TypeId} {fr : Nat × Nat} (hS : St w0 T H w) (hk : kindB P t = some true) (hz : sizeB P t = some k) (hm : (b, Obj.cells cs.toArray te fr) ∈ H) (hs : Sub cs off k l) :
    (loadVar t ⟨b, off, none⟩).run P w = .ok (.agg l.toArray) w := by
  have hc := run_loadCellsFrom (P := P) (w := w) (a := ⟨b, off, none⟩) l 0 #[] (fun j v hj => by rw [add_cell, Nat.zero_add]; exact hS.cell hm (hs.spec.2 j v hj))
  rw [hs.spec.1] at hc
  have hk' := run_isAgg hk w
  have hz' := run_size hz w
  simp [loadVar, hk', hz', loadCells, hc]
theorem xw_retC1 {tp ty2 k : Nat} {cs l : List Value} {te : TypeId} {fr : Nat × Nat} (hr : fn.results = #[.cell tp ty2]) (hp : look tp E = some (.pointer (some ⟨b, off, none⟩)))
    (hk : kindB P ty2 = some true) (hz : sizeB P ty2 = some k) (hm : (b, Obj.cells cs.toArray te fr) ∈ H) (hs : Sub cs off k l) (kk : ∀ w, St w0 T H w → R (.returned (.agg l.toArray)) w) : XW (bodyPost P fn R) .ret n E w0 T H := fun a w hF hS => by
  have h1 := hF.get _ _ hp
  have hl := load_own (P := P) hS hk hz hm hs
  refine bodyPost_ret (v := .agg l.toArray) ?_ hF.defers (kk w hS)
  simp only [results, hr]
  simp only [Array.getD_eq_getD_getElem?] at h1
  simp [h1, asAddr, hl]
theorem xw_retC2 {tp ty2 tu k : Nat} {cs l : List Value} {te : TypeId} {fr : Nat × Nat} (hr : fn.results = #[.cell tp ty2, .tmp tu]) (hp : look tp E = some (.pointer (some ⟨b, off, none⟩))) (hv : look tu E = some v)
    (hk : kindB P ty2 = some true) (hz : sizeB P ty2 = some k) (hm : (b, Obj.cells cs.toArray te fr) ∈ H) (hs : Sub cs off k l) (kk : ∀ w, St w0 T H w → R (.returned (.tuple #[.agg l.toArray, v])) w) : XW (bodyPost P fn R) .ret n E w0 T H := fun a w hF hS => by
  have h1 := hF.get _ _ hp
  have h2 := hF.get _ _ hv
  have hl := load_own (P := P) hS hk hz hm hs
  refine bodyPost_ret (v := .tuple #[.agg l.toArray, v]) ?_ hF.defers (kk w hS)
  simp only [results, hr]
  rw [← h2]
  simp only [Array.getD_eq_getD_getElem?] at h1
  simp [h1, asAddr, hl]
theorem xw_retC3 {tp tq ty2 tu k : Nat} {cs l cs' l' : List Value} {te : TypeId} {fr : Nat × Nat} (hr : fn.results = #[.cell tp ty2, .cell tq ty2, .tmp tu]) (hp : look tp E = some (.pointer (some ⟨b, off, none⟩))) (hq : look tq E = some (.pointer (some ⟨b', off', none⟩))) (hv : look tu E = some v)
    (hk : kindB P ty2 = some true) (hz : sizeB P ty2 = some k) (hm : (b, Obj.cells cs.toArray te fr) ∈ H) (hs : Sub cs off k l) (hm' : (b', Obj.cells cs'.toArray te fr) ∈ H) (hs' : Sub cs' off' k l') (kk : ∀ w, St w0 T H w → R (.returned (.tuple #[.agg l.toArray, .agg l'.toArray, v])) w) : XW (bodyPost P fn R) .ret n E w0 T H := fun a w hF hS => by
  have h1 := hF.get _ _ hp
  have h1' := hF.get _ _ hq
  have h2 := hF.get _ _ hv
  have hl := load_own (P := P) hS hk hz hm hs
  have hl' := load_own (P := P) hS hk hz hm' hs'
  refine bodyPost_ret (v := .tuple #[.agg l.toArray, .agg l'.toArray, v]) ?_ hF.defers (kk w hS)
  simp only [results, hr]
  rw [← h2]
  simp only [Array.getD_eq_getD_getElem?] at h1 h1'
  simp [h1, h1', asAddr, hl, hl']
end
end Go.Proofs.Ytkjciobphbcknaa.En
namespace Go.Proofs.Ytkjciobphbcknaa.En
open Go.RowKit
def blk (H : Heap) (b : Nat) : Prop := ∃ x, x ∈ H ∧ x.1 = b
section
variable {P : Program} {n : Nat} {Q : Exit → Act → World → Prop} {w0 w1 w : World} {T : Nat → Prop} {H H' F : Heap} {E : Env}
theorem St.join (h1 : St w0 T (H ++ F) w1) (h : St w1 (blk H) H' w) : St w0 T (H' ++ F) w := by
  have ap := List.pairwise_append.1 h1.apart
  have up : ∀ x, x ∈ H' → w0.heap.size ≤ x.1 ∨ T x.1 := fun x hx => by
    rcases (h.own x hx).2 with k | ⟨y, hy, e⟩
    · exact .inl (Nat.le_trans h1.size k)
    · rw [← e]; exact (h1.own y (List.mem_append_left _ hy)).2
  have fr : ∀ x, x ∈ F → w.heap[x.1]? = some x.2 ∧ ¬ blk H x.1 ∧ x.1 < w1.heap.size := fun x hx => by
    obtain ⟨a, _⟩ := h1.own x (List.mem_append_right _ hx)
    have lt := (Array.getElem?_eq_some_iff.1 a).1
    have nb : ¬ blk H x.1 := fun ⟨y, hy, e⟩ => ap.2.2 y hy x hx e
    exact ⟨(h.old _ lt nb).trans a, nb, lt⟩
  refine ⟨h.os.trans h1.os, h.tape.trans h1.tape, h.output.trans h1.output, Nat.le_trans h1.size h.size, fun b hb hT => ?_, fun x hx => ?_, ?_⟩
  · have nb : ¬ blk H b := fun ⟨y, hy, e⟩ => by
      rcases (h1.own y (List.mem_append_left _ hy)).2 with k | k
      · omega
      · exact hT (e ▸ k)
    exact (h.old b (Nat.lt_of_lt_of_le hb h1.size) nb).trans (h1.old b hb hT)
  · rcases List.mem_append.1 hx with hx | hx
    · exact ⟨(h.own x hx).1, up x hx⟩
    · exact ⟨(fr x hx).1, (h1.own x (List.mem_append_right _ hx)).2⟩
  · refine List.pairwise_append.2 ⟨h.apart, ap.2.1, fun x hx y hy e => ?_⟩
    rcases (h.own x hx).2 with k | k
    · have := (fr y hy).2.2; omega
    · exact (fr y hy).2.1 (e ▸ k)
theorem St.self (h : St w0 T H w) : St w (blk H) H w := ⟨rfl, rfl, rfl, Nat.le_refl _, fun _ _ _ => rfl, fun x hx => ⟨(h.own x hx).1, .inr ⟨x, hx, rfl⟩⟩, h.apart⟩
theorem cw_aside {c : Code} (F : Heap) (h : ∀ w1, St w0 T (H ++ F) w1 → CW P Q c n E w1 (blk H) H) : CW P Q c n E w0 T (H ++ F) := fun a w hF hS =>
  h w hS a w hF (hS.less (List.sublist_append_left _ _)).self
theorem xw_back {e : Exit} (h1 : St w0 T (H ++ F) w1) (h : XW Q e n E w0 T (H' ++ F)) : XW Q e n E w1 (blk H) H' := fun a w hF hS => h a w hF (h1.join hS)
theorem cw_back {c : Code} (h1 : St w0 T (H ++ F) w1) (h : CW P Q c n E w0 T (H' ++ F)) : CW P Q c n E w1 (blk H) H' := fun a w hF hS => h a w hF (h1.join hS)
theorem cw_pick {c : Code} (h : Pick H H') (k : CW P Q c n E w0 T H') : CW P Q c n E w0 T H := fun a w hF hS => k a w hF (hS.pick h)
theorem xw_pick {e : Exit} (h : Pick H H') (k : XW Q e n E w0 T H') : XW Q e n E w0 T H := fun a w hF hS => k a w hF (hS.pick h)
end
end Go.Proofs.Ytkjciobphbcknaa.En
