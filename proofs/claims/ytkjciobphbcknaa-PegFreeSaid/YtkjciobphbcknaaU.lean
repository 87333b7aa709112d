/- Package peg: triangles. -/
import Derived.Test.YtkjciobphbcknaaT
namespace Go.Proofs.Ytkjciobphbcknaa
open Go.RowKit

def triH (b : Nat) (i j k : Int) : Hearer where
  σ := EndsD
  T := fun k => k = b
  H := fun s W => EndsAt b s W
  step := fun s x => s.add (max (areaI (x.1.get i) (x.1.get j) (x.1.get k)) (-areaI (x.1.get i) (x.1.get j) (x.1.get k)))
  cont := fun _ _ => true

set_option maxHeartbeats 4000000 in
theorem tri_law (b : Nat) (i j k : Nat) (hi : i < 4) (hj : j < 4) (hk : k < 4) : (triH b i j k).Law 125 (.agg #[.int .i64 i, .int .i64 j, .int .i64 k, .func (.func 53) #[.pointer (some ⟨b, 0, none⟩)] #[]]) := by
  rintro s ⟨t, m⟩ W h ht h1 h2
  change Calls _ _ _ _ fun e W' => e = .returned (.bool true) ∧ EndsAt b (s.add (max (areaI (t.get i) (t.get j) (t.get k)) (-areaI (t.get i) (t.get j) (t.get k)))) W' ∧ KeptT (fun k => k = b) W W'
  change EndsAt b s W at h
  change t.ok at ht
  clear h1 h2
  have hb := h.1
  have HE := Lib.hid h
  clear h
  obtain ⟨a1, a2⟩ := at_cells (W.alloc (Obj.cells #[.int .i64 i, .int .i64 j, .int .i64 k, .func (.func 53) #[.pointer (some ⟨b, 0, none⟩)] #[]] 112)) t i hi (W.heap.size + 1) (by simp)
  obtain ⟨b1, b2⟩ := at_cells (W.alloc (Obj.cells #[.int .i64 i, .int .i64 j, .int .i64 k, .func (.func 53) #[.pointer (some ⟨b, 0, none⟩)] #[]] 112)) t j hj (W.heap.size + 1) (by simp)
  obtain ⟨d1, d2⟩ := at_cells (W.alloc (Obj.cells #[.int .i64 i, .int .i64 j, .int .i64 k, .func (.func 53) #[.pointer (some ⟨b, 0, none⟩)] #[]] 112)) t k hk (W.heap.size + 1) (by simp)
  have oka := At.get_ok ht i
  have okb := At.get_ok ht j
  have okd := At.get_ok ht k
  have i1 : (0 : Int) ≤ (i : Int) := by omega
  have i2 : (i : Int) < 4 := by omega
  have i3 : (0 : Int) ≤ (j : Int) := by omega
  have i4 : (j : Int) < 4 := by omega
  have i5 : (0 : Int) ≤ (k : Int) := by omega
  have i6 : (k : Int) < 4 := by omega
  generalize t.get i = pa at *
  generalize t.get j = pb at *
  generalize t.get k = pd at *
  go_enter Try.func125, Try.ntmps125
  go_wp2_with fail
  generalize hW5 : ((W.alloc (Obj.cells #[.int .i64 i, .int .i64 j, .int .i64 k, .func (.func 53) #[.pointer (some ⟨b, 0, none⟩)] #[]] 112)).alloc _) = W5 at *
  have k5 : Kept W W5 := by rw [← hW5]; exact ((Kept.refl _).alloc _).alloc _
  have e0 : W5.cell? ⟨W.heap.size, 0, none⟩ = some (.int .i64 i) := by rw [← hW5]; simp [go_sem]
  have e1 : W5.cell? ⟨W.heap.size, 1, none⟩ = some (.int .i64 j) := by rw [← hW5]; simp [go_sem]
  have e2 : W5.cell? ⟨W.heap.size, 2, none⟩ = some (.int .i64 k) := by rw [← hW5]; simp [go_sem]
  have e3 : W5.cell? ⟨W.heap.size, 3, none⟩ = some (.func (.func 53) #[.pointer (some ⟨b, 0, none⟩)] #[]) := by rw [← hW5]; simp [go_sem]
  have sz5 : W5.heap.size = W.heap.size + 2 := by rw [← hW5]; simp
  clear hW5
  go_region_held3 (fun w' => w'.cell? ⟨W.heap.size, 0, none⟩ = some (.int .i64 i) ∧ w'.cell? ⟨W.heap.size, 1, none⟩ = some (.int .i64 j) ∧ w'.cell? ⟨W.heap.size, 2, none⟩ = some (.int .i64 k) ∧ w'.cell? ⟨W.heap.size, 3, none⟩ = some (.func (.func 53) #[.pointer (some ⟨b, 0, none⟩)] #[]) ∧
      w'.cell? ⟨W.heap.size + 1, i * 2, none⟩ = some (.int .i64 pa.x) ∧ w'.cell? ⟨W.heap.size + 1, i * 2 + 1, none⟩ = some (.int .i64 pa.y) ∧ w'.cell? ⟨W.heap.size + 1, j * 2, none⟩ = some (.int .i64 pb.x) ∧ w'.cell? ⟨W.heap.size + 1, j * 2 + 1, none⟩ = some (.int .i64 pb.y) ∧
      w'.cell? ⟨W.heap.size + 1, k * 2, none⟩ = some (.int .i64 pd.x) ∧ w'.cell? ⟨W.heap.size + 1, k * 2 + 1, none⟩ = some (.int .i64 pd.y))
    (first
      | assumption
      | (refine ⟨?_, ?_, ?_, ?_, ?_, ?_, ?_, ?_, ?_, ?_⟩ <;> first
           | (rw [hb1.cells _ _ (by simp <;> omega)]; simp [*]; done)
           | (rw [hk2.cells _ _ (by have := Kept.size hb1; simp at this; omega) (by omega), hb1.cells _ _ (by simp <;> omega)]; simp [e0, e1, e2, e3, a1, a2, b1, b2, d1, d2]; done)
           | (simp [*]; done)))
    (first
      | (go_at_call 126; refine (area_any pa pb pd _ oka okb okd).mono ?_; rintro e w1 ⟨rfl, hb1⟩)
      | (go_at_call 53; refine (add_any b s _ _ (HE.out.kept hb (Nat.le_refl _) (Kept.step0 k5.drew hb1))).mono ?_; rintro e w2 ⟨rfl, he2, hk2⟩))
  go_wp2
  go_ret
  exact ⟨rfl, he2, (Kept.toT (Kept.step0 k5.drew hb1) _).trans hk2⟩
end Go.Proofs.Ytkjciobphbcknaa
