/- Package peg: triangles. -/
import Derived.Test.YtkjciobphbcknaaR
namespace Go.Proofs.Ytkjciobphbcknaa
open Go.RowKit

section
variable {T : Nat → Prop} {A B : World}
theorem KeptT.kept {C : World} (h : KeptT T A B) (k : Kept B C) : KeptT T A C := h.below (Below.mono k h.size)
theorem KeptT.alloc (h : KeptT T A B) (o : Obj) : KeptT T A (B.alloc o) := h.kept ((Kept.refl _).alloc _)
theorem KeptT.drew (h : KeptT T A B) : KeptT T A B.drew := h.kept (Kept.refl _).drew
theorem KeptT.setCell (h : KeptT T A B) {b : Nat} (hb : T b) (o : Nat) (v : Value) : KeptT T A (B.setCell ⟨b, o, none⟩ v) := h.trans ((keptT_setCell _ _ _ _).imp (fun _ e => e ▸ hb))
end

/-- The cells of the suspects at block b. -/
def SusAt (b : Nat) (all g : Int) (none : Bool) (W : World) : Prop :=
  b < W.heap.size ∧ W.cell? ⟨b, 0, .none⟩ = some (.int .i64 all) ∧ W.cell? ⟨b, 1, .none⟩ = some (.int .i64 g) ∧ W.cell? ⟨b, 2, .none⟩ = some (.bool none) ∧
  W.frozen? ⟨b, 0, .none⟩ = false ∧ W.frozen? ⟨b, 1, .none⟩ = false ∧ W.frozen? ⟨b, 2, .none⟩ = false
def susStep (s : Int × Bool) (x : At × Int) : Int × Bool := if x.2 = -1 then (s.1, true) else (bits .or .i64 s.1 (2 ^ x.2.toNat), s.2)
def susH (b : Nat) (all : Int) : Hearer where
  σ := Int × Bool
  T := fun k => k = b
  H := fun s W => SusAt b all s.1 s.2 W
  step := susStep
  cont := fun s x => !(susStep s x).2 || decide ((susStep s x).1 ≠ all)

set_option maxHeartbeats 2000000 in
theorem sus_law (b : Nat) (all : Int) : (susH b all).Law 121 (.pointer (some ⟨b, 0, none⟩)) := by
  rintro ⟨g, nn⟩ ⟨x, m⟩ W ⟨hb, c0, c1, c2, f0, f1, f2⟩ hx h1 h2
  change Calls _ _ _ _ fun e W' => e = .returned (.bool (!(susStep (g, nn) (x, m)).2 || decide ((susStep (g, nn) (x, m)).1 ≠ all))) ∧ SusAt b all (susStep (g, nn) (x, m)).1 (susStep (g, nn) (x, m)).2 W' ∧ KeptT (fun k => k = b) W W'
  go_enter Try.func121, Try.ntmps121
  by_cases hm : m = -1
  · subst hm
    rw [show susStep (g, nn) (x, -1) = (g, true) from by simp [susStep]]
    go_wp2
    go_region
    go_wp2
    go_ret
    refine ⟨ret_bool ?_, ⟨by simp; omega, by go_simp, by go_simp, by go_simp, by go_simp, by go_simp, by go_simp⟩, ?_⟩
    · rfl
    · repeat (first | exact KeptT.refl _ | refine KeptT.drew ?_ | refine KeptT.alloc ?_ _ | exact keptT_setCell _ _ _ _)
  · rw [show susStep (g, nn) (x, m) = (bits .or .i64 g (2 ^ m.toNat), nn) from by simp [susStep, hm]]
    have hw : IntKind.i64.wrap (2 ^ m.toNat) = 2 ^ m.toNat := by
      have : m = 0 ∨ m = 1 ∨ m = 2 ∨ m = 3 := by omega
      rcases this with rfl | rfl | rfl | rfl <;> rfl
    go_wp2
    go_region
    go_wp2
    cases nn
    all_goals
      go_region
      go_wp2
      go_ret
      refine ⟨ret_bool ?_, ⟨by simp; omega, by go_simp, by go_simp, by go_simp, by go_simp, by go_simp, by go_simp⟩, ?_⟩
    · simp
    · repeat (first | exact KeptT.refl _ | refine KeptT.drew ?_ | refine KeptT.alloc ?_ _ | exact keptT_setCell _ _ _ _)
    · rfl
    · repeat (first | exact KeptT.refl _ | refine KeptT.drew ?_ | refine KeptT.alloc ?_ _ | exact keptT_setCell _ _ _ _)
end Go.Proofs.Ytkjciobphbcknaa
namespace Go.Proofs.Ytkjciobphbcknaa
open Go.RowKit

/-- Ends, as a value: the least, the greatest, whether there are some. -/
structure EndsD where
  lo : Int
  hi : Int
  some : Bool
  deriving DecidableEq
def EndsD.add (s : EndsD) (n : Int) : EndsD := if s.some then ⟨min s.lo n, max s.hi n, true⟩ else ⟨n, n, true⟩
def EndsAt (b : Nat) (s : EndsD) (W : World) : Prop :=
  b < W.heap.size ∧ W.cell? ⟨b, 0, none⟩ = .some (.int .i64 s.lo) ∧ W.cell? ⟨b, 1, none⟩ = .some (.int .i64 s.hi) ∧ W.cell? ⟨b, 2, none⟩ = .some (.bool s.some) ∧
  W.frozen? ⟨b, 0, none⟩ = false ∧ W.frozen? ⟨b, 1, none⟩ = false ∧ W.frozen? ⟨b, 2, none⟩ = false
theorem EndsAt.kept {b : Nat} {s : EndsD} {B : Nat} {W W' : World} (h : EndsAt b s W) (hb : b < B) (hB : B ≤ W.heap.size) (k : Below B W W') : EndsAt b s W' := by
  obtain ⟨l, c0, c1, c2, f0, f1, f2⟩ := h
  exact ⟨Nat.lt_of_lt_of_le l k.size, (k.cell hb).trans c0, (k.cell hb).trans c1, (k.cell hb).trans c2, (k.frozen hb).trans f0, (k.frozen hb).trans f1, (k.frozen hb).trans f2⟩

set_option maxHeartbeats 1000000 in
theorem add_any (b : Nat) (s : EndsD) (n : Int) (W : World) (h : EndsAt b s W) :
    Calls Try.prog 53 #[.pointer (some ⟨b, 0, none⟩), .int .i64 n] W fun e W' => e = .returned (.tuple #[]) ∧ EndsAt b (s.add n) W' ∧ KeptT (fun k => k = b) W W' := by
  obtain ⟨hb, c0, c1, c2, f0, f1, f2⟩ := h
  obtain ⟨lo, hi, sm⟩ := s
  cases sm
  · rw [show EndsD.add ⟨lo, hi, false⟩ n = ⟨n, n, true⟩ from rfl]
    go_enter Try.func53, Try.ntmps53
    go_wp2
    refine bodyPost_ret (results_none rfl _ _ _) rfl ?_
    refine ⟨rfl, ⟨by simpa using hb, by go_simp, by go_simp, by go_simp, by go_simp, by go_simp, by go_simp⟩, ?_⟩
    exact (((KeptT.refl W).trans (keptT_setCell _ _ _ _)).trans (keptT_setCell _ _ _ _)).trans (keptT_setCell _ _ _ _)
  · rw [show EndsD.add ⟨lo, hi, true⟩ n = ⟨min lo n, max hi n, true⟩ from rfl]
    go_enter Try.func53, Try.ntmps53
    go_wp2
    all_goals
      go_end0
      refine ⟨rfl, ⟨by simpa using hb, by (go_simp <;> omega), by (go_simp <;> omega), by go_simp, by go_simp, by go_simp, by go_simp⟩, ?_⟩
      exact (keptT_setCell _ _ _ _).trans (keptT_setCell _ _ _ _)

def distH (b : Nat) (i j : Int) : Hearer where
  σ := EndsD
  T := fun k => k = b
  H := fun s W => EndsAt b s W
  step := fun s x => s.add (apartI (x.1.get i) (x.1.get j))
  cont := fun _ _ => true

set_option maxHeartbeats 2000000 in
theorem dist_law (b : Nat) (i j : Nat) (hi : i < 4) (hj : j < 4) : (distH b i j).Law 124 (.agg #[.int .i64 i, .int .i64 j, .func (.func 53) #[.pointer (some ⟨b, 0, none⟩)] #[]]) := by
  rintro s ⟨t, m⟩ W h ht h1 h2
  change Calls _ _ _ _ fun e W' => e = .returned (.bool true) ∧ EndsAt b (s.add (apartI (t.get i) (t.get j))) W' ∧ KeptT (fun k => k = b) W W'
  change EndsAt b s W at h
  change t.ok at ht
  clear h1 h2
  have hb := h.1
  have HE := Lib.hid h
  clear h
  have hfv : ∃ F : Value, F = .func (.func 53) #[.pointer (some ⟨b, 0, none⟩)] #[] := ⟨_, rfl⟩
  obtain ⟨a1, a2⟩ := at_cells (W.alloc (Obj.cells #[.int .i64 i, .int .i64 j, .func (.func 53) #[.pointer (some ⟨b, 0, none⟩)] #[]] 110)) t i hi (W.heap.size + 1) (by simp)
  obtain ⟨b1, b2⟩ := at_cells (W.alloc (Obj.cells #[.int .i64 i, .int .i64 j, .func (.func 53) #[.pointer (some ⟨b, 0, none⟩)] #[]] 110)) t j hj (W.heap.size + 1) (by simp)
  have oka := At.get_ok ht i
  have okb := At.get_ok ht j
  have i1 : (0 : Int) ≤ (i : Int) := by omega
  have i2 : (i : Int) < 4 := by omega
  have i3 : (0 : Int) ≤ (j : Int) := by omega
  have i4 : (j : Int) < 4 := by omega
  generalize t.get i = pa at *
  generalize t.get j = pb at *
  go_enter Try.func124, Try.ntmps124
  go_wp2_with fail
  generalize hW5 : ((W.alloc (Obj.cells #[.int .i64 i, .int .i64 j, .func (.func 53) #[.pointer (some ⟨b, 0, none⟩)] #[]] 110)).alloc _) = W5 at *
  have k5 : Kept W W5 := by rw [← hW5]; exact ((Kept.refl _).alloc _).alloc _
  have e0 : W5.cell? ⟨W.heap.size, 0, none⟩ = some (.int .i64 i) := by rw [← hW5]; simp [go_sem]
  have e1 : W5.cell? ⟨W.heap.size, 1, none⟩ = some (.int .i64 j) := by rw [← hW5]; simp [go_sem]
  have e2 : W5.cell? ⟨W.heap.size, 2, none⟩ = some (.func (.func 53) #[.pointer (some ⟨b, 0, none⟩)] #[]) := by rw [← hW5]; simp [go_sem]
  have sz5 : W5.heap.size = W.heap.size + 2 := by rw [← hW5]; simp
  clear hW5
  go_region_held3 (fun w' => w'.cell? ⟨W.heap.size, 0, none⟩ = some (.int .i64 i) ∧ w'.cell? ⟨W.heap.size, 1, none⟩ = some (.int .i64 j) ∧ w'.cell? ⟨W.heap.size, 2, none⟩ = some (.func (.func 53) #[.pointer (some ⟨b, 0, none⟩)] #[]) ∧
      w'.cell? ⟨W.heap.size + 1, i * 2, none⟩ = some (.int .i64 pa.x) ∧ w'.cell? ⟨W.heap.size + 1, i * 2 + 1, none⟩ = some (.int .i64 pa.y) ∧ w'.cell? ⟨W.heap.size + 1, j * 2, none⟩ = some (.int .i64 pb.x) ∧ w'.cell? ⟨W.heap.size + 1, j * 2 + 1, none⟩ = some (.int .i64 pb.y))
    (first
      | assumption
      | (refine ⟨?_, ?_, ?_, ?_, ?_, ?_, ?_⟩ <;> first
           | (rw [hb1.cells _ _ (by simp <;> omega)]; simp [*]; done)
           | (rw [hk2.cells _ _ (by have := Kept.size hb1; simp at this; omega) (by omega), hb1.cells _ _ (by simp <;> omega)]; simp [e0, e1, e2, a1, a2, b1, b2]; done)
           | (simp [*]; done)))
    (first
      | (go_at_call 105; refine (apart_any pa pb _ oka okb).mono ?_; rintro e w1 ⟨rfl, hb1⟩)
      | (go_at_call 53; refine (add_any b s _ _ (HE.out.kept hb (Nat.le_refl _) (Kept.step0 k5.drew hb1))).mono ?_; rintro e w2 ⟨rfl, he2, hk2⟩))
  go_wp2
  go_ret
  exact ⟨rfl, he2, (Kept.toT (Kept.step0 k5.drew hb1) _).trans hk2⟩
end Go.Proofs.Ytkjciobphbcknaa
namespace Go.Proofs.Ytkjciobphbcknaa
open Go.RowKit

def triH (b : Nat) (i j k : Int) : Hearer where
  σ := EndsD
  T := fun k => k = b
  H := fun s W => EndsAt b s W
  step := fun s x => s.add (max (areaI (x.1.get i) (x.1.get j) (x.1.get k)) (-areaI (x.1.get i) (x.1.get j) (x.1.get k)))
  cont := fun _ _ => true

set_option maxHeartbeats 4000000 in
theorem tri_law (b : Nat) (i j k : Nat) (hi : i < 4) (hj : j < 4) (hk : k < 4) : (triH b i j k).Law 125 (.agg #[.int .i64 i, .int .i64 j, .int .i64 k, .func (.func 53) #[.pointer (some ⟨b, 0, none⟩)] #[]]) := by
  rintro s ⟨t, m⟩ W h ht h1 h2
  change Calls _ _ _ _ fun e W' => e = .returned (.bool true) ∧ EndsAt b (s.add (max (areaI (t.get i) (t.get j) (t.get k)) (-areaI (t.get i) (t.get j) (t.get k)))) W' ∧ KeptT (fun k => k = b) W W'
  change EndsAt b s W at h
  change t.ok at ht
  clear h1 h2
  have hb := h.1
  have HE := Lib.hid h
  clear h
  obtain ⟨a1, a2⟩ := at_cells (W.alloc (Obj.cells #[.int .i64 i, .int .i64 j, .int .i64 k, .func (.func 53) #[.pointer (some ⟨b, 0, none⟩)] #[]] 112)) t i hi (W.heap.size + 1) (by simp)
  obtain ⟨b1, b2⟩ := at_cells (W.alloc (Obj.cells #[.int .i64 i, .int .i64 j, .int .i64 k, .func (.func 53) #[.pointer (some ⟨b, 0, none⟩)] #[]] 112)) t j hj (W.heap.size + 1) (by simp)
  obtain ⟨d1, d2⟩ := at_cells (W.alloc (Obj.cells #[.int .i64 i, .int .i64 j, .int .i64 k, .func (.func 53) #[.pointer (some ⟨b, 0, none⟩)] #[]] 112)) t k hk (W.heap.size + 1) (by simp)
  have oka := At.get_ok ht i
  have okb := At.get_ok ht j
  have okd := At.get_ok ht k
  have i1 : (0 : Int) ≤ (i : Int) := by omega
  have i2 : (i : Int) < 4 := by omega
  have i3 : (0 : Int) ≤ (j : Int) := by omega
  have i4 : (j : Int) < 4 := by omega
  have i5 : (0 : Int) ≤ (k : Int) := by omega
  have i6 : (k : Int) < 4 := by omega
  generalize t.get i = pa at *
  generalize t.get j = pb at *
  generalize t.get k = pd at *
  go_enter Try.func125, Try.ntmps125
  go_wp2_with fail
  generalize hW5 : ((W.alloc (Obj.cells #[.int .i64 i, .int .i64 j, .int .i64 k, .func (.func 53) #[.pointer (some ⟨b, 0, none⟩)] #[]] 112)).alloc _) = W5 at *
  have k5 : Kept W W5 := by rw [← hW5]; exact ((Kept.refl _).alloc _).alloc _
  have e0 : W5.cell? ⟨W.heap.size, 0, none⟩ = some (.int .i64 i) := by rw [← hW5]; simp [go_sem]
  have e1 : W5.cell? ⟨W.heap.size, 1, none⟩ = some (.int .i64 j) := by rw [← hW5]; simp [go_sem]
  have e2 : W5.cell? ⟨W.heap.size, 2, none⟩ = some (.int .i64 k) := by rw [← hW5]; simp [go_sem]
  have e3 : W5.cell? ⟨W.heap.size, 3, none⟩ = some (.func (.func 53) #[.pointer (some ⟨b, 0, none⟩)] #[]) := by rw [← hW5]; simp [go_sem]
  have sz5 : W5.heap.size = W.heap.size + 2 := by rw [← hW5]; simp
  clear hW5
  go_region_held3 (fun w' => w'.cell? ⟨W.heap.size, 0, none⟩ = some (.int .i64 i) ∧ w'.cell? ⟨W.heap.size, 1, none⟩ = some (.int .i64 j) ∧ w'.cell? ⟨W.heap.size, 2, none⟩ = some (.int .i64 k) ∧ w'.cell? ⟨W.heap.size, 3, none⟩ = some (.func (.func 53) #[.pointer (some ⟨b, 0, none⟩)] #[]) ∧
      w'.cell? ⟨W.heap.size + 1, i * 2, none⟩ = some (.int .i64 pa.x) ∧ w'.cell? ⟨W.heap.size + 1, i * 2 + 1, none⟩ = some (.int .i64 pa.y) ∧ w'.cell? ⟨W.heap.size + 1, j * 2, none⟩ = some (.int .i64 pb.x) ∧ w'.cell? ⟨W.heap.size + 1, j * 2 + 1, none⟩ = some (.int .i64 pb.y) ∧
      w'.cell? ⟨W.heap.size + 1, k * 2, none⟩ = some (.int .i64 pd.x) ∧ w'.cell? ⟨W.heap.size + 1, k * 2 + 1, none⟩ = some (.int .i64 pd.y))
    (first
      | assumption
      | (refine ⟨?_, ?_, ?_, ?_, ?_, ?_, ?_, ?_, ?_, ?_⟩ <;> first
           | (rw [hb1.cells _ _ (by simp <;> omega)]; simp [*]; done)
           | (rw [hk2.cells _ _ (by have := Kept.size hb1; simp at this; omega) (by omega), hb1.cells _ _ (by simp <;> omega)]; simp [e0, e1, e2, e3, a1, a2, b1, b2, d1, d2]; done)
           | (simp [*]; done)))
    (first
      | (go_at_call 126; refine (area_any pa pb pd _ oka okb okd).mono ?_; rintro e w1 ⟨rfl, hb1⟩)
      | (go_at_call 53; refine (add_any b s _ _ (HE.out.kept hb (Nat.le_refl _) (Kept.step0 k5.drew hb1))).mono ?_; rintro e w2 ⟨rfl, he2, hk2⟩))
  go_wp2
  go_ret
  exact ⟨rfl, he2, (Kept.toT (Kept.step0 k5.drew hb1) _).trans hk2⟩
end Go.Proofs.Ytkjciobphbcknaa
