/- Package peg: what is told, or the error that a panic stands for. -/
import Derived.Test.YtkjciobphbcknaaX
import Derived.Recover
import Derived.Defers
import Derived.Tactics2
namespace Go.Proofs.Ytkjciobphbcknaa
open Go.RowKit

theorem as28 (v : Value) (w : World) : (Instr.typeAssert (.iface 28 v) 20 28 true).run Try.prog w = .ok (.tuple #[v, .bool true]) w := by kernel_rfl
theorem reason_any (n : Int) (w : World) : Calls Try.prog 76 #[.iface 28 (.int .i64 n)] w fun e w' => e = .returned (.int .i64 n) ∧ w' = w := by
  have h := as28
  go_enter Try.func76, Try.ntmps76
  go_wp2
  go_ret
  exact ⟨rfl, rfl⟩

theorem catch_panic83 (p : Addr) (x n : Int) (w : World) (hc : w.cell? p = some (.int .i64 x)) (hz : w.frozen? p = false) :
    CallsD Try.prog 83 #[.pointer (some p)] (.panicking (errV n)) w fun e u' w' =>
      e = .returned (.tuple #[]) ∧ u' = .panicking [{ v := .iface 28 (.int .i64 n), recovered := true }] ∧ w' = w.setCell p (.int .i64 n) := by
  refine callsD_of_wpS Try.func83 rfl fun c₀ cs hu => ?_
  apply wpS_seq
  apply wpS_region
  simp [wpOpsS, go_sem, recoverD, hu, errV, Try.ntmps83, Exit.thenS]
  refine wpS_of_wp ?_
  go_wp2_with (go_at_call 76; refine (reason_any n _).mono ?_; rintro e w1 ⟨rfl, rfl⟩)
  simp [bodyPostS, results, Try.results83]

theorem catch_idle83 (p : Addr) (w : World) :
    CallsD Try.prog 83 #[.pointer (some p)] .returning w fun e u' w' => e = .returned (.tuple #[]) ∧ u' = .returning ∧ w' = w := by
  refine callsD_of_wpS Try.func83 rfl fun c₀ cs hu => ?_
  apply wpS_seq
  apply wpS_region
  simp [wpOpsS, go_sem, recoverD, hu, Try.ntmps83, Exit.thenS]
  refine wpS_of_wp ?_
  go_wp2
  cases c₀
  simp_all [bodyPostS, results, Try.results83]

theorem catch_panic82 (p : Addr) (x n : Int) (w : World) (hc : w.cell? p = some (.int .i64 x)) (hz : w.frozen? p = false) :
    CallsD Try.prog 82 #[.pointer (some p)] (.panicking (errV n)) w fun e u' w' =>
      e = .returned (.tuple #[]) ∧ u' = .panicking [{ v := .iface 28 (.int .i64 n), recovered := true }] ∧ w' = w.setCell p (.int .i64 n) := by
  refine callsD_of_wpS Try.func82 rfl fun c₀ cs hu => ?_
  apply wpS_seq
  apply wpS_region
  simp [wpOpsS, go_sem, recoverD, hu, errV, Try.ntmps82, Exit.thenS]
  refine wpS_of_wp ?_
  go_wp2_with (go_at_call 76; refine (reason_any n _).mono ?_; rintro e w1 ⟨rfl, rfl⟩)
  simp [bodyPostS, results, Try.results82]

theorem catch_idle82 (p : Addr) (w : World) :
    CallsD Try.prog 82 #[.pointer (some p)] .returning w fun e u' w' => e = .returned (.tuple #[]) ∧ u' = .returning ∧ w' = w := by
  refine callsD_of_wpS Try.func82 rfl fun c₀ cs hu => ?_
  apply wpS_seq
  apply wpS_region
  simp [wpOpsS, go_sem, recoverD, hu, Try.ntmps82, Exit.thenS]
  refine wpS_of_wp ?_
  go_wp2
  cases c₀
  simp_all [bodyPostS, results, Try.results82]

theorem catch_panic81 (p : Addr) (x n : Int) (w : World) (hc : w.cell? p = some (.int .i64 x)) (hz : w.frozen? p = false) :
    CallsD Try.prog 81 #[.pointer (some p)] (.panicking (errV n)) w fun e u' w' =>
      e = .returned (.tuple #[]) ∧ u' = .panicking [{ v := .iface 28 (.int .i64 n), recovered := true }] ∧ w' = w.setCell p (.int .i64 n) := by
  refine callsD_of_wpS Try.func81 rfl fun c₀ cs hu => ?_
  apply wpS_seq
  apply wpS_region
  simp [wpOpsS, go_sem, recoverD, hu, errV, Try.ntmps81, Exit.thenS]
  refine wpS_of_wp ?_
  go_wp2_with (go_at_call 76; refine (reason_any n _).mono ?_; rintro e w1 ⟨rfl, rfl⟩)
  simp [bodyPostS, results, Try.results81]

theorem catch_idle81 (p : Addr) (w : World) :
    CallsD Try.prog 81 #[.pointer (some p)] .returning w fun e u' w' => e = .returned (.tuple #[]) ∧ u' = .returning ∧ w' = w := by
  refine callsD_of_wpS Try.func81 rfl fun c₀ cs hu => ?_
  apply wpS_seq
  apply wpS_region
  simp [wpOpsS, go_sem, recoverD, hu, Try.ntmps81, Exit.thenS]
  refine wpS_of_wp ?_
  go_wp2
  cases c₀
  simp_all [bodyPostS, results, Try.results81]

theorem catch_panic75 (p : Addr) (x n : Int) (w : World) (hc : w.cell? p = some (.int .i64 x)) (hz : w.frozen? p = false) :
    CallsD Try.prog 75 #[.pointer (some p)] (.panicking (errV n)) w fun e u' w' =>
      e = .returned (.tuple #[]) ∧ u' = .panicking [{ v := .iface 28 (.int .i64 n), recovered := true }] ∧ w' = w.setCell p (.int .i64 n) := by
  refine callsD_of_wpS Try.func75 rfl fun c₀ cs hu => ?_
  apply wpS_seq
  apply wpS_region
  simp [wpOpsS, go_sem, recoverD, hu, errV, Try.ntmps75, Exit.thenS]
  refine wpS_of_wp ?_
  go_wp2_with (go_at_call 76; refine (reason_any n _).mono ?_; rintro e w1 ⟨rfl, rfl⟩)
  simp [bodyPostS, results, Try.results75]

theorem catch_idle75 (p : Addr) (w : World) :
    CallsD Try.prog 75 #[.pointer (some p)] .returning w fun e u' w' => e = .returned (.tuple #[]) ∧ u' = .returning ∧ w' = w := by
  refine callsD_of_wpS Try.func75 rfl fun c₀ cs hu => ?_
  apply wpS_seq
  apply wpS_region
  simp [wpOpsS, go_sem, recoverD, hu, Try.ntmps75, Exit.thenS]
  refine wpS_of_wp ?_
  go_wp2
  cases c₀
  simp_all [bodyPostS, results, Try.results75]


/-- What a call that may panic ends with. -/
def endOf {α : Type} (enc : α → Value) : Except Int α → Ending
  | .ok v => .returned (enc v)
  | .error n => .panicked (errV n)
def encSpan (s : Int × Int) : Value := .agg #[.int .i64 s.1, .int .i64 s.2]
def valOf {α : Type} (z : α) : Except Int α → α
  | .ok v => v
  | .error _ => z
def errOf {α : Type} : Except Int α → Int
  | .ok _ => 0
  | .error n => n

def encSus (s : Int × Int × Bool) : Value := .agg #[.int .i64 s.1, .int .i64 s.2.1, .bool s.2.2]
def encTwo (s : (Int × Int) × (Int × Int)) : Value := .agg #[.int .i64 s.1.1, .int .i64 s.1.2, .int .i64 s.2.1, .int .i64 s.2.2]
def encInt (n : Int) : Value := .int .i64 n
theorem told58_any (K : Nat) (lb : Array Value) (w : World) (r : Except Int (Int × Int)) (hen : ∀ args w, (callFunc K args).run Try.prog w = .ok (.enter K args) w)
    (hf : Calls Try.prog K lb ((w.alloc (.cells #[.int .i64 0, .int .i64 0] 32)).alloc (.cells #[.int .i64 0] 28)) fun e w' => e = endOf encSpan r ∧ Kept ((w.alloc (.cells #[.int .i64 0, .int .i64 0] 32)).alloc (.cells #[.int .i64 0] 28)) w') :
    Calls Try.prog 58 #[.func (.func K) #[] lb] w fun e w' => e = .returned (.tuple #[encSpan (valOf (0, 0) r), .int .i64 (errOf r)]) ∧ Kept w w' := by
  have hmf : ∀ (fn : Fn) (first cap : Array Value) (w : World), (Instr.makeFunc fn first cap).run Try.prog w = .ok (.func fn first cap) w := fun _ _ _ _ => rfl
  cases r with
  | ok v =>
    obtain ⟨lo, hi⟩ := v
    simp only [endOf, encSpan, valOf, errOf] at hf ⊢
    go_enter_defers Try.func58, Try.ntmps58
    go_wp2_with (refine hf.mono ?_; rintro e w1 ⟨rfl, hb1⟩; have hc1 := hb1.cells; have hz1 := hb1.frozens; have hl1 := hb1.lts)
    refine leaves_cons (f := 83) (args := #[.pointer (some ⟨w.heap.size + 1, 0, none⟩)]) (by simp) (by simp [go_sem]) ?_
    refine (catch_idle83 ⟨w.heap.size + 1, 0, none⟩ _).mono ?_
    rintro e u' w'' ⟨rfl, rfl, rfl⟩
    have kk : Kept w w1 := Kept.step2 (Kept.refl _) hb1
    have d0 : w1.cell? ⟨w.heap.size, 0, none⟩ = some (.int .i64 0) := by rw [hc1 _ _ (by simp; omega)]; simp [go_sem]
    have d1 : w1.cell? ⟨w.heap.size, 1, none⟩ = some (.int .i64 0) := by rw [hc1 _ _ (by simp; omega)]; simp [go_sem]
    have d2 : w1.cell? ⟨w.heap.size + 1, 0, none⟩ = some (.int .i64 0) := by rw [hc1 _ _ (by simp)]; simp [go_sem]
    simp [Leaves, settle, results, Try.results58, go_sem, d0, d1, d2]
    exact ((kk.setCell (p := ⟨_, _, _⟩) (by simp) _).setCell (p := ⟨_, _, _⟩) (by simp) _).setCell (p := ⟨_, _, _⟩) (by simp) _
  | error n =>
    simp only [endOf, encSpan, valOf, errOf] at hf ⊢
    go_enter_defers Try.func58, Try.ntmps58
    go_wp2_with (refine hf.mono ?_; rintro e w1 ⟨rfl, hb1⟩; have hc1 := hb1.cells; have hz1 := hb1.frozens; have hl1 := hb1.lts)
    refine leaves_cons (f := 83) (args := #[.pointer (some ⟨w.heap.size + 1, 0, none⟩)]) (by simp) (by simp [go_sem]) ?_
    refine (catch_panic83 ⟨w.heap.size + 1, 0, none⟩ 0 n _ (by simp [go_sem, hc1]) (by simp [go_sem, hz1])).mono ?_
    rintro e u' w'' ⟨rfl, rfl, rfl⟩
    have kk : Kept w w1 := Kept.step2 (Kept.refl _) hb1
    simp [Leaves, settle, results, Try.results58, go_sem, hc1]
    exact kk.setCell (p := ⟨_, _, _⟩) (by simp) _
theorem told43_any (K : Nat) (lb : Array Value) (w : World) (r : Except Int (Int × Int × Bool)) (hen : ∀ args w, (callFunc K args).run Try.prog w = .ok (.enter K args) w)
    (hf : Calls Try.prog K lb ((w.alloc (.cells #[.int .i64 0, .int .i64 0, .bool false] 73)).alloc (.cells #[.int .i64 0] 28)) fun e w' => e = endOf encSus r ∧ Kept ((w.alloc (.cells #[.int .i64 0, .int .i64 0, .bool false] 73)).alloc (.cells #[.int .i64 0] 28)) w') :
    Calls Try.prog 43 #[.func (.func K) #[] lb] w fun e w' => e = .returned (.tuple #[encSus (valOf (0, 0, false) r), .int .i64 (errOf r)]) ∧ Kept w w' := by
  have hmf : ∀ (fn : Fn) (first cap : Array Value) (w : World), (Instr.makeFunc fn first cap).run Try.prog w = .ok (.func fn first cap) w := fun _ _ _ _ => rfl
  cases r with
  | ok v =>
    obtain ⟨va, vg, vn⟩ := v
    simp only [endOf, encSus, valOf, errOf] at hf ⊢
    go_enter_defers Try.func43, Try.ntmps43
    go_wp2_with (refine hf.mono ?_; rintro e w1 ⟨rfl, hb1⟩; have hc1 := hb1.cells; have hz1 := hb1.frozens; have hl1 := hb1.lts)
    refine leaves_cons (f := 75) (args := #[.pointer (some ⟨w.heap.size + 1, 0, none⟩)]) (by simp) (by simp [go_sem]) ?_
    refine (catch_idle75 ⟨w.heap.size + 1, 0, none⟩ _).mono ?_
    rintro e u' w'' ⟨rfl, rfl, rfl⟩
    have kk : Kept w w1 := Kept.step2 (Kept.refl _) hb1
    have d0 : w1.cell? ⟨w.heap.size, 0, none⟩ = some (.int .i64 0) := by rw [hc1 _ _ (by simp; omega)]; simp [go_sem]
    have d1 : w1.cell? ⟨w.heap.size, 1, none⟩ = some (.int .i64 0) := by rw [hc1 _ _ (by simp; omega)]; simp [go_sem]
    have d2 : w1.cell? ⟨w.heap.size, 2, none⟩ = some (.bool false) := by rw [hc1 _ _ (by simp; omega)]; simp [go_sem]
    have d9 : w1.cell? ⟨w.heap.size + 1, 0, none⟩ = some (.int .i64 0) := by rw [hc1 _ _ (by simp)]; simp [go_sem]
    simp [Leaves, settle, results, Try.results43, go_sem, d0, d1, d2, d9]
    exact ((((kk).setCell (p := ⟨_, _, _⟩) (by simp) _).setCell (p := ⟨_, _, _⟩) (by simp) _).setCell (p := ⟨_, _, _⟩) (by simp) _).setCell (p := ⟨_, _, _⟩) (by simp) _
  | error n =>
    simp only [endOf, encSus, valOf, errOf] at hf ⊢
    go_enter_defers Try.func43, Try.ntmps43
    go_wp2_with (refine hf.mono ?_; rintro e w1 ⟨rfl, hb1⟩; have hc1 := hb1.cells; have hz1 := hb1.frozens; have hl1 := hb1.lts)
    refine leaves_cons (f := 75) (args := #[.pointer (some ⟨w.heap.size + 1, 0, none⟩)]) (by simp) (by simp [go_sem]) ?_
    refine (catch_panic75 ⟨w.heap.size + 1, 0, none⟩ 0 n _ (by simp [go_sem, hc1]) (by simp [go_sem, hz1])).mono ?_
    rintro e u' w'' ⟨rfl, rfl, rfl⟩
    have kk : Kept w w1 := Kept.step2 (Kept.refl _) hb1
    simp [Leaves, settle, results, Try.results43, go_sem, hc1]
    exact kk.setCell (p := ⟨_, _, _⟩) (by simp) _
theorem told50_any (K : Nat) (lb : Array Value) (w : World) (r : Except Int ((Int × Int) × (Int × Int))) (hen : ∀ args w, (callFunc K args).run Try.prog w = .ok (.enter K args) w)
    (hf : Calls Try.prog K lb ((w.alloc (.cells #[.int .i64 0, .int .i64 0, .int .i64 0, .int .i64 0] 85)).alloc (.cells #[.int .i64 0] 28)) fun e w' => e = endOf encTwo r ∧ Kept ((w.alloc (.cells #[.int .i64 0, .int .i64 0, .int .i64 0, .int .i64 0] 85)).alloc (.cells #[.int .i64 0] 28)) w') :
    Calls Try.prog 50 #[.func (.func K) #[] lb] w fun e w' => e = .returned (.tuple #[encTwo (valOf ((0, 0), (0, 0)) r), .int .i64 (errOf r)]) ∧ Kept w w' := by
  have hmf : ∀ (fn : Fn) (first cap : Array Value) (w : World), (Instr.makeFunc fn first cap).run Try.prog w = .ok (.func fn first cap) w := fun _ _ _ _ => rfl
  cases r with
  | ok v =>
    obtain ⟨⟨va, vb⟩, vc, vd⟩ := v
    simp only [endOf, encTwo, valOf, errOf] at hf ⊢
    go_enter_defers Try.func50, Try.ntmps50
    go_wp2_with (refine hf.mono ?_; rintro e w1 ⟨rfl, hb1⟩; have hc1 := hb1.cells; have hz1 := hb1.frozens; have hl1 := hb1.lts)
    refine leaves_cons (f := 81) (args := #[.pointer (some ⟨w.heap.size + 1, 0, none⟩)]) (by simp) (by simp [go_sem]) ?_
    refine (catch_idle81 ⟨w.heap.size + 1, 0, none⟩ _).mono ?_
    rintro e u' w'' ⟨rfl, rfl, rfl⟩
    have kk : Kept w w1 := Kept.step2 (Kept.refl _) hb1
    have d0 : w1.cell? ⟨w.heap.size, 0, none⟩ = some (.int .i64 0) := by rw [hc1 _ _ (by simp; omega)]; simp [go_sem]
    have d1 : w1.cell? ⟨w.heap.size, 1, none⟩ = some (.int .i64 0) := by rw [hc1 _ _ (by simp; omega)]; simp [go_sem]
    have d2 : w1.cell? ⟨w.heap.size, 2, none⟩ = some (.int .i64 0) := by rw [hc1 _ _ (by simp; omega)]; simp [go_sem]
    have d3 : w1.cell? ⟨w.heap.size, 3, none⟩ = some (.int .i64 0) := by rw [hc1 _ _ (by simp; omega)]; simp [go_sem]
    have d9 : w1.cell? ⟨w.heap.size + 1, 0, none⟩ = some (.int .i64 0) := by rw [hc1 _ _ (by simp)]; simp [go_sem]
    simp [Leaves, settle, results, Try.results50, go_sem, d0, d1, d2, d3, d9]
    exact (((((kk).setCell (p := ⟨_, _, _⟩) (by simp) _).setCell (p := ⟨_, _, _⟩) (by simp) _).setCell (p := ⟨_, _, _⟩) (by simp) _).setCell (p := ⟨_, _, _⟩) (by simp) _).setCell (p := ⟨_, _, _⟩) (by simp) _
  | error n =>
    simp only [endOf, encTwo, valOf, errOf] at hf ⊢
    go_enter_defers Try.func50, Try.ntmps50
    go_wp2_with (refine hf.mono ?_; rintro e w1 ⟨rfl, hb1⟩; have hc1 := hb1.cells; have hz1 := hb1.frozens; have hl1 := hb1.lts)
    refine leaves_cons (f := 81) (args := #[.pointer (some ⟨w.heap.size + 1, 0, none⟩)]) (by simp) (by simp [go_sem]) ?_
    refine (catch_panic81 ⟨w.heap.size + 1, 0, none⟩ 0 n _ (by simp [go_sem, hc1]) (by simp [go_sem, hz1])).mono ?_
    rintro e u' w'' ⟨rfl, rfl, rfl⟩
    have kk : Kept w w1 := Kept.step2 (Kept.refl _) hb1
    simp [Leaves, settle, results, Try.results50, go_sem, hc1]
    exact kk.setCell (p := ⟨_, _, _⟩) (by simp) _
theorem told56_any (K : Nat) (lb : Array Value) (w : World) (r : Except Int Int) (hen : ∀ args w, (callFunc K args).run Try.prog w = .ok (.enter K args) w)
    (hf : Calls Try.prog K lb (w.alloc (.cells #[.int .i64 0] 28)) fun e w' => e = endOf encInt r ∧ Kept (w.alloc (.cells #[.int .i64 0] 28)) w') :
    Calls Try.prog 56 #[.func (.func K) #[] lb] w fun e w' => e = .returned (.tuple #[encInt (valOf 0 r), .int .i64 (errOf r)]) ∧ Kept w w' := by
  have hmf : ∀ (fn : Fn) (first cap : Array Value) (w : World), (Instr.makeFunc fn first cap).run Try.prog w = .ok (.func fn first cap) w := fun _ _ _ _ => rfl
  cases r with
  | ok v =>
    simp only [endOf, encInt, valOf, errOf] at hf ⊢
    go_enter_defers Try.func56, Try.ntmps56
    go_wp2_with (refine hf.mono ?_; rintro e w1 ⟨rfl, hb1⟩; have hc1 := hb1.cells; have hz1 := hb1.frozens; have hl1 := hb1.lts)
    refine leaves_cons (f := 82) (args := #[.pointer (some ⟨w.heap.size, 0, none⟩)]) (by simp) (by simp [go_sem]) ?_
    refine (catch_idle82 ⟨w.heap.size, 0, none⟩ _).mono ?_
    rintro e u' w'' ⟨rfl, rfl, rfl⟩
    have kk : Kept w w1 := Kept.step1 (Kept.refl _) hb1
    have d0 : w1.cell? ⟨w.heap.size, 0, none⟩ = some (.int .i64 0) := by rw [hc1 _ _ (by simp)]; simp [go_sem]
    simp [Leaves, settle, results, Try.results56, go_sem, d0]
    exact kk.setCell (p := ⟨_, _, _⟩) (by simp) _
  | error n =>
    simp only [endOf, encInt, valOf, errOf] at hf ⊢
    go_enter_defers Try.func56, Try.ntmps56
    go_wp2_with (refine hf.mono ?_; rintro e w1 ⟨rfl, hb1⟩; have hc1 := hb1.cells; have hz1 := hb1.frozens; have hl1 := hb1.lts)
    refine leaves_cons (f := 82) (args := #[.pointer (some ⟨w.heap.size, 0, none⟩)]) (by simp) (by simp [go_sem]) ?_
    refine (catch_panic82 ⟨w.heap.size, 0, none⟩ 0 n _ (by simp [go_sem, hc1]) (by simp [go_sem, hz1])).mono ?_
    rintro e u' w'' ⟨rfl, rfl, rfl⟩
    have kk : Kept w w1 := Kept.step1 (Kept.refl _) hb1
    simp [Leaves, settle, results, Try.results56, go_sem, hc1]
    exact kk.setCell (p := ⟨_, _, _⟩) (by simp) _
end Go.Proofs.Ytkjciobphbcknaa
