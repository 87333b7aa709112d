/- Package slices at places: which places are among others. -/
import Derived.Test.YtkjciobphbcknaaF
namespace Go.Proofs.Ytkjciobphbcknaa
open Go.RowKit

def PlsIn (w : World) (pa : Option Addr) (L : List Pl) : Prop :=
  ∀ i s, L[i]? = some s → ∃ b o, pa = some ⟨b, o, none⟩ ∧ b < w.heap.size ∧ w.cell? ⟨b, o + i * 2, none⟩ = some (.int .i64 s.x) ∧ w.cell? ⟨b, o + i * 2 + 1, none⟩ = some (.int .i64 s.y)
theorem PlsIn.kept {w w' : World} {pa : Option Addr} {L : List Pl} (h : PlsIn w pa L) (hb : Kept w w') : PlsIn w' pa L := by
  intro i s hi
  obtain ⟨b, o, rfl, hlt, c1, c2⟩ := h i s hi
  exact ⟨b, o, rfl, hb.lt hlt, by rw [hb.cells _ _ hlt]; exact c1, by rw [hb.cells _ _ hlt]; exact c2⟩
theorem plCells_get (L : List Pl) : ∀ (i : Nat) (s : Pl), L[i]? = some s → (plCells L)[i * 2]? = some (.int .i64 s.x) ∧ (plCells L)[i * 2 + 1]? = some (.int .i64 s.y) := by
  induction L with
  | nil => intro i s h; simp at h
  | cons a l ih =>
    intro i s h
    match i with
    | 0 => simp at h; subst h; simp [plCells]
    | i + 1 =>
      have := ih i s (by simpa using h)
      simpa [plCells, Nat.succ_mul] using this
theorem OwnsPls.reads {w : World} {base : Nat} {v : Value} {L : List Pl} (h : OwnsPls w base v L) : ∃ pa cap, v = .slice pa L.length cap ∧ PlsIn w pa L := by
  obtain ⟨h1, ⟨rfl, h2⟩ | ⟨g, cap, cur, rfl, hb, hg, h3, h4, h5, h6⟩⟩ := h
  · exact ⟨none, 0, by rw [h2], fun i s hi => by rw [List.eq_nil_of_length_eq_zero h2] at hi; simp at hi⟩
  · refine ⟨some ⟨g, 0, none⟩, cap, rfl, fun i s hi => ⟨g, 0, rfl, (Array.getElem?_eq_some_iff.1 hg).1, ?_⟩⟩
    have hil : i < L.length := (List.getElem?_eq_some_iff.1 hi).1
    obtain ⟨c1, c2⟩ := plCells_get L i s hi
    rw [← h6, List.getElem?_take, if_pos (by omega)] at c1
    rw [← h6, List.getElem?_take, if_pos (by omega)] at c2
    simp only [World.cell?, hg]
    exact ⟨by simpa using c1, by simpa using c2⟩

def plEqB (a b c d : Int) : Bool := decide (a = c) && decide (b = d)
theorem run_eql_pl (a b c d : Int) (w : World) : (binOp .eql 93 (.agg #[.int .i64 a, .int .i64 b]) (.agg #[.int .i64 c, .int .i64 d])).run Try.prog w = .ok (.bool (plEqB a b c d)) w := by
  by_cases h1 : a = c <;> by_cases h2 : b = d <;> simp [go_sem, plEqB, h1, h2]

theorem pl_of_eqB {s t : Pl} (h : plEqB s.x s.y t.x t.y = true) : t = s := by
  obtain ⟨a, b⟩ := s; obtain ⟨c, d⟩ := t; simp [plEqB] at h; rw [h.1, h.2]
theorem pl_of_neB {s t : Pl} (h : plEqB s.x s.y t.x t.y = false) : t ≠ s := by
  rintro rfl; simp [plEqB] at h

set_option maxHeartbeats 1000000 in
theorem index_any (L : List Pl) (pa : Option Addr) (pc : Nat) (s : Pl) (w : World) (hL : PlsIn w pa L) (hlen : L.length ≤ 1000) :
    Calls Try.prog 104 #[.slice pa L.length pc, .agg #[.int .i64 s.x, .int .i64 s.y]] w fun e w' => ∃ r : Int, e = .returned (.int .i64 r) ∧ decide (0 ≤ r) = decide (s ∈ L) ∧ Kept w w' := by
  have HL := Lib.hid hL
  clear hL
  have heq := run_eql_pl
  go_enter Try.func104, Try.ntmps104
  go_wp2
  go_loopw [5, 8] (fun _ i wr => ∃ j : Nat, j ≤ L.length ∧ i = .int .i64 j ∧ Kept (w.alloc (Obj.cells #[.int .i64 s.x, .int .i64 s.y] 93)) wr ∧ Hid (s ∉ L.take j)) (fun _ i _ => L.length - (intOf i).toNat)
  case atStart => exact ⟨0, Nat.zero_le _, rfl, Kept.refl _, by simp [Hid]⟩
  case round =>
    obtain ⟨j, hj, rfl, hB, hno⟩ := hrel
    have hc := hB.cells
    have hsz : w.heap.size < wr.heap.size := hB.lt (by simp)
    by_cases hlt : j < L.length
    · obtain ⟨b, o, rfl, hbs, c1, c2⟩ := (HL.out.kept (hB.off _ _)) j (L[j]) (by simp)
      have e0 : wr.cell? ⟨w.heap.size, 0, none⟩ = some (.int .i64 s.x) := by rw [hc _ _ (by simp)]; simp [go_sem]
      have e1 : wr.cell? ⟨w.heap.size, 1, none⟩ = some (.int .i64 s.y) := by rw [hc _ _ (by simp)]; simp [go_sem]
      clear hc
      have HT : L[j] = s → Hid (s ∈ L) := fun h => by rw [Hid, ← h]; exact List.getElem_mem hlt
      have HF : L[j] ≠ s → Hid (s ∉ L.take (j + 1)) := fun h => by
        rw [Hid, List.take_succ_eq_append_getElem hlt, List.mem_append]
        rintro (h1 | h1)
        · exact hno.out h1
        · simp at h1; exact h h1.symm
      clear hno
      have hj0 : (0 : Int) ≤ (j : Int) := by omega
      have hj1 : (j : Int) < (L.length : Int) := by omega
      go_wp2
      go_region
      all_goals go_wp2
      · go_ret
        exact ⟨_, rfl, by simp [(HT (pl_of_eqB ‹_› : L[j] = s)).out], hB.off _ _ |>.drew⟩
      · go_roundw
        case rel => exact ⟨j + 1, by omega, by go_num, hB.drew, HF (pl_of_neB ‹_›)⟩
        case measure => simp [intOf]; omega
    · have e : j = L.length := by omega
      subst e
      have HT : Hid (s ∉ L) := by rw [Hid]; have := hno.out; rwa [List.take_length] at this
      clear hno
      go_wp2
      go_ret
      exact ⟨_, rfl, by simp [HT.out], hB.off _ _⟩

set_option maxHeartbeats 1000000 in
theorem contains_any (L : List Pl) (pa : Option Addr) (pc : Nat) (s : Pl) (w : World) (hL : PlsIn w pa L) (hlen : L.length ≤ 1000) :
    Calls Try.prog 100 #[.slice pa L.length pc, .agg #[.int .i64 s.x, .int .i64 s.y]] w fun e w' => e = .returned (.bool (decide (s ∈ L))) ∧ Kept w w' := by
  have HL := Lib.hid hL
  clear hL
  go_enter Try.func100, Try.ntmps100
  go_wp2_with (go_at_call 104; refine (index_any L _ _ s _ (HL.out.kept ((Kept.refl _).alloc _)) hlen).mono ?_; rintro e w1 ⟨r, rfl, hr, hb1⟩; replace hr := Lib.hid hr)
  go_ret
  exact ⟨ret_bool (by rw [← hr.out]), hb1.off _ _⟩

set_option maxHeartbeats 1000000 in
theorem indexFunc_any (L : List Pl) (pa : Option Addr) (pc : Nat) (c1 c2 : Value) (f : Pl → Bool) (w : World) (hL : PlsIn w pa L) (hlen : L.length ≤ 1000)
    (hf : ∀ w1, Kept w w1 → ∀ s ∈ L, Calls Try.prog 99 #[.agg #[.int .i64 s.x, .int .i64 s.y], c1, c2] w1 fun e w' => e = .returned (.bool (f s)) ∧ Kept w1 w') :
    Calls Try.prog 103 #[.slice pa L.length pc, .func (.func 99) #[] #[c1, c2]] w fun e w' => ∃ r : Int, e = .returned (.int .i64 r) ∧ Kept w w' ∧
      ((r = -1 ∧ L.all (fun s => !f s) = true) ∨ ∃ j : Nat, r = j ∧ j < L.length ∧ (L.take j).all (fun s => !f s) = true ∧ ∀ s, L[j]? = some s → f s = true) := by
  have HL := Lib.hid hL
  have HF := Lib.hid hf
  clear hL hf
  go_enter Try.func103, Try.ntmps103
  go_wp2
  go_loopw [5, 8] (fun _ i wr => ∃ j : Nat, j ≤ L.length ∧ i = .int .i64 j ∧ Kept w wr ∧ Hid ((L.take j).all (fun s => !f s) = true)) (fun _ i _ => L.length - (intOf i).toNat)
  case atStart => exact ⟨0, Nat.zero_le _, rfl, Kept.refl _, by simp [Hid]⟩
  case round =>
    obtain ⟨j, hj, rfl, hB, hno⟩ := hrel
    by_cases hlt : j < L.length
    · obtain ⟨b, o, rfl, hbs, c1, c2⟩ := (HL.out.kept hB) j (L[j]) (by simp)
      have hj0 : (0 : Int) ≤ (j : Int) := by omega
      have hj1 : (j : Int) < (L.length : Int) := by omega
      have HC := Lib.hid (HF.out wr hB L[j] (List.getElem_mem hlt))
      have HT : f L[j] = false → Hid ((L.take (j + 1)).all (fun s => !f s) = true) := fun h => by
        rw [Hid, all_snoc _ _ _ hlt, hno.out]; simp [h]
      have HG : f L[j] = true → Hid (∀ s, L[j]? = some s → f s = true) := fun h s hs => by
        rw [List.getElem?_eq_getElem hlt] at hs; cases hs; exact h
      go_wp2_with (go_at_call 99; refine HC.out.mono ?_; rintro e w1 ⟨rfl, hb1⟩)
      · have hr := HG ‹_›
        go_ret
        exact ⟨_, rfl, hB.step0 hb1, .inr ⟨j, rfl, hlt, hno.out, hr.out⟩⟩
      · go_roundw
        case rel => exact ⟨j + 1, by omega, by go_num, hB.step0 hb1, HT ‹_›⟩
        case measure => simp [intOf]; omega
    · have e : j = L.length := by omega
      subst e
      have HT : Hid (L.all (fun s => !f s) = true) := by rw [Hid]; have := hno.out; rwa [List.take_length] at this
      clear hno
      go_wp2
      go_ret
      exact ⟨_, rfl, hB, .inl ⟨rfl, HT.out⟩⟩
end Go.Proofs.Ytkjciobphbcknaa
