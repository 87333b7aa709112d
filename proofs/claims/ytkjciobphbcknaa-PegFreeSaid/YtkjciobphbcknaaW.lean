/- Package peg: what hears where a peg stands. -/
import Derived.Test.YtkjciobphbcknaaV
namespace Go.Proofs.Ytkjciobphbcknaa
open Go.RowKit Go.Maps

def standH (B : Nat) (i : Int) : Hearer where
  σ := List Pl
  T := fun k => k = B
  H := fun L W => SetAt B L W
  step := fun L x => addPl L (x.1.get i)
  cont := fun _ _ => true

theorem grown_keptT {w w' : World} {B : Nat} (h : w.grownBy w' (some B)) : KeptT (fun k => k = B) w w' :=
  ⟨h.os, h.tape, h.output, h.size, fun k hk hn => h.block k hk (fun e => hn (by cases e; rfl))⟩

set_option maxHeartbeats 2000000 in
theorem stand_any (B : Nat) (i : Nat) (hi : i < 4) (L : List Pl) (t : At) (m : Int) (W : World) (h : SetAt B L W) (ht : t.ok) :
    Calls Try.prog 122 #[.agg #[.int .i64 i, .map (some B)], .agg #[.int .i64 t.p0.x, .int .i64 t.p0.y, .int .i64 t.p1.x, .int .i64 t.p1.y, .int .i64 t.p2.x, .int .i64 t.p2.y, .int .i64 t.p3.x, .int .i64 t.p3.y], .int .i64 m] W
      fun e W' => e = .returned (.bool true) ∧ SetAt B (addPl L (t.get i)) W' ∧ KeptT (fun k => k = B) W W' := by
  obtain ⟨a1, a2⟩ := at_cells (W.alloc (Obj.cells #[.int .i64 i, .map (some B)] 104)) t i hi (W.heap.size + 1) (by simp)
  have oka := At.get_ok ht i
  have i1 : (0 : Int) ≤ (i : Int) := by omega
  have i2 : (i : Int) < 4 := by omega
  generalize t.get i = pa at *
  have hb := h.lt
  have HS := Lib.hid h
  clear h
  go_enter Try.func122, Try.ntmps122
  go_wp2_with fail
  generalize hW5 : ((W.alloc (Obj.cells #[.int .i64 i, .map (some B)] 104)).alloc _) = W5 at *
  have k5 : Kept W W5 := by rw [← hW5]; exact ((Kept.refl _).alloc _).alloc _
  have e0 : W5.cell? ⟨W.heap.size, 0, none⟩ = some (.int .i64 i) := by rw [← hW5]; simp [go_sem]
  have e1 : W5.cell? ⟨W.heap.size, 1, none⟩ = some (.map (some B)) := by rw [← hW5]; simp [go_sem]
  have sz5 : W5.heap.size = W.heap.size + 2 := by rw [← hW5]; simp
  clear hW5
  have hs5 := HS.out.below hb k5.drew
  have HK5 := Lib.hid k5
  clear k5 HS
  obtain ⟨n1, n2, D, own, q1, q2, q3⟩ := hs5
  have hlen := set_len n1 n2
  have hkey := key_some oka
  have HQ := Lib.hid (And.intro n1 (And.intro n2 (And.intro q1 (And.intro q2 q3))))
  clear n1 n2 q1 q2 q3
  obtain ⟨w', hrun, own', hgr⟩ := own.update (t := 90) (e := 4) (key := plV pa) (val := .bool true) law93 und90 (by rw [HQ.out.2.2.1]; unfold maxLen; omega) hkey (plainElem_bool und4 true)
  have HOW := Lib.hid own'
  have htidy := Lib.hid (own.tidy law93)
  have HGR := Lib.hid hgr
  clear hkey own own' hgr
  go_region
  go_wp2
  go_ret
  obtain ⟨n1, n2, q1, q2, q3⟩ := HQ.out
  exact ⟨rfl, set_put oka n1 n2 htidy.out q1 q2 q3 HOW.out, (Kept.toT HK5.out.drew _).trans (grown_keptT HGR.out)⟩
theorem stand_law (B : Nat) (i : Nat) (hi : i < 4) : (standH B i).Law 122 (.agg #[.int .i64 i, .map (some B)]) := by
  rintro L ⟨t, m⟩ W h ht h1 h2
  exact stand_any B i hi L t m W h ht

def strayH (B : Nat) (i : Int) : Hearer where
  σ := List Pl
  T := fun k => k = B
  H := fun L W => SetAt B L W
  step := fun L x => if x.2 = i then addPl L (x.1.get i) else L
  cont := fun _ _ => true

set_option maxHeartbeats 2000000 in
theorem stray_law (B : Nat) (i : Nat) (hi : i < 4) : (strayH B i).Law 123 (.agg #[.int .i64 i, .map (some B)]) := by
  rintro (L : List Pl) ⟨t, m⟩ W h ht h1 h2
  change Calls _ _ _ _ fun e W' => e = .returned (.bool true) ∧ SetAt B (if m = i then addPl L (t.get i) else L) W' ∧ KeptT (fun k => k = B) W W'
  change SetAt B L W at h
  change t.ok at ht
  have hb := h.lt
  have HS := Lib.hid h
  clear h h1 h2
  go_enter Try.func123, Try.ntmps123
  by_cases hm : m = i
  · subst hm
    go_wp2_with (go_at_call 122; refine (stand_any B i hi L t _ _ (HS.out.below hb (((Kept.refl W).alloc _).alloc _)) ht).mono ?_; rintro e w1 ⟨rfl, hs1, hk1⟩)
    go_ret
    exact ⟨rfl, by simpa using hs1, (Kept.toT (((Kept.refl W).alloc _).alloc _) _).trans hk1⟩
  · go_wp2
    go_ret
    exact ⟨rfl, by first | exact HS.out.below hb (((Kept.refl W).alloc _).alloc _) | (rw [if_neg hm]; exact HS.out.below hb (((Kept.refl W).alloc _).alloc _)), Kept.toT (((Kept.refl W).alloc _).alloc _) _⟩
end Go.Proofs.Ytkjciobphbcknaa
