/- Package peg: what hears where a peg stands. -/
import Derived.Test.YtkjciobphbcknaaU
import Derived.Maps.RangeWalk
import Derived.Maps.OwnSet
import Derived.DeepKeys4
import Derived.StillTailTactics
namespace Go.Proofs.Ytkjciobphbcknaa
open Go.RowKit Go.Maps

theorem laid : laidOutB Try.prog = true := by kernel_rfl
theorem row93 : (93 : TypeId) < Try.prog.types.size := of_decide_eq_true (by kernel_rfl)
theorem deep93 : Try.prog.keyTypeAt (Try.prog.types.size + 1) 93 = true := by kernel_rfl
theorem und90 : Try.prog.underlying 90 = some (.map 93 4) := by kernel_rfl
theorem und4 : Try.prog.underlying 4 = some .bool := by kernel_rfl
theorem und3 : Try.prog.underlying 3 = some (.int .i64) := by kernel_rfl
theorem cells93 : Try.prog.cellsOf 93 = 2 := by kernel_rfl
theorem und93 : ∃ d, Try.prog.underlying 93 = some (.struct d) := by
  have h : (match Try.prog.underlying 93 with | some (.struct _) => true | _ => false) = true := by kernel_rfl
  generalize Try.prog.underlying 93 = u at *
  match u, h with
  | some (.struct d), _ => exact ⟨d, rfl⟩
theorem kt93 : Try.prog.keyTypeAt 2 93 = true := by kernel_rfl
theorem keylaw93 : WideMaps.KeyLaw Try.prog 93 := deep_law_laid laid (m := 2) (Nat.le_of_ble_eq_true rfl) row93 kt93 (by obtain ⟨d, hd⟩ := und93; rw [hd])
theorem law93 : Keyed Try.prog 93 := Keyed.of_law keylaw93
theorem zero4 (w : World) : (zeroValue 4).run Try.prog w = .ok (.bool false) w := by kernel_rfl

/-- The key of a place. -/
noncomputable def klOf (s : Pl) : Lit := @Classical.epsilon Lit ⟨.bool false⟩ fun l => keyOf Try.prog 93 (plV s) = some l
theorem key_some {s : Pl} (h : s.ok) : keyOf Try.prog 93 (plV s) = some (klOf s) := by
  refine Classical.epsilon_spec (p := fun l => keyOf Try.prog 93 (plV s) = some l) ?_
  obtain ⟨x, y⟩ := s
  obtain ⟨h1, h2, h3, h4⟩ := h
  simp only at h1 h2 h3 h4
  have e : (keyOf Try.prog 93 (plV ⟨x, y⟩)).isSome = true := by
    obtain ⟨i, rfl⟩ := Int.eq_ofNat_of_zero_le h1
    obtain ⟨j, rfl⟩ := Int.eq_ofNat_of_zero_le h3
    have hi : i < 16 := by omega
    have hj : j < 16 := by omega
    have := (by decide +kernel : ∀ i : Fin 16, ∀ j : Fin 16, (keyOf Try.prog 93 (plV ⟨i.1, j.1⟩)).isSome = true) ⟨i, hi⟩ ⟨j, hj⟩
    exact this
  cases hk : keyOf Try.prog 93 (plV ⟨x, y⟩) with
  | none => rw [hk] at e; cases e
  | some l => exact ⟨l, rfl⟩
theorem klOf_inj {s t : Pl} (hs : s.ok) (ht : t.ok) (h : klOf s = klOf t) : s = t := by
  have h1 := key_some hs
  have h2 := key_some ht
  rw [h] at h1
  have := law93.inj h1 h2
  obtain ⟨x, y⟩ := s
  obtain ⟨x', y'⟩ := t
  simpa [plV] using this

/-- The map at block B holds just the places of L. -/
def SetAt (B : Nat) (L : List Pl) (W : World) : Prop :=
  L.Nodup ∧ (∀ s ∈ L, s.ok) ∧ ∃ D : DataW Unit, W.ownsMap Try.prog 93 (plainElem Try.prog 4) B (size D) D ∧ size D = L.length ∧ (∀ s, s.ok → (has D (klOf s) = true ↔ s ∈ L)) ∧ ∀ l, has D l = true → ∃ s ∈ L, l = klOf s
def addPl (L : List Pl) (s : Pl) : List Pl := if s ∈ L then L else L ++ [s]
theorem Kept.grown0 {w w' : World} (h : Kept w w') : w.grownBy w' none := ⟨Below.os h, Below.tape h, Below.output h, Below.size h, fun i hi _ => Below.block h i hi⟩
theorem SetAt.lt {B : Nat} {L : List Pl} {W : World} (h : SetAt B L W) : B < W.heap.size := by
  obtain ⟨_, _, D, h, _⟩ := h
  exact h.lt
theorem SetAt.below {B : Nat} {L : List Pl} {W W' : World} {C : Nat} (h : SetAt B L W) (hB : B < C) (hk : Below C W W') : SetAt B L W' := by
  obtain ⟨h1, h2, D, ⟨es, clock, hb, F, hs, hD⟩, h4⟩ := h
  exact ⟨h1, h2, D, ⟨es, clock, (hk.block _ hB).trans hb, F, hs, hD⟩, h4⟩
theorem ownsMap_size {w : World} {R : Value → Option (DataW Unit × List MemPlace)} {b n : Nat} {D : DataW Unit} (h : w.ownsMap Try.prog 93 R b n D) : w.ownsMap Try.prog 93 R b (size D) D := by
  obtain ⟨es, clock, hb, F, hs, rfl⟩ := h
  exact ⟨es, clock, hb, F, by rw [size_eq, length_read]; exact Nat.le_refl _, rfl⟩
theorem set_made (w : World) : SetAt w.heap.size [] (w.alloc (.map #[] 0)) :=
  ⟨List.nodup_nil, by simp, .map [], World.ownsMap_made _ _ _ _, rfl, fun s _ => by simp [has], fun l h => by simp [has] at h⟩
theorem keylit {s : Pl} (h : s.ok) : WideAt.IsKeyLit (klOf s) := by
  have h1 := key_some h
  generalize klOf s = l at *
  exact law93.key h1
theorem set_put {w' : World} {B : Nat} {L : List Pl} {D : DataW Unit} {n : Nat} {s : Pl} (hs : s.ok) (h1 : L.Nodup) (h2 : ∀ s ∈ L, s.ok) (ht : Tidy D) (h4 : size D = L.length) (h5 : ∀ s, s.ok → (has D (klOf s) = true ↔ s ∈ L)) (h6 : ∀ l, has D l = true → ∃ s ∈ L, l = klOf s)
    (h : w'.ownsMap Try.prog 93 (plainElem Try.prog 4) B n (D.put (klOf s) (.lit (.bool true)))) : SetAt B (addPl L s) w' := by
  have hl := keylit hs
  have hsz := size_put (k := klOf s) ht (.lit (.bool true) : DataW Unit)
  have hm := ht.isMap
  refine ⟨?_, ?_, _, ownsMap_size h, ?_, ?_, ?_⟩
  · unfold addPl
    split
    · exact h1
    · rename_i hn
      exact List.nodup_append.2 ⟨h1, by simp, by intro a ha b hb; simp at hb; subst hb; intro e; subst e; exact hn ha⟩
  · intro x hx
    unfold addPl at hx
    split at hx
    · exact h2 x hx
    · simp at hx
      rcases hx with hx | rfl
      · exact h2 x hx
      · exact hs
  · rw [hsz]
    unfold addPl
    by_cases hin : s ∈ L
    · rw [if_pos hin, if_pos ((h5 s hs).2 hin), h4]
    · rw [if_neg hin, if_neg (fun e => hin ((h5 s hs).1 e)), h4]; simp
  · intro x hx
    by_cases e : x = s
    · subst e
      rw [has_put_same hm hl]
      unfold addPl
      split <;> simp_all
    · have hne : klOf x ≠ klOf s := fun h => e (klOf_inj hx hs h)
      rw [has_put_other hne, h5 x hx]
      unfold addPl
      split <;> simp_all
  · intro l hl2
    by_cases e : l = klOf s
    · exact ⟨s, by unfold addPl; split <;> simp_all, e⟩
    · rw [has_put_other e] at hl2
      obtain ⟨x, hx, rfl⟩ := h6 l hl2
      exact ⟨x, by unfold addPl; split <;> simp_all, rfl⟩
theorem set_len {L : List Pl} (h1 : L.Nodup) (h2 : ∀ s ∈ L, s.ok) : L.length ≤ 256 := by
  have e : L.length = (L.map fun s => (s.x * 16 + s.y).toNat).length := by simp
  have hn : (L.map fun s => (s.x * 16 + s.y).toNat).Nodup := by
    refine List.Pairwise.map _ ?_ (List.pairwise_iff_forall_sublist.2 fun {a b} hab => ?_) (S := fun a b => a ≠ b) (R := fun a b => a ≠ b ∧ a.ok ∧ b.ok)
    · rintro ⟨a, b⟩ ⟨c, d⟩ ⟨hne, ⟨_, _, _, _⟩, ⟨_, _, _, _⟩⟩ heq
      simp only at *
      exact hne (by rw [Pl.mk.injEq]; omega)
    · have := List.pairwise_iff_forall_sublist.1 h1 hab
      exact ⟨this, h2 _ (hab.subset (by simp)), h2 _ (hab.subset (by simp))⟩
  rw [e]
  have key : ∀ (n : Nat) (l : List Nat), l.Nodup → (∀ x ∈ l, x < n) → l.length ≤ n := by
    intro n
    induction n with
    | zero => intro l _ h; cases l with | nil => simp | cons a r => exact absurd (h a (by simp)) (by omega)
    | succ n ih =>
      intro l hn h
      by_cases hm : n ∈ l
      · have h1 := ih (l.erase n) (hn.erase n) (fun x hx => by
          have := h x (List.mem_of_mem_erase hx)
          have hne : x ≠ n := fun e => by rw [hn.mem_erase_iff] at hx; exact hx.1 e
          omega)
        rw [List.length_erase_of_mem hm] at h1
        omega
      · have h1 := ih l hn (fun x hx => by have := h x hx; have hne : x ≠ n := fun e => hm (e ▸ hx); omega)
        omega
  have hlt : ∀ x ∈ (L.map fun s => (s.x * 16 + s.y).toNat), x < 256 := by
    intro x hx
    simp only [List.mem_map] at hx
    obtain ⟨s, hs, rfl⟩ := hx
    obtain ⟨_, _, _, _⟩ := h2 s hs
    omega
  exact key 256 _ hn hlt
end Go.Proofs.Ytkjciobphbcknaa
namespace Go.Proofs.Ytkjciobphbcknaa
open Go.RowKit Go.Maps

def standH (B : Nat) (i : Int) : Hearer where
  σ := List Pl
  T := fun k => k = B
  H := fun L W => SetAt B L W
  step := fun L x => addPl L (x.1.get i)
  cont := fun _ _ => true

theorem grown_keptT {w w' : World} {B : Nat} (h : w.grownBy w' (some B)) : KeptT (fun k => k = B) w w' :=
  ⟨h.os, h.tape, h.output, h.size, fun k hk hn => h.block k hk (fun e => hn (by cases e; rfl))⟩

set_option maxHeartbeats 2000000 in
theorem stand_any (B : Nat) (i : Nat) (hi : i < 4) (L : List Pl) (t : At) (m : Int) (W : World) (h : SetAt B L W) (ht : t.ok) :
    Calls Try.prog 122 #[.agg #[.int .i64 i, .map (some B)], .agg #[.int .i64 t.p0.x, .int .i64 t.p0.y, .int .i64 t.p1.x, .int .i64 t.p1.y, .int .i64 t.p2.x, .int .i64 t.p2.y, .int .i64 t.p3.x, .int .i64 t.p3.y], .int .i64 m] W
      fun e W' => e = .returned (.bool true) ∧ SetAt B (addPl L (t.get i)) W' ∧ KeptT (fun k => k = B) W W' := by
  obtain ⟨a1, a2⟩ := at_cells (W.alloc (Obj.cells #[.int .i64 i, .map (some B)] 104)) t i hi (W.heap.size + 1) (by simp)
  have oka := At.get_ok ht i
  have i1 : (0 : Int) ≤ (i : Int) := by omega
  have i2 : (i : Int) < 4 := by omega
  generalize t.get i = pa at *
  have hb := h.lt
  have HS := Lib.hid h
  clear h
  go_enter Try.func122, Try.ntmps122
  go_wp2_with fail
  generalize hW5 : ((W.alloc (Obj.cells #[.int .i64 i, .map (some B)] 104)).alloc _) = W5 at *
  have k5 : Kept W W5 := by rw [← hW5]; exact ((Kept.refl _).alloc _).alloc _
  have e0 : W5.cell? ⟨W.heap.size, 0, none⟩ = some (.int .i64 i) := by rw [← hW5]; simp [go_sem]
  have e1 : W5.cell? ⟨W.heap.size, 1, none⟩ = some (.map (some B)) := by rw [← hW5]; simp [go_sem]
  have sz5 : W5.heap.size = W.heap.size + 2 := by rw [← hW5]; simp
  clear hW5
  have hs5 := HS.out.below hb k5.drew
  have HK5 := Lib.hid k5
  clear k5 HS
  obtain ⟨n1, n2, D, own, q1, q2, q3⟩ := hs5
  have hlen := set_len n1 n2
  have hkey := key_some oka
  have HQ := Lib.hid (And.intro n1 (And.intro n2 (And.intro q1 (And.intro q2 q3))))
  clear n1 n2 q1 q2 q3
  obtain ⟨w', hrun, own', hgr⟩ := own.update (t := 90) (e := 4) (key := plV pa) (val := .bool true) law93 und90 (by rw [HQ.out.2.2.1]; unfold maxLen; omega) hkey (plainElem_bool und4 true)
  have HOW := Lib.hid own'
  have htidy := Lib.hid (own.tidy law93)
  have HGR := Lib.hid hgr
  clear hkey own own' hgr
  go_region
  go_wp2
  go_ret
  obtain ⟨n1, n2, q1, q2, q3⟩ := HQ.out
  exact ⟨rfl, set_put oka n1 n2 htidy.out q1 q2 q3 HOW.out, (Kept.toT HK5.out.drew _).trans (grown_keptT HGR.out)⟩
theorem stand_law (B : Nat) (i : Nat) (hi : i < 4) : (standH B i).Law 122 (.agg #[.int .i64 i, .map (some B)]) := by
  rintro L ⟨t, m⟩ W h ht h1 h2
  exact stand_any B i hi L t m W h ht

def strayH (B : Nat) (i : Int) : Hearer where
  σ := List Pl
  T := fun k => k = B
  H := fun L W => SetAt B L W
  step := fun L x => if x.2 = i then addPl L (x.1.get i) else L
  cont := fun _ _ => true

set_option maxHeartbeats 2000000 in
theorem stray_law (B : Nat) (i : Nat) (hi : i < 4) : (strayH B i).Law 123 (.agg #[.int .i64 i, .map (some B)]) := by
  rintro (L : List Pl) ⟨t, m⟩ W h ht h1 h2
  change Calls _ _ _ _ fun e W' => e = .returned (.bool true) ∧ SetAt B (if m = i then addPl L (t.get i) else L) W' ∧ KeptT (fun k => k = B) W W'
  change SetAt B L W at h
  change t.ok at ht
  have hb := h.lt
  have HS := Lib.hid h
  clear h h1 h2
  go_enter Try.func123, Try.ntmps123
  by_cases hm : m = i
  · subst hm
    go_wp2_with (go_at_call 122; refine (stand_any B i hi L t _ _ (HS.out.below hb (((Kept.refl W).alloc _).alloc _)) ht).mono ?_; rintro e w1 ⟨rfl, hs1, hk1⟩)
    go_ret
    exact ⟨rfl, by simpa using hs1, (Kept.toT (((Kept.refl W).alloc _).alloc _) _).trans hk1⟩
  · go_wp2
    go_ret
    exact ⟨rfl, by first | exact HS.out.below hb (((Kept.refl W).alloc _).alloc _) | (rw [if_neg hm]; exact HS.out.below hb (((Kept.refl W).alloc _).alloc _)), Kept.toT (((Kept.refl W).alloc _).alloc _) _⟩
end Go.Proofs.Ytkjciobphbcknaa
