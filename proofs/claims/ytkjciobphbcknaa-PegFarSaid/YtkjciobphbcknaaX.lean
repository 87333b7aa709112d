/- Package peg: evidence. -/
import Derived.Test.YtkjciobphbcknaaW
import Derived.Deep.QuietTactic
import Derived.BigQuiet
namespace Go.Proofs.Ytkjciobphbcknaa
open Go.RowKit

/-- The set of the first k lengths that are right. -/
def setN (ls : List Len) (t : At) : Nat → Nat
  | 0 => 0
  | k + 1 => if (match ls[k]? with | some l => rightB l t | none => false) then setN ls t k + 2 ^ k else setN ls t k
theorem setN_lt (ls : List Len) (t : At) : ∀ k, setN ls t k < 2 ^ k
  | 0 => by simp [setN]
  | k + 1 => by
    have := setN_lt ls t k
    have h2 : 2 ^ (k + 1) = 2 ^ k + 2 ^ k := by rw [Nat.pow_succ]; omega
    have h3 : setN ls t (k + 1) = setN ls t k + 2 ^ k ∨ setN ls t (k + 1) = setN ls t k := by
      simp only [setN]
      generalize (match ls[k]? with | some l => rightB l t | none => false) = c
      cases c
      · exact .inr rfl
      · exact .inl rfl
    omega
theorem or_pow (k a : Nat) (hk : k < 6) (ha : a < 2 ^ k) : bits .or .i64 (a : Int) (2 ^ k : Int) = ((a + 2 ^ k : Nat) : Int) := by
  have h64 : a < 64 := Nat.lt_of_lt_of_le ha (Nat.pow_le_pow_right (by omega) (show k ≤ 6 by omega))
  have := (by decide +kernel : ∀ k : Fin 6, ∀ a : Fin 64, a.1 < 2 ^ k.1 → bits .or .i64 (a.1 : Int) (2 ^ k.1 : Int) = ((a.1 + 2 ^ k.1 : Nat) : Int)) ⟨k, hk⟩ ⟨a, h64⟩ ha
  exact this

structure EvD where
  peg : Int
  ls : List Len
  moved : Nat → Bool
  not : Nat → Bool
/-- The cells of evidence at block b. -/
def EvAt (b : Nat) (la : Option Addr) (lc : Nat) (s : EvD) (W : World) : Prop :=
  b < W.heap.size ∧ W.cell? ⟨b, 0, none⟩ = some (.int .i64 s.peg) ∧ W.cell? ⟨b, 1, none⟩ = some (.slice la s.ls.length lc) ∧
  (∀ k, k < 64 → W.cell? ⟨b, 2 + k, none⟩ = some (.bool (s.moved k)) ∧ W.frozen? ⟨b, 2 + k, none⟩ = false) ∧
  (∀ k, k < 64 → W.cell? ⟨b, 66 + k, none⟩ = some (.bool (s.not k)) ∧ W.frozen? ⟨b, 66 + k, none⟩ = false) ∧
  LensIn W la s.ls ∧ (∀ l ∈ s.ls, lenOk l) ∧ s.ls.length ≤ 6 ∧ ∀ a, la = some a → s.ls ≠ [] → a.block < b
theorem EvAt.below {b : Nat} {la : Option Addr} {lc : Nat} {s : EvD} {W W' : World} {C : Nat} (h : EvAt b la lc s W) (hb : b < C) (hC : C ≤ W.heap.size) (k : Below C W W') : EvAt b la lc s W' := by
  obtain ⟨l, c0, c1, cm, cn, hl, r⟩ := h
  refine ⟨Nat.lt_of_lt_of_le l k.size, (k.cell hb).trans c0, (k.cell hb).trans c1, fun j hj => ⟨(k.cell hb).trans (cm j hj).1, (k.frozen hb).trans (cm j hj).2⟩, fun j hj => ⟨(k.cell hb).trans (cn j hj).1, (k.frozen hb).trans (cn j hj).2⟩, ?_, r⟩
  intro i s' hi
  obtain ⟨b', o, rfl, hl', h1, h2, h3, h4⟩ := hl i s' hi
  have hlt : b' < C := Nat.lt_trans (r.2.2 _ rfl (by intro e; rw [e] at hi; simp at hi)) hb
  exact ⟨b', o, rfl, Nat.lt_of_lt_of_le hl' k.size, (k.cell hlt).trans h1, (k.cell hlt).trans h2, (k.cell hlt).trans h3, (k.cell hlt).trans h4⟩
theorem EvAt.setM {b : Nat} {la : Option Addr} {lc : Nat} {s : EvD} {W : World} (h : EvAt b la lc s W) {n : Nat} (hn : n < 64) :
    EvAt b la lc { s with moved := fun k => if k = n then true else s.moved k } (W.setCell ⟨b, 2 + n, none⟩ (.bool true)) := by
  obtain ⟨l, c0, c1, cm, cn, hl, h1, h2, h3⟩ := h
  refine ⟨by simpa using l, ?_, ?_, fun k hk => ⟨?_, ?_⟩, fun k hk => ⟨?_, ?_⟩, hl.keptT (keptT_setCell _ _ _ _) (fun a e e2 => by have := h3 a e e2; omega), h1, h2, h3⟩
  · rw [World.cell?_setCell_other _ _ _ _ (by simp)]; exact c0
  · rw [World.cell?_setCell_other _ _ _ _ (by simp)]; exact c1
  · by_cases e : k = n
    · subst e; simp only [if_pos]; exact World.cell?_setCell_same' _ _ _ (by rw [(cm k hk).1]; rfl)
    · simp only [if_neg e]; rw [World.cell?_setCell_other _ _ _ _ (by simp <;> omega)]; exact (cm k hk).1
  · rw [World.frozen?_setCell]; exact (cm k hk).2
  · rw [World.cell?_setCell_other _ _ _ _ (by simp <;> omega)]; exact (cn k hk).1
  · rw [World.frozen?_setCell]; exact (cn k hk).2
theorem EvAt.setNot {b : Nat} {la : Option Addr} {lc : Nat} {s : EvD} {W : World} (h : EvAt b la lc s W) {n : Nat} (hn : n < 64) :
    EvAt b la lc { s with not := fun k => if k = n then true else s.not k } (W.setCell ⟨b, 66 + n, none⟩ (.bool true)) := by
  obtain ⟨l, c0, c1, cm, cn, hl, h1, h2, h3⟩ := h
  refine ⟨by simpa using l, ?_, ?_, fun k hk => ⟨?_, ?_⟩, fun k hk => ⟨?_, ?_⟩, hl.keptT (keptT_setCell _ _ _ _) (fun a e e2 => by have := h3 a e e2; omega), h1, h2, h3⟩
  · rw [World.cell?_setCell_other _ _ _ _ (by simp)]; exact c0
  · rw [World.cell?_setCell_other _ _ _ _ (by simp)]; exact c1
  · rw [World.cell?_setCell_other _ _ _ _ (by simp <;> omega)]; exact (cm k hk).1
  · rw [World.frozen?_setCell]; exact (cm k hk).2
  · by_cases e : k = n
    · subst e; simp only [if_pos]; exact World.cell?_setCell_same' _ _ _ (by rw [(cn k hk).1]; rfl)
    · simp only [if_neg e]; rw [World.cell?_setCell_other _ _ _ _ (by simp <;> omega)]; exact (cn k hk).1
  · rw [World.frozen?_setCell]; exact (cn k hk).2
def evStep (s : EvD) (x : At × Int) : EvD :=
  if x.2 = s.peg then { s with moved := fun k => if k = setN s.ls x.1 s.ls.length then true else s.moved k }
  else { s with not := fun k => if k = setN s.ls x.1 s.ls.length then true else s.not k }
def evH (b : Nat) (la : Option Addr) (lc : Nat) : Hearer where
  σ := EvD
  T := fun k => k = b
  H := fun s W => EvAt b la lc s W
  step := evStep
  cont := fun s x => !(evStep s x).not (2 ^ s.ls.length - 1)

set_option maxHeartbeats 4000000 in
theorem ev_law (b : Nat) (la : Option Addr) (lc : Nat) : (evH b la lc).Law 127 (.pointer (some ⟨b, 0, none⟩)) := by
  rintro (s : EvD) ⟨t, m⟩ W h ht h1 h2
  change Calls _ _ _ _ fun e W' => e = .returned (.bool (!(evStep s (t, m)).not (2 ^ s.ls.length - 1))) ∧ EvAt b la lc (evStep s (t, m)) W' ∧ KeptT (fun k => k = b) W W'
  change EvAt b la lc s W at h
  change t.ok at ht
  clear h1 h2
  obtain ⟨hb, c0, c1, cm, cn, hl, hok, hlen, hla⟩ := h
  have HCM := Lib.hid cm
  have HCN := Lib.hid cn
  have HL := Lib.hid hl
  have HO := Lib.hid hok
  have HLA := Lib.hid hla
  clear cm cn hl hok hla
  go_enter Try.func127, Try.ntmps127
  go_wp2
  go_loopw [7, 15] (fun sv i wr => ∃ j : Nat, j ≤ s.ls.length ∧ i = .int .i64 j ∧ sv = .int .i64 (setN s.ls t j : Nat) ∧ Kept (W.alloc (Obj.cells #[.int .i64 t.p0.x, .int .i64 t.p0.y, .int .i64 t.p1.x, .int .i64 t.p1.y, .int .i64 t.p2.x, .int .i64 t.p2.y, .int .i64 t.p3.x, .int .i64 t.p3.y] 137)) wr) (fun _ i _ => s.ls.length - (intOf i).toNat)
  case atStart => exact ⟨0, Nat.zero_le _, rfl, rfl, Kept.refl _⟩
  case round =>
    obtain ⟨j, hj, rfl, rfl, hB⟩ := hrel
    have hc := hB.cells
    have hls := hB.lts
    by_cases hlt : j < s.ls.length
    · obtain ⟨bl, o, rfl, hbs, d1, d2, d3, d4⟩ := HL.out j (s.ls[j]) (by simp)
      have hbs2 : bl < wr.heap.size := hls _ (by simp; omega)
      obtain ⟨o1, o2, o3, o4, o5, o6, o7⟩ := HO.out s.ls[j] (List.getElem_mem hlt)
      have hsn := setN_lt s.ls t j
      have hor := or_pow j (setN s.ls t j) (by omega) hsn
      have hw : IntKind.i64.wrap (2 ^ j) = 2 ^ j := (by decide +kernel : ∀ j : Fin 6, IntKind.i64.wrap (2 ^ j.1) = 2 ^ j.1) ⟨j, by omega⟩
      have hst : setN s.ls t (j + 1) = if rightB s.ls[j] t then setN s.ls t j + 2 ^ j else setN s.ls t j := by simp [setN, hlt]
      have HST := Lib.hid hst
      clear hst
      go_wp2_with (go_at_call 101; refine (right_any s.ls[j] t _ ht (by omega) (by omega) (by omega) (by omega) (by omega) (by omega) (by omega)).mono ?_; rintro e w1 ⟨rfl, hb1⟩; replace hB := Kept.step1 hB hb1)
      · go_roundw
        case rel => exact ⟨j + 1, by omega, by go_num, by rename_i hr; rw [HST.out, if_pos hr]; simp, hB⟩
        case measure => simp [intOf]; omega
      · go_roundw
        case rel => exact ⟨j + 1, by omega, by go_num, by rename_i hr; rw [HST.out, if_neg (by rw [hr]; simp)], hB⟩
        case measure => simp [intOf]; omega
    · have e : j = s.ls.length := by omega
      subst e
      have hsn := setN_lt s.ls t s.ls.length
      have hpw : 2 ^ s.ls.length ≤ 64 := Nat.pow_le_pow_right (by omega) (show s.ls.length ≤ 6 from hlen)
      have HSTEP : Hid (evStep s (t, m) = if m = s.peg then { s with moved := fun k => if k = setN s.ls t s.ls.length then true else s.moved k } else { s with not := fun k => if k = setN s.ls t s.ls.length then true else s.not k }) := rfl
      generalize hnn : setN s.ls t s.ls.length = n at *
      have hn64 : n < 64 := by omega
      have kw : Kept W wr := hB.off _ _
      obtain ⟨m1, m2⟩ := HCM.out n hn64
      obtain ⟨n1, n2⟩ := HCN.out n hn64
      obtain ⟨K, hK⟩ : ∃ K : Nat, K = 2 ^ s.ls.length - 1 := ⟨_, rfl⟩
      have hK64 : K < 64 := by omega
      obtain ⟨n3, n4⟩ := HCN.out K hK64
      have f1 := (kw.frozens b (2 + n) hb).trans m2
      have f2 := (kw.frozens b (66 + n) hb).trans n2
      have e1 := (kw.cells b (2 + n) hb).trans m1
      have e2 := (kw.cells b (66 + n) hb).trans n1
      have e3 := (kw.cells b (66 + K) hb).trans n3
      have HM1 := Lib.hid m2
      have hw : IntKind.i64.wrap (2 ^ s.ls.length) = 2 ^ s.ls.length := by
        have := (by decide +kernel : ∀ j : Fin 7, IntKind.i64.wrap (2 ^ j.1) = 2 ^ j.1) ⟨s.ls.length, by omega⟩
        exact this
      have c0' := (kw.cells b 0 hb).trans c0
      have c1' := (kw.cells b 1 hb).trans c1
      clear m1 m2 n1 n2 n3 n4 hc hls
      have HKK := Lib.hid hK
      clear hK
      have g1 : (wr.setCell ⟨b, 2 + n, none⟩ (.bool true)).cell? ⟨b, 66 + K, none⟩ = some (.bool (s.not K)) := by
        rw [World.cell?_setCell_other _ _ _ _ (by simp <;> omega)]; exact e3
      have g2 : (wr.setCell ⟨b, 66 + n, none⟩ (.bool true)).cell? ⟨b, 66 + K, none⟩ = some (.bool (if K = n then true else s.not K)) := by
        by_cases h : K = n
        · subst h; rw [if_pos rfl]; exact World.cell?_setCell_same' _ _ _ (by rw [e2]; rfl)
        · rw [if_neg h, World.cell?_setCell_other _ _ _ _ (by simp <;> omega)]; exact e3
      have HG2 := Lib.hid g2
      have HG1 := Lib.hid g1
      clear g1 g2
      have hK3 : IntKind.i64.wrap ((2 : Int) ^ s.ls.length - 1) = (K : Int) := by
        have := (by decide +kernel : ∀ j : Fin 7, IntKind.i64.wrap ((2 : Int) ^ j.1 - 1) = ((2 ^ j.1 - 1 : Nat) : Int)) ⟨s.ls.length, by omega⟩
        rw [HKK.out]
        exact this
      have hEv : EvAt b la lc s wr := EvAt.below (W := W) ⟨hb, c0, c1, HCM.out, HCN.out, HL.out, HO.out, hlen, HLA.out⟩ hb (Nat.le_refl _) kw
      have HEV := Lib.hid hEv
      clear hEv
      by_cases hm : m = s.peg
      · have g1 := HG1.out
        have HS2 : Hid (evStep s (t, m) = { s with moved := fun k => if k = n then true else s.moved k }) := HSTEP.out.trans (if_pos hm)
        have HE2 := Lib.hid (HEV.out.setM hn64)
        go_wp2
        go_region
        go_wp2
        go_ret
        exact ⟨ret_bool (by rw [HS2.out, ← HKK.out]), by rw [HS2.out]; exact HE2.out, ((Kept.toT kw _).trans (keptT_setCell _ _ _ _)).drew⟩
      · have HS2 : Hid (evStep s (t, m) = { s with not := fun k => if k = n then true else s.not k }) := HSTEP.out.trans (if_neg hm)
        have HE2 := Lib.hid (HEV.out.setNot hn64)
        have g2 := HG2.out
        obtain ⟨vK, hv⟩ : ∃ v : Bool, v = (if K = n then true else s.not K) := ⟨_, rfl⟩
        rw [← hv] at g2
        have HV : Hid (vK = (if K = n then true else s.not K)) := hv
        clear hv
        go_wp2
        go_region
        go_wp2
        go_ret
        refine ⟨ret_bool ?_, ?_, ?_⟩
        · rw [HS2.out, ← HKK.out, HV.out]
        · rw [HS2.out]; exact HE2.out
        · exact ((Kept.toT kw _).trans (keptT_setCell _ _ _ _)).drew
end Go.Proofs.Ytkjciobphbcknaa
