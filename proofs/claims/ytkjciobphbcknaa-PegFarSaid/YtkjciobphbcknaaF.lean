/- Package peg: the places of a rectangle. -/
import Derived.Test.YtkjciobphbcknaaE
namespace Go.Proofs.Ytkjciobphbcknaa
open Go.RowKit

theorem info93 : (Try.prog.info? 93).map (fun i => (i.zero, i.size, i.bytes)) = some (some (.agg #[.int .i64 0, .int .i64 0]), 2, 16) := by kernel_rfl

theorem Kept.grown {W w1 w2 : World} {row : Option Nat} (h : Kept W w1) (hg : w1.grownBy w2 row) (hr : ∀ k, row = some k → W.heap.size ≤ k) : Kept W w2 := Below.grown h hg (Below.size h) hr

def plCells (L : List Pl) : List Value := L.flatMap fun s => [.int .i64 s.x, .int .i64 s.y]
theorem plCells_snoc (L : List Pl) (s : Pl) : plCells (L ++ [s]) = plCells L ++ [.int .i64 s.x, .int .i64 s.y] := by simp [plCells]
theorem plCells_length (L : List Pl) : (plCells L).length = L.length * 2 := by
  induction L with
  | nil => rfl
  | cons a l ih => simp only [plCells, List.flatMap_cons, List.length_append, List.length_cons, List.length_nil] at *; omega
def colL (x ylo : Int) (m : Nat) : List Pl := (List.range m).map fun j : Nat => ⟨x, ylo + j⟩
def colsL (xlo ylo : Int) (n : Nat) (k : Nat) : List Pl := (List.range k).flatMap fun i : Nat => colL (xlo + i) ylo n
def rectL (xlo xhi ylo yhi : Int) : List Pl := colsL xlo ylo (yhi + 1 - ylo).toNat (xhi + 1 - xlo).toNat
theorem colL_succ (x ylo : Int) (m : Nat) : colL x ylo (m + 1) = colL x ylo m ++ [⟨x, ylo + m⟩] := by simp [colL, List.range_succ]
theorem colsL_succ (xlo ylo : Int) (n k : Nat) : colsL xlo ylo n (k + 1) = colsL xlo ylo n k ++ colL (xlo + k) ylo n := by simp [colsL, List.range_succ]
theorem colL_length (x ylo : Int) (m : Nat) : (colL x ylo m).length = m := by simp [colL]
theorem colsL_length (xlo ylo : Int) (n k : Nat) : (colsL xlo ylo n k).length = k * n := by
  induction k with
  | zero => simp [colsL]
  | succ k ih => rw [colsL_succ, List.length_append, ih, colL_length, Nat.succ_mul]

/-- A slice value that owns places. -/
def OwnsPls (w : World) (base : Nat) (v : Value) (L : List Pl) : Prop := w.ownsRow base 93 2 v L.length (plCells L)

theorem append_pl {ops : Array Oper} {rest : List Oper} {o : Oper} {a : Act} {Q : Exit → Act → World → Prop} (hgd : o.guard = none) (s x : Operand)
    (ho : o.op = .call { callee := .builtin .append, args := #[s, x], argTypes := #[147, 147] }) (base : Nat) (v : Value) (L : List Pl) (q : Pl) (hs : a.eval s = v) (w : World) (hown : OwnsPls w base v L)
    (hx : a.eval x = .slice (some ⟨w.heap.size, 0, none⟩) 1 1) (hlen : L.length ≤ 1000) (hbase : base ≤ w.heap.size)
    (h : ∀ v' w', OwnsPls w' base v' (L ++ [q]) → (w.alloc (.cells #[.int .i64 q.x, .int .i64 q.y] 93)).grownBy w' v.ownBlock → wpList Try.prog ops Q rest (a.put o.dst v') w') :
    wpList Try.prog ops Q (o :: rest) a (w.alloc (.cells #[.int .i64 q.x, .int .i64 q.y] 93)) := by
  obtain ⟨i0, hi, hz0, hz1, hz2⟩ := info_parts info93
  refine wpList_append_own _ hgd s x 147 ho base 93 i0 (.agg #[.int .i64 0, .int .i64 0]) 2 16 Try.underlying147 hi hz0 hz1 hz2 rfl (by decide) v L.length (plCells L) hs (World.ownsRow.alloc hown _)
    ⟨w.heap.size, 0, none⟩ 1 1 [.int .i64 q.x, .int .i64 q.y] hx rfl ?_ (by simp [Value.oneCell']) (by unfold maxLen; omega) (by omega) (by simp; omega) ?_
  · intro j u hj
    match j with
    | 0 => simp at hj; subst hj; simp [go_sem, Addr.add]
    | 1 => simp at hj; subst hj; simp [go_sem, Addr.add]
    | n + 2 => simp at hj
  · intro v' w' h1 h2 _
    exact h v' w' (by unfold OwnsPls; rw [plCells_snoc, List.length_append]; exact h1) h2

set_option maxRecDepth 100000 in
set_option maxHeartbeats 1000000 in
theorem rectangle_any (xlo xhi ylo yhi : Int) (w : World) (h1 : 0 ≤ xlo) (h2 : xlo ≤ xhi) (h3 : xhi ≤ 15) (h4 : 0 ≤ ylo) (h5 : ylo ≤ yhi) (h6 : yhi ≤ 15) :
    Calls Try.prog 97 #[.agg #[.int .i64 xlo, .int .i64 xhi], .agg #[.int .i64 ylo, .int .i64 yhi]] w
      fun e w' => ∃ v, e = .returned v ∧ OwnsPls w' w.heap.size v (rectL xlo xhi ylo yhi) ∧ Kept w w' := by
  obtain ⟨n, hn⟩ : ∃ n : Nat, n = (yhi + 1 - ylo).toNat := ⟨_, rfl⟩
  have hn16 : n ≤ 16 := by omega
  have HN := Lib.hid hn
  go_enter Try.func97, Try.ntmps97
  go_wp2
  go_loopw [5, 6, 7] (fun v i _ wr => ∃ k : Nat, xlo + k ≤ xhi + 1 ∧ i = .int .i64 (xlo + k) ∧ OwnsPls wr (w.heap.size + 2) v (colsL xlo ylo n k) ∧ Kept ((w.alloc (Obj.cells #[.int .i64 xlo, .int .i64 xhi] 32)).alloc (Obj.cells #[.int .i64 ylo, .int .i64 yhi] 32)) wr) (fun _ i _ _ => (xhi + 1 - intOf i).toNat)
  case atStart => exact ⟨0, by omega, by simp, World.ownsRow_nil _ _ _ _, Kept.refl _⟩
  case round =>
    obtain ⟨k, hk, rfl, hown, hB⟩ := hrel
    have hc := hB.cells
    have hsz : w.heap.size + 1 < wr.heap.size := hB.lt (by simp)
    have hsz0 : w.heap.size < wr.heap.size := by omega
    clear hn
    by_cases hlt : xlo + k ≤ xhi
    · go_wp2
      obtain ⟨wo, rfl⟩ : ∃ wo : World, wo = wr := ⟨_, rfl⟩
      go_loopw [5, 7] (fun v j wr => ∃ m : Nat, m ≤ n ∧ j = .int .i64 (ylo + m) ∧ OwnsPls wr (w.heap.size + 2) v (colsL xlo ylo n k ++ colL (xlo + k) ylo m) ∧ Kept ((w.alloc (Obj.cells #[.int .i64 xlo, .int .i64 xhi] 32)).alloc (Obj.cells #[.int .i64 ylo, .int .i64 yhi] 32)) wr) (fun _ j _ => (yhi + 1 - intOf j).toNat)
      case atStart => exact ⟨0, by omega, by simp, by simpa [colL] using hown, hB⟩
      case round =>
        clear hc hsz hsz0 hown hB
        obtain ⟨m, hm, rfl, hown, hB⟩ := hrel
        have hc := hB.cells
        have hsz : w.heap.size + 1 < wr.heap.size := hB.lt (by simp)
        have hsz0 : w.heap.size < wr.heap.size := by omega
        have hN := HN.out
        by_cases hlt2 : ylo + m ≤ yhi
        · have hlen : (colsL xlo ylo n k ++ colL (xlo + k) ylo m).length ≤ 255 := by
            rw [List.length_append, colsL_length, colL_length]
            have : k * n ≤ 15 * n := Nat.mul_le_mul_right n (by omega)
            omega
          have hmn : m + 1 ≤ n := by omega
          clear hN
          have HNX : Hid (colL (xlo + k) ylo (m + 1) = colL (xlo + k) ylo m ++ [⟨xlo + k, ylo + m⟩]) := colL_succ _ _ _
          go_wp2_with (at_builtin; go_must (refine append_pl rfl _ _ rfl (w.heap.size + 2) u5 (colsL xlo ylo n k ++ colL (xlo + k) ylo m) ⟨xlo + k, ylo + m⟩ rfl wr hown rfl (by omega) (by omega) ?_; intro v' w1 hown' hgrow; clear hc))
          go_roundw
          case rel => exact ⟨m + 1, by omega, by go_num, by rw [HNX.out, ← List.append_assoc]; exact hown', (hB.alloc _).grown hgrow (fun j e => by have := (World.ownsRow.lt hown j e).1; simpa using this)⟩
          case measure => simp [intOf]; omega
        · have e : m = n := by omega
          subst e
          have HNX : Hid (colsL xlo ylo m (k + 1) = colsL xlo ylo m k ++ colL (xlo + k) ylo m) := colsL_succ _ _ _ _
          clear hN
          go_wp2
          go_roundw
          case rel => exact ⟨k + 1, by omega, by go_num, by rw [HNX.out]; exact hown, hB⟩
          case measure => simp [intOf]; omega
    · have e : k = (xhi + 1 - xlo).toNat := by omega
      have HE : Hid (rectL xlo xhi ylo yhi = colsL xlo ylo n k) := by rw [Hid, rectL, ← HN.out, ← e]
      clear e
      go_wp2
      go_ret
      refine ⟨_, rfl, ?_, (hB.off _ _).off _ _⟩
      rw [HE.out]
      exact ⟨hown.1, hown.2.imp id fun ⟨g, cap, cur, a, b, c⟩ => ⟨g, cap, cur, a, by omega, c⟩⟩
end Go.Proofs.Ytkjciobphbcknaa
