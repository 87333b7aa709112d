/- Appending whatever slice, as an operation by itself. -/
import Derived.Test.YtkjciobphbcknaaG0
import Derived.Test.YtkjciobphbcknaaAM
import Derived.Laws.AppendOwnNone
import Derived.Deep.AppendLies
import Derived.ArgAppend
namespace Go.Proofs.Ytkjciobphbcknaa
open Go.RowKit

/-- What a slice reads as: these cells, from its head on. -/
def CellsIn (w : World) (A : Option Addr) (news : List Value) : Prop := ∀ j u, news[j]? = some u → ∃ b o, A = some ⟨b, o, none⟩ ∧ w.cell? ⟨b, o + j, none⟩ = some u
theorem add_off (b o j : Nat) : (⟨b, o, none⟩ : Addr).add j = ⟨b, o + j, none⟩ := by
  unfold Addr.add
  split
  · rename_i h; rw [h]; rfl
  · rfl
section
variable {P : Program} (w : World)
theorem append_run (base : Nat) (t ty e : TypeId) (i : TypeInfo) (z : Value) (size bytes : Nat) (ht : P.underlying t = some (.slice e)) (hi : P.info? e = some i) (hz : i.zero = some z) (hsize : i.size = size) (hby : i.bytes = bytes) (hzs : z.cells.size = size) (hsz : 0 < size)
    (v : Value) (n : Nat) (xs : List Value) (hown : w.ownsRow base e size v n xs) (A : Option Addr) (m c : Nat) (news : List Value) (hl : news.length = m * size) (hr : CellsIn w A news) (h1 : ∀ u ∈ news, u.oneCell' = true)
    (h63 : n + m ≤ maxLen) (hbytes : (n + m) * bytes ≤ 140737488355328) (hbase : base ≤ w.heap.size) :
    ∃ v' w', (Builtin.append_ #[t, t] ty #[v, .slice A m c]).run P w = .ok v' w' ∧ w'.ownsRow base e size v' (n + m) (xs ++ news) ∧ w.grownBy w' v.ownBlock ∧ (v'.ownBlock = v.ownBlock ∨ v'.ownBlock = some w.heap.size) := by
  cases A with
  | none =>
    have hn : news = [] := by
      cases news with
      | nil => rfl
      | cons u r => obtain ⟨b, o, h, _⟩ := hr 0 u rfl; cases h
    subst hn
    have hm : m = 0 := by
      have : 0 = m * size := by simpa using hl
      rcases Nat.mul_eq_zero.1 this.symm with h | h
      · exact h
      · omega
    subst hm
    refine ⟨v, w, ?_, by simpa using hown, World.grownBy.refl w _, .inl rfl⟩
    rcases hown.2 with ⟨rfl, rfl⟩ | ⟨g, cap, cur, rfl, _, _, hnc, _⟩
    · simp [Builtin.append_, run_underlying ht, sizeOf, typeInfo, hi, Builtin.lenOf, Builtin.firstCells]
    · simp [Builtin.append_, run_underlying ht, sizeOf, typeInfo, hi, Builtin.lenOf, Builtin.firstCells, hnc, storeCells]
  | some ad =>
    have hc : ∀ j u, news[j]? = some u → w.cell? (ad.add j) = some u := fun j u hj => by
      obtain ⟨b, o, h, hc⟩ := hr j u hj
      cases h
      rw [add_off]; exact hc
    obtain ⟨v', w', hrun, h2, h3, _, h5⟩ := run_append_own_at (P := P) w base t ty e i z size bytes ht hi hz hsize hby hzs hsz v n xs hown ad m c news hl hc h1 h63 hbytes hbase
    exact ⟨v', w', hrun, h2, h3, h5⟩
theorem does_append {o : Oper} {a : Act} {K : Value → World → Prop} (s x : Operand) (t : TypeId) (ho : o.op = .call { callee := .builtin .append, args := #[s, x], argTypes := #[t, t] })
    (base : Nat) (e : TypeId) (i : TypeInfo) (z : Value) (size bytes : Nat) (ht : P.underlying t = some (.slice e)) (hi : P.info? e = some i) (hz : i.zero = some z) (hsize : i.size = size) (hby : i.bytes = bytes) (hzs : z.cells.size = size) (hsz : 0 < size)
    (v : Value) (n : Nat) (xs : List Value) (hs : a.eval s = v) (hown : w.ownsRow base e size v n xs) (A : Option Addr) (m c : Nat) (news : List Value) (hx : a.eval x = .slice A m c) (hl : news.length = m * size) (hr : CellsIn w A news) (h1 : ∀ u ∈ news, u.oneCell' = true)
    (h63 : n + m ≤ maxLen) (hbytes : (n + m) * bytes ≤ 140737488355328) (hbase : base ≤ w.heap.size)
    (h : ∀ v' w', w'.ownsRow base e size v' (n + m) (xs ++ news) → w.grownBy w' v.ownBlock → (v'.ownBlock = v.ownBlock ∨ v'.ownBlock = some w.heap.size) → K v' w') : Does P o a w K := by
  obtain ⟨v', w', hrun, h2, h3, h4⟩ := append_run (P := P) w base t o.type e i z size bytes ht hi hz hsize hby hzs hsz v n xs hown A m c news hl hr h1 h63 hbytes hbase
  unfold Does execOp
  simp only [ho, resolve, invoke, builtin, Sem.run_bind, Sem.run_pure, Result.andThen_ok, List.map_toArray, List.map_cons, List.map_nil, hs, hx, hrun]
  exact h v' w' h2 h3 h4
end

/-- Onto a slice without room nothing old is written. -/
theorem does_append_fresh {P : Program} (w : World) {o : Oper} {a : Act} {K : Value → World → Prop} (s x : Operand) (t : TypeId) (ho : o.op = .call { callee := .builtin .append, args := #[s, x], argTypes := #[t, t] })
    (base : Nat) (e : TypeId) (i : TypeInfo) (z : Value) (size bytes : Nat) (ht : P.underlying t = some (.slice e)) (hi : P.info? e = some i) (hz : i.zero = some z) (hsize : i.size = size) (hby : i.bytes = bytes) (hzs : z.cells.size = size) (hsz : 0 < size)
    (g : Nat) (hs : a.eval s = .slice (some ⟨g, 0, none⟩) 0 0) (hown : w.ownsRow base e size (.slice (some ⟨g, 0, none⟩) 0 0) 0 []) (A : Option Addr) (m c : Nat) (news : List Value) (hx : a.eval x = .slice A m c) (hl : news.length = m * size) (hr : CellsIn w A news) (h1 : ∀ u ∈ news, u.oneCell' = true)
    (h63 : m ≤ maxLen) (hbytes : m * bytes ≤ 140737488355328) (hbase : base ≤ w.heap.size)
    (h : ∀ v' w', w'.ownsRow base e size v' m news → Kept w w' → K v' w') : Does P o a w K := by
  have key : ∃ v' w', (Builtin.append_ #[t, t] o.type #[.slice (some ⟨g, 0, none⟩) 0 0, .slice A m c]).run P w = .ok v' w' ∧ w'.ownsRow base e size v' m news ∧ Kept w w' := by
    by_cases hm : m = 0
    · subst hm
      have hn : news = [] := List.eq_nil_of_length_eq_zero (by simpa using hl)
      subst hn
      refine ⟨_, w, ?_, hown, Kept.refl w⟩
      cases A <;> simp [Builtin.append_, run_underlying ht, sizeOf, typeInfo, hi, Builtin.lenOf, Builtin.firstCells, loadCells, loadCellsFrom, storeCells]
    · cases A with
      | none =>
        exfalso
        cases news with
        | nil =>
          have h0 : 0 = m * size := by simpa using hl
          rcases Nat.mul_eq_zero.1 h0.symm with h | h <;> omega
        | cons u r => obtain ⟨b, o, h, _⟩ := hr 0 u rfl; cases h
      | some ad =>
        have hc : ∀ j u, news[j]? = some u → w.cell? (ad.add j) = some u := fun j u hj => by
          obtain ⟨b, o, h, hc⟩ := hr j u hj
          cases h
          rw [add_off]; exact hc
        obtain ⟨v', w', hrun, r1, r2⟩ := run_append_arg_grows (P := P) w t o.type e i z size bytes ht hi hz hsize hby hzs hsz ⟨g, 0, none⟩ 0 0 [] (by simp) (by simp) ad m c news hl hc (by omega) (by omega) (by rw [Nat.zero_add]; exact hbytes)
        refine ⟨v', w', hrun, ?_, ⟨r2.os, r2.tape, r2.output, r2.size, fun k hk => r2.block k hk (by simp)⟩⟩
        obtain ⟨q1, q2⟩ := r1
        refine ⟨by simpa using hl, ?_⟩
        rcases q2 with ⟨q3, q4⟩ | ⟨g', cap, cur, q3, q4, q5⟩
        · omega
        · rw [Nat.zero_add] at q3 q5
          exact .inr ⟨g', cap, cur, q3, by omega, by simpa using q5⟩
  obtain ⟨v', w', hrun, h2, h3⟩ := key
  unfold Does execOp
  simp only [ho, resolve, invoke, builtin, Sem.run_bind, Sem.run_pure, Result.andThen_ok, List.map_toArray, List.map_cons, List.map_nil, hs, hx, hrun]
  exact h v' w' h2 h3

theorem four_cells {α : Type} (f : α → List Value) (hf : ∀ x, (f x).length = 4) : ∀ (L : List α) (j : Nat) (u : Value), (L.flatMap f)[j]? = some u → ∃ x, L[j / 4]? = some x ∧ (f x)[j % 4]? = some u
  | [], j, u, h => by simp at h
  | x :: r, j, u, h => by
    rw [List.flatMap_cons] at h
    by_cases hj : j < 4
    · rw [List.getElem?_append_left (by rw [hf]; exact hj)] at h
      exact ⟨x, by rw [Nat.div_eq_of_lt hj]; rfl, by rw [Nat.mod_eq_of_lt hj]; exact h⟩
    · rw [List.getElem?_append_right (by rw [hf]; omega), hf] at h
      obtain ⟨y, h1, h2⟩ := four_cells f hf r (j - 4) u h
      have e1 : j / 4 = (j - 4) / 4 + 1 := by omega
      have e2 : j % 4 = (j - 4) % 4 := by omega
      exact ⟨y, by rw [e1]; simpa using h1, by rw [e2]; exact h2⟩
theorem LensIn.cellsIn {w : World} {A : Option Addr} {L : List Len} (h : LensIn w A L) : CellsIn w A (lenCells L) := by
  intro j u hj
  obtain ⟨l, h1, h2⟩ := four_cells _ (fun _ => rfl) L j u hj
  obtain ⟨b, o, rfl, _, c0, c1, c2, c3⟩ := h (j / 4) l h1
  refine ⟨b, o, rfl, ?_⟩
  have hj4 : j % 4 < 4 := Nat.mod_lt _ (by omega)
  have e : o + j = o + j / 4 * 4 + j % 4 := by omega
  rw [e]
  match hk : j % 4, hj4 with
  | 0, _ => rw [hk] at h2; simp at h2; rw [← h2]; exact c0
  | 1, _ => rw [hk] at h2; simp at h2; rw [← h2]; exact c1
  | 2, _ => rw [hk] at h2; simp at h2; rw [← h2]; exact c2
  | 3, _ => rw [hk] at h2; simp at h2; rw [← h2]; exact c3
theorem lenCells_one (L : List Len) : ∀ u ∈ lenCells L, u.oneCell' = true := by
  intro u hu
  simp only [lenCells, List.mem_flatMap] at hu
  obtain ⟨l, _, hu⟩ := hu
  simp at hu
  rcases hu with rfl | rfl | rfl | rfl <;> rfl
theorem lenCells_append (L M : List Len) : lenCells L ++ lenCells M = lenCells (L ++ M) := by simp [lenCells]
/-- Appending lengths. -/
theorem does_append_lens {w : World} {o : Oper} {a : Act} {K : Value → World → Prop} (s x : Operand) (ho : o.op = .call { callee := .builtin .append, args := #[s, x], argTypes := #[23, 23] }) (base : Nat) (v : Value) (L M : List Len) (A : Option Addr) (m c : Nat) (hs : a.eval s = v) (hown : OwnsLens w base v L)
    (hx : a.eval x = .slice A m c) (hm : m = M.length) (hM : LensIn w A M) (hlen : L.length + M.length ≤ 1000) (hbase : base ≤ w.heap.size)
    (h : ∀ v' w', OwnsLens w' base v' (L ++ M) → w.grownBy w' v.ownBlock → (v'.ownBlock = v.ownBlock ∨ v'.ownBlock = some w.heap.size) → K v' w') : Does Try.prog o a w K := by
  subst hm
  obtain ⟨i0, hi, hz0, hz1, hz2⟩ := info_parts info65
  refine does_append w s x 23 ho base 65 i0 (.agg #[.int .i64 0, .int .i64 0, .int .i64 0, .int .i64 0]) 4 32 Try.underlying23 hi hz0 hz1 hz2 rfl (by decide) v L.length (lenCells L) hs hown A M.length c (lenCells M) hx (lenCells_length M) hM.cellsIn (lenCells_one M)
    (by unfold maxLen; omega) (by omega) hbase (fun v' w' h1 h2 h3 => h v' w' ?_ h2 h3)
  unfold OwnsLens
  rw [List.length_append, ← lenCells_append]
  exact h1

theorem does_append_lens_new {w : World} {o : Oper} {a : Act} {K : Value → World → Prop} (s x : Operand) (ho : o.op = .call { callee := .builtin .append, args := #[s, x], argTypes := #[23, 23] }) (base : Nat) (g : Nat) (M : List Len) (A : Option Addr) (m c : Nat) (hs : a.eval s = .slice (some ⟨g, 0, none⟩) 0 0) (hown : OwnsLens w base (.slice (some ⟨g, 0, none⟩) 0 0) [])
    (hx : a.eval x = .slice A m c) (hm : m = M.length) (hM : LensIn w A M) (hlen : M.length ≤ 1000) (hbase : base ≤ w.heap.size)
    (h : ∀ v' w', OwnsLens w' base v' M → Kept w w' → K v' w') : Does Try.prog o a w K := by
  subst hm
  obtain ⟨i0, hi, hz0, hz1, hz2⟩ := info_parts info65
  exact does_append_fresh w s x 23 ho base 65 i0 (.agg #[.int .i64 0, .int .i64 0, .int .i64 0, .int .i64 0]) 4 32 Try.underlying23 hi hz0 hz1 hz2 rfl (by decide) g hs hown A M.length c (lenCells M) hx (lenCells_length M) hM.cellsIn (lenCells_one M)
    (by unfold maxLen; omega) (by omega) hbase h

def postCells (L : List Post) : List Value := L.flatMap fun p => [.int .i64 p.xlo, .int .i64 p.xhi, .int .i64 p.ylo, .int .i64 p.yhi]
theorem postCells_length (L : List Post) : (postCells L).length = L.length * 4 := by
  induction L with
  | nil => rfl
  | cons a l ih => simp only [postCells, List.flatMap_cons, List.length_append, List.length_cons, List.length_nil] at *; omega
theorem postCells_append (L M : List Post) : postCells L ++ postCells M = postCells (L ++ M) := by simp [postCells]
theorem postCells_at : ∀ (L : List Post) (i : Nat) (l : Post), L[i]? = some l → (postCells L)[i * 4]? = some (.int .i64 l.xlo) ∧ (postCells L)[i * 4 + 1]? = some (.int .i64 l.xhi) ∧ (postCells L)[i * 4 + 2]? = some (.int .i64 l.ylo) ∧ (postCells L)[i * 4 + 3]? = some (.int .i64 l.yhi)
  | [], i, l, h => by simp at h
  | x :: r, 0, l, h => by simp at h; subst h; simp [postCells]
  | x :: r, i + 1, l, h => by
    have := postCells_at r i l (by simpa using h)
    have e : postCells (x :: r) = [.int .i64 x.xlo, .int .i64 x.xhi, .int .i64 x.ylo, .int .i64 x.yhi] ++ postCells r := by simp [postCells]
    rw [e]
    have q : ∀ k, ([Value.int .i64 x.xlo, .int .i64 x.xhi, .int .i64 x.ylo, .int .i64 x.yhi] ++ postCells r)[(i + 1) * 4 + k]? = (postCells r)[i * 4 + k]? := fun k => by
      rw [List.getElem?_append_right (by simp; omega)]
      congr 1
      simp; omega
    exact ⟨(q 0).trans this.1, (q 1).trans this.2.1, (q 2).trans this.2.2.1, (q 3).trans this.2.2.2⟩
theorem info56 : (Try.prog.info? 56).map (fun i => (i.zero, i.size, i.bytes)) = some (some (.agg #[.int .i64 0, .int .i64 0, .int .i64 0, .int .i64 0]), 4, 32) := by kernel_rfl
/-- A slice value that owns posts. -/
def OwnsPosts (w : World) (base : Nat) (v : Value) (L : List Post) : Prop := w.ownsRow base 56 4 v L.length (postCells L)
theorem PostsIn.cellsIn {w : World} {A : Option Addr} {L : List Post} (h : PostsIn w A L) : CellsIn w A (postCells L) := by
  intro j u hj
  obtain ⟨l, h1, h2⟩ := four_cells _ (fun _ => rfl) L j u hj
  obtain ⟨b, o, rfl, _, c0, c1, c2, c3⟩ := h (j / 4) l h1
  refine ⟨b, o, rfl, ?_⟩
  have hj4 : j % 4 < 4 := Nat.mod_lt _ (by omega)
  have e : o + j = o + j / 4 * 4 + j % 4 := by omega
  rw [e]
  match hk : j % 4, hj4 with
  | 0, _ => rw [hk] at h2; simp at h2; rw [← h2]; exact c0
  | 1, _ => rw [hk] at h2; simp at h2; rw [← h2]; exact c1
  | 2, _ => rw [hk] at h2; simp at h2; rw [← h2]; exact c2
  | 3, _ => rw [hk] at h2; simp at h2; rw [← h2]; exact c3
theorem postCells_one (L : List Post) : ∀ u ∈ postCells L, u.oneCell' = true := by
  intro u hu
  simp only [postCells, List.mem_flatMap] at hu
  obtain ⟨l, _, hu⟩ := hu
  simp at hu
  rcases hu with rfl | rfl | rfl | rfl <;> rfl
theorem does_append_posts {w : World} {o : Oper} {a : Act} {K : Value → World → Prop} (s x : Operand) (ho : o.op = .call { callee := .builtin .append, args := #[s, x], argTypes := #[22, 22] }) (base : Nat) (v : Value) (L M : List Post) (A : Option Addr) (m c : Nat) (hs : a.eval s = v) (hown : OwnsPosts w base v L)
    (hx : a.eval x = .slice A m c) (hm : m = M.length) (hM : PostsIn w A M) (hlen : L.length + M.length ≤ 1000) (hbase : base ≤ w.heap.size)
    (h : ∀ v' w', OwnsPosts w' base v' (L ++ M) → w.grownBy w' v.ownBlock → (v'.ownBlock = v.ownBlock ∨ v'.ownBlock = some w.heap.size) → K v' w') : Does Try.prog o a w K := by
  subst hm
  obtain ⟨i0, hi, hz0, hz1, hz2⟩ := info_parts info56
  refine does_append w s x 22 ho base 56 i0 (.agg #[.int .i64 0, .int .i64 0, .int .i64 0, .int .i64 0]) 4 32 Try.underlying22 hi hz0 hz1 hz2 rfl (by decide) v L.length (postCells L) hs hown A M.length c (postCells M) hx (postCells_length M) hM.cellsIn (postCells_one M)
    (by unfold maxLen; omega) (by omega) hbase (fun v' w' h1 h2 h3 => h v' w' ?_ h2 h3)
  unfold OwnsPosts
  rw [List.length_append, ← postCells_append]
  exact h1
theorem does_append_posts_new {w : World} {o : Oper} {a : Act} {K : Value → World → Prop} (s x : Operand) (ho : o.op = .call { callee := .builtin .append, args := #[s, x], argTypes := #[22, 22] }) (base : Nat) (g : Nat) (M : List Post) (A : Option Addr) (m c : Nat) (hs : a.eval s = .slice (some ⟨g, 0, none⟩) 0 0) (hown : OwnsPosts w base (.slice (some ⟨g, 0, none⟩) 0 0) [])
    (hx : a.eval x = .slice A m c) (hm : m = M.length) (hM : PostsIn w A M) (hlen : M.length ≤ 1000) (hbase : base ≤ w.heap.size)
    (h : ∀ v' w', OwnsPosts w' base v' M → Kept w w' → K v' w') : Does Try.prog o a w K := by
  subst hm
  obtain ⟨i0, hi, hz0, hz1, hz2⟩ := info_parts info56
  exact does_append_fresh w s x 22 ho base 56 i0 (.agg #[.int .i64 0, .int .i64 0, .int .i64 0, .int .i64 0]) 4 32 Try.underlying22 hi hz0 hz1 hz2 rfl (by decide) g hs hown A M.length c (postCells M) hx (postCells_length M) hM.cellsIn (postCells_one M)
    (by unfold maxLen; omega) (by omega) hbase h
theorem OwnsPosts.reads {w : World} {base : Nat} {v : Value} {L : List Post} (h : OwnsPosts w base v L) : ∃ pa cap, v = .slice pa L.length cap ∧ PostsIn w pa L := by
  obtain ⟨h1, ⟨rfl, h2⟩ | ⟨g, cap, cur, rfl, hb, hg, h3, h4, h5, h6⟩⟩ := h
  · exact ⟨none, 0, by rw [h2], fun i s hi => by rw [List.eq_nil_of_length_eq_zero h2] at hi; simp at hi⟩
  · refine ⟨some ⟨g, 0, none⟩, cap, rfl, fun i s hi => ⟨g, 0, rfl, (Array.getElem?_eq_some_iff.1 hg).1, ?_⟩⟩
    have hil : i < L.length := (List.getElem?_eq_some_iff.1 hi).1
    obtain ⟨c1, c2, c3, c4⟩ := postCells_at L i s hi
    rw [← h6, List.getElem?_take, if_pos (by omega)] at c1
    rw [← h6, List.getElem?_take, if_pos (by omega)] at c2
    rw [← h6, List.getElem?_take, if_pos (by omega)] at c3
    rw [← h6, List.getElem?_take, if_pos (by omega)] at c4
    simp only [World.cell?, hg]
    exact ⟨by simpa using c1, by simpa using c2, by simpa using c3, by simpa using c4⟩
end Go.Proofs.Ytkjciobphbcknaa
