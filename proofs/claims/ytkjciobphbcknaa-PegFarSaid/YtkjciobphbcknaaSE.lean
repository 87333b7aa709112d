/- The document's own list of truths, as the program makes it. -/
import Derived.Test.YtkjciobphbcknaaSD
namespace Go.Proofs.Ytkjciobphbcknaa
open Go.RowKit En

section
variable {P : Program} {w0 : World} {T : Nat → Prop} {R : Heap} {E : Env} {x y : Operand} {d : Option Tmp} {ty t : TypeId} {pos : String} {af : Array Edge} {g : Option (Nat × Bool)}
theorem lr_append_inE {e sz by_ : Nat} (ht : appB P t e sz by_ = true) {k n cap m c k2 : Nat} {cur xs news ys : List Value} {A : Option Addr} (hx : Ev E x (.slice (some ⟨k, 0, none⟩) n cap)) (hrow : InRow sz n cap cur xs) (hy : Ev E y (.slice A m c)) (hl : news.length = m * sz) (hsz : 0 < sz) (hp : news.all plainV = true)
    (hmax : (n + m) * by_ ≤ 140737488355328) (hmx : n + m ≤ maxLen) (hk : n + m = k2) (hys : xs ++ news = ys) (hnews : ∀ w, St w0 T R w → CellsIn w A news) :
    LR P E w0 T R [(k, Obj.cells cur.toArray e (0, 0))] ⟨d, .call ⟨.builtin .append, [x, y].toArray, [t, t].toArray⟩, ty, pos, af, g⟩ (fun q : Nat × Nat × List Value => InRow sz k2 q.2.1 q.2.2 ys) (fun q => .slice (some ⟨q.1, 0, none⟩) k2 q.2.1) (fun q => [(q.1, Obj.cells q.2.2.toArray e (0, 0))]) := by
  subst hk; subst hys
  exact lr_append_in ht hx hrow hy hl hsz hp hmax hmx hnews
theorem lr_append_rowE {e sz by_ : Nat} (ht : appB P t e sz by_ = true) {k n cap m c k2 b off : Nat} {cur xs news ys : List Value} (hx : Ev E x (.slice (some ⟨k, 0, none⟩) n cap)) (hrow : InRow sz n cap cur xs) (hy : Ev E y (.slice (some ⟨b, off, none⟩) m c)) (hl : news.length = m * sz) (hp : news.all plainV = true)
    (hmax : (n + m) * by_ ≤ 140737488355328) (hmx : n + m ≤ maxLen) (hk : n + m = k2) (hys : xs ++ news = ys) (hnews : ∀ w, St w0 T R w → ∀ j u, news[j]? = some u → w.cell? ⟨b, off + j, none⟩ = some u) :
    LR P E w0 T R [(k, Obj.cells cur.toArray e (0, 0))] ⟨d, .call ⟨.builtin .append, [x, y].toArray, [t, t].toArray⟩, ty, pos, af, g⟩ (fun q : Nat × Nat × List Value => InRow sz k2 q.2.1 q.2.2 ys) (fun q => .slice (some ⟨q.1, 0, none⟩) k2 q.2.1) (fun q => [(q.1, Obj.cells q.2.2.toArray e (0, 0))]) := by
  subst hk; subst hys
  exact lr_append_row ht hx hrow hy hl hp hmax hmx hnews
end
structure TR where
  o : Option RowO
  xs : List Value
  R : Heap
theorem rowH_apart (o : Option RowO) (e : TypeId) : (rowH o e).Pairwise fun x y => x.1 ≠ y.1 := by
  cases o with
  | none => exact .nil
  | some r => exact List.pairwise_singleton _ _
/-- What truths starts with. -/
structure TIn (w : World) (p : PegsD) (pa la : Option Addr) (lo o : Option RowO) (L : List Pl) (n : Nat) (xs : List Value) : Prop where
  row : rowIs lo 2 L.length (qlCells L)
  out : rowIs o 2 n xs
  outM : ∀ z, z ∈ rowH o 84 → w.heap[z.1]? = some z.2
  keep : ∀ w', St w (blk (rowH o 84)) [] w' → PegsIn w' p pa la ∧ ∀ z, z ∈ rowH lo 52 → w'.heap[z.1]? = some z.2
theorem TIn.start {w : World} {p : PegsD} {pa la : Option Addr} {lo o : Option RowO} {L : List Pl} {n : Nat} {xs : List Value} (h : TIn w p pa la lo o L n xs) : PegsIn w p pa la := (h.keep w (St.init w _)).1
theorem TIn.next {w : World} {p : PegsD} {pa la : Option Addr} {lo o0 lo' o : Option RowO} {L L' : List Pl} {n n' : Nat} {xs xs' : List Value} (h : TIn w p pa la lo o0 L n xs) {w' : World} (hR : St w (blk (rowH o0 84)) (rowH o 84 ++ rowH lo' 52) w')
    (row : rowIs lo' 2 L'.length (qlCells L')) (out : rowIs o 2 n' xs') : TIn w' p pa la lo' o L' n' xs' :=
  ⟨row, out, fun z hz => (hR.own z (List.mem_append_left _ hz)).1, fun w'' h2 => by
    have hj := hR.join h2
    exact ⟨(h.keep w'' (hj.pick .nil)).1, fun z hz => (hj.own z (List.mem_append_right _ hz)).1⟩⟩
/-- What truths ends with. -/
def TEnds (w : World) (lo o : Option RowO) (n : Nat) (xs : List Value) (D : List (List Pl × Int)) (e : Ending) (w' : World) : Prop :=
  ∃ s : TR, (rowIs s.o 2 (n + D.length) (xs ++ s.xs) ∧ Elems (rowH lo 52 ++ s.R) s.xs D) ∧ e = .returned (.slice (rowA s.o) (n + D.length) (rowC s.o)) ∧ Tr w w' (rowH o 84) (rowH s.o 84 ++ s.R)
theorem En.St.trOf {w w' : World} {A B H : Heap} (h : St w (blk A) H w') (hB : Pick H B) : Tr w w' A B := by
  have hb := h.pick hB
  exact hb.toTr (fun k hk => .inl hk) (fun x hx => hx) (fun x hx => (hb.own x hx).2.elim .inr .inl) hb.apart
theorem posts_cell {w : World} {b o i : Nat} {ps : List Post} {q : Post} (h : PostsIn w (some ⟨b, o, none⟩) ps) (hq : ps[i]? = some q) : ∀ j v, [Value.int .i64 q.xlo, .int .i64 q.xhi, .int .i64 q.ylo, .int .i64 q.yhi][j]? = some v → w.cell? ⟨b, o + i * 4 + j, none⟩ = some v := by
  obtain ⟨b', o', e, _, hP⟩ := postsIn_at h (Nat.lt_of_le_of_lt (Nat.zero_le _) (List.getElem?_eq_some_iff.1 hq).1)
  cases e
  exact hP i q hq
theorem elem_of_row {lo : Option RowO} {L : List Pl} (h : rowIs lo 2 L.length (qlCells L)) {K : Heap} (hK : ∀ z, z ∈ rowH lo 52 → z ∈ K) : Elem K (.slice (rowA lo) L.length (rowC lo)) L := ⟨lo, (rowV_eq h).symm, h, hK⟩
theorem perm_call (A S R : Heap) (x y q b : Nat × Obj) : ((A ++ S) ++ ([b, q, x, y] ++ R)).Perm ((x :: y :: (A ++ (S ++ q :: R))) ++ [b]) := by
  have h1 : ((A ++ S) ++ ([b, q, x, y] ++ R)).Perm (b :: q :: x :: y :: ((A ++ S) ++ R)) :=
    (List.perm_append_comm_assoc (A ++ S) [b, q, x, y] R)
  have h2 : ((x :: y :: (A ++ (S ++ q :: R))) ++ [b]).Perm (b :: x :: y :: (A ++ (S ++ q :: R))) := List.perm_append_comm
  refine h1.trans (List.Perm.trans ?_ h2.symm)
  refine List.Perm.cons _ ?_
  have h3 : (A ++ (S ++ q :: R)).Perm (q :: ((A ++ S) ++ R)) := by
    rw [← List.append_assoc]; exact List.perm_middle
  have h4 : (q :: x :: y :: ((A ++ S) ++ R)).Perm (x :: y :: q :: ((A ++ S) ++ R)) := (List.Perm.swap x q _).trans (List.Perm.cons _ (List.Perm.swap y q _))
  exact h4.trans (List.Perm.cons _ (List.Perm.cons _ h3.symm))
structure TS where
  x : Nat
  j : Nat
  r : TR
def TOk (lo : Option RowO) (n : Nat) (xs : List Value) (D : List (List Pl × Int)) (z : TS) : Prop := z.j = D.length ∧ rowIs z.r.o 2 (n + z.j) (xs ++ z.r.xs) ∧ Elems (rowH lo 52 ++ z.r.R) z.r.xs D
theorem TOk.add {lo lo' : Option RowO} {n : Nat} {xs : List Value} {D D' : List (List Pl × Int)} {z : TS} (h : TOk lo n xs D z) {s : TR} {q : Nat × Obj} (hlo : rowH lo' 52 = [q]) (h1 : rowIs s.o 2 (n + z.j + D'.length) ((xs ++ z.r.xs) ++ s.xs)) (h2 : Elems (rowH lo' 52 ++ s.R) s.xs D') (k : Nat) :
    TOk lo n xs (D ++ D') ⟨k, z.j + D'.length, ⟨s.o, z.r.xs ++ s.xs, s.R ++ q :: z.r.R⟩⟩ := by
  obtain ⟨a, b, c⟩ := h
  refine ⟨by simp [a], by simp only; rw [← Nat.add_assoc, ← List.append_assoc]; exact h1, ?_⟩
  refine Elems.append (c.mono fun z hz => ?_) (h2.mono fun z hz => ?_)
  · simp only [List.mem_append, List.mem_cons] at hz ⊢
    rcases hz with hz | hz
    · exact .inl hz
    · exact .inr (.inr (.inr hz))
  · rw [hlo] at hz
    simp only [List.mem_append, List.mem_cons, List.not_mem_nil, or_false] at hz ⊢
    rcases hz with hz | hz
    · exact .inr (.inr (.inl hz))
    · exact .inr (.inl hz)
theorem stepS_none {p : PegsD} {set k : Nat} {L : List Pl} {m : Int} {s : Pl} (h1 : ¬ atPost (postN p L.length) s) (h2 : m ≠ -1) : stepS p set k L m s = [] := by simp [stepS, nextM, h1, h2]
theorem stepS_bad {p : PegsD} {set k : Nat} {L : List Pl} {m m' : Int} {s : Pl} (h1 : nextM (postN p L.length) s L.length m = some m') (h2 : rightS set p.ls (L ++ [s]) = false) : stepS p set k L m s = [] := by simp [stepS, h1, h2]
theorem stepS_good {p : PegsD} {set k : Nat} {L : List Pl} {m m' : Int} {s : Pl} (h1 : nextM (postN p L.length) s L.length m = some m') (h2 : rightS set p.ls (L ++ [s]) = true) : stepS p set k L m s = truthsS p set k (L ++ [s]) m' := by simp [stepS, h1, h2]
theorem TOk.same {lo : Option RowO} {n : Nat} {xs : List Value} {D D' : List (List Pl × Int)} {z : TS} (h : TOk lo n xs D z) (hD : D' = []) (k : Nat) : TOk lo n xs (D ++ D') ⟨k, z.j, z.r⟩ := by
  subst hD; rw [List.append_nil]; exact h
theorem perm_a (A R : Heap) (a b c d : Nat × Obj) : (a :: b :: c :: d :: (A ++ R)).Perm (A ++ (a :: b :: c :: d :: R)) := List.perm_append_comm_assoc [a, b, c, d] A R
theorem perm_b (A R : Heap) (a b c d : Nat × Obj) : (a :: b :: c :: d :: (A ++ R)).Perm ((A ++ [b]) ++ (a :: c :: d :: R)) := by
  refine (perm_a A R a b c d).trans ?_
  rw [List.append_assoc]
  exact (List.Perm.swap b a _).append_left A
theorem perm_c (A : Heap) (a b : Nat × Obj) : (a :: b :: A).Perm (A ++ [a, b]) := List.perm_append_comm (l₁ := [a, b]) (l₂ := A)

set_option maxRecDepth 100000 in
set_option maxHeartbeats 4000000 in
theorem truths0 {p : PegsD} {pa la : Option Addr} {lo o : Option RowO} {L : List Pl} {n : Nat} {xs : List Value} {w : World} (pc lc set : Nat) (mv : Int) (hin : TIn w p pa la lo o L n xs) (hL : L.length = p.ps.length) (hn : n + 1 ≤ 1000000) :
    Calls Try.prog 94 [.agg [.int .i64 p.side, .slice pa p.ps.length pc, .slice la p.ls.length lc].toArray, .int .i64 (set : Int), .agg [.slice (rowA lo) L.length (rowC lo), .int .i64 mv].toArray, .slice (rowA o) n (rowC o)].toArray w (TEnds w lo o n xs [(L, mv)]) := by
  rcases o with _ | ⟨og, oc, ocu⟩
  ·
    obtain ⟨rfl, rfl⟩ := hin.out
    refine enterT (n := 75) (H := rowH none 84) (T := blk (rowH none 84)) Try.func94 rfl rfl rfl (by repeat (first | exact Fill.nil | apply Fill.cons)) (fun z hz => ⟨hin.outM z hz, z, hz, rfl⟩) (rowH_apart _ 84) ?_
    refine cw_seq ?_
    refine cw_region ?_
    refine lstep rfl rfl rfl (run_boxN (.tmp rfl)) ?_
    intro b4 _
    refine lstep rfl rfl rfl (run_boxN (.tmp rfl)) ?_
    intro b6 _
    refine lstepB rfl rfl rfl (run_assign .const) ?_
    refine lnil ?_
    refine xw_then ?_
    refine cw_seq ?_
    refine cw_region ?_
    refine lstepB rfl rfl rfl (run_fieldAddr (.tmp rfl) fa84_0 (by first | exact Nat.zero_add _ | exact rfl)) ?_
    refine lstepB rfl rfl rfl (run_load1 (.tmp rfl) kd46 (by repeat (first | exact List.Mem.head _ | apply List.Mem.tail)) (by exact rfl)) ?_
    refine lstepB rfl rfl rfl (run_len (.tmp rfl) sl46) ?_
    refine lstepB rfl rfl rfl (run_assign (.tmp rfl)) ?_
    refine lnil ?_
    refine xw_then ?_
    refine cw_seq ?_
    refine cw_seq ?_
    refine cw_region ?_
    refine lstepB rfl rfl rfl (run_move (.tmp rfl)) ?_
    refine lstepB rfl rfl rfl (run_fieldAddr (.tmp rfl) fa25_1 (by first | exact Nat.zero_add _ | exact rfl)) ?_
    refine lstepB rfl rfl rfl (run_load1 (.tmp rfl) kd22 (by repeat (first | exact List.Mem.head _ | apply List.Mem.tail)) (by exact rfl)) ?_
    refine lstepB rfl rfl rfl (run_len (.tmp rfl) sl22) ?_
    refine lstepB rfl rfl rfl (run_eql (.tmp rfl) (.tmp rfl) (by first | exact decide_eq_true (by omega) | exact decide_eq_false (by omega) | exact rfl)) ?_
    refine lnil ?_
    refine xw_then ?_
    refine cw_cond_true (.tmp rfl) ?_
    refine cw_seq ?_
    refine cw_region ?_
    refine lstepB rfl rfl rfl (run_move (.tmp rfl)) ?_
    refine lstepB rfl rfl rfl (run_loadN (.tmp rfl) kd84 sz84 (by repeat (first | exact List.Mem.head _ | apply List.Mem.tail)) (by repeat (first | exact Sub.done | apply Sub.take | apply Sub.skip))) ?_
    refine lstep rfl rfl rfl (LR.runs (lr_buildSlice_at (.cons (.tmp rfl) .nil) (fun w => bs80_1_0 w)) (by repeat (first | exact Pick.nil | (apply Pick.cons; focus (repeat (first | exact Del.here | apply Del.there))))) (by repeat (first | exact Dels.nil | (apply Dels.cons; focus (repeat (first | exact Del.here | apply Del.there)))))) ?_
    intro b23 _
    refine lstep rfl rfl rfl (LR.runs (R := [(b23, _)]) (A := []) (lr_append_nil ap80 (.tmp rfl) (.tmp rfl) (news := [.slice (rowA lo) L.length (rowC lo), .int .i64 mv]) rfl (by omega) (by omega) (by unfold maxLen; omega) (news_own (by repeat (first | exact List.Mem.head _ | apply List.Mem.tail)))) (by repeat (first | exact Pick.nil | (apply Pick.cons; focus (repeat (first | exact Del.here | apply Del.there))))) (by repeat (first | exact Dels.nil | (apply Dels.cons; focus (repeat (first | exact Del.here | apply Del.there)))))) ?_
    intro ⟨g, c, r⟩ hr
    refine lstepB rfl rfl rfl (run_assign (.tmp rfl)) ?_
    refine lnil ?_
    refine xw_then ?_
    refine cw_ret ?_
    refine xw_then_ret ?_
    refine xw_ret1 Try.results94 rfl (fun w' hS => ⟨⟨some ⟨g, c, r⟩, [.slice (rowA lo) L.length (rowC lo), .int .i64 mv], []⟩, ⟨?_, .cons (elem_of_row hin.row (fun z hz => by simpa using hz)) .nil⟩, rfl, hS.trOf (by repeat (first | exact Pick.nil | (apply Pick.cons; focus (repeat (first | exact Del.here | apply Del.there)))))⟩)
    exact (Nat.zero_add 1).symm ▸ hr
  ·
    refine enterT (n := 75) (H := rowH (some ⟨og, oc, ocu⟩) 84) (T := blk (rowH (some ⟨og, oc, ocu⟩) 84)) Try.func94 rfl rfl rfl (by repeat (first | exact Fill.nil | apply Fill.cons)) (fun z hz => ⟨hin.outM z hz, z, hz, rfl⟩) (rowH_apart _ 84) ?_
    refine cw_seq ?_
    refine cw_region ?_
    refine lstep rfl rfl rfl (run_boxN (.tmp rfl)) ?_
    intro b4 _
    refine lstep rfl rfl rfl (run_boxN (.tmp rfl)) ?_
    intro b6 _
    refine lstepB rfl rfl rfl (run_assign .const) ?_
    refine lnil ?_
    refine xw_then ?_
    refine cw_seq ?_
    refine cw_region ?_
    refine lstepB rfl rfl rfl (run_fieldAddr (.tmp rfl) fa84_0 (by first | exact Nat.zero_add _ | exact rfl)) ?_
    refine lstepB rfl rfl rfl (run_load1 (.tmp rfl) kd46 (by repeat (first | exact List.Mem.head _ | apply List.Mem.tail)) (by exact rfl)) ?_
    refine lstepB rfl rfl rfl (run_len (.tmp rfl) sl46) ?_
    refine lstepB rfl rfl rfl (run_assign (.tmp rfl)) ?_
    refine lnil ?_
    refine xw_then ?_
    refine cw_seq ?_
    refine cw_seq ?_
    refine cw_region ?_
    refine lstepB rfl rfl rfl (run_move (.tmp rfl)) ?_
    refine lstepB rfl rfl rfl (run_fieldAddr (.tmp rfl) fa25_1 (by first | exact Nat.zero_add _ | exact rfl)) ?_
    refine lstepB rfl rfl rfl (run_load1 (.tmp rfl) kd22 (by repeat (first | exact List.Mem.head _ | apply List.Mem.tail)) (by exact rfl)) ?_
    refine lstepB rfl rfl rfl (run_len (.tmp rfl) sl22) ?_
    refine lstepB rfl rfl rfl (run_eql (.tmp rfl) (.tmp rfl) (by first | exact decide_eq_true (by omega) | exact decide_eq_false (by omega) | exact rfl)) ?_
    refine lnil ?_
    refine xw_then ?_
    refine cw_cond_true (.tmp rfl) ?_
    refine cw_seq ?_
    refine cw_region ?_
    refine lstepB rfl rfl rfl (run_move (.tmp rfl)) ?_
    refine lstepB rfl rfl rfl (run_loadN (.tmp rfl) kd84 sz84 (by repeat (first | exact List.Mem.head _ | apply List.Mem.tail)) (by repeat (first | exact Sub.done | apply Sub.take | apply Sub.skip))) ?_
    refine lstep rfl rfl rfl (LR.runs (lr_buildSlice_at (.cons (.tmp rfl) .nil) (fun w => bs80_1_0 w)) (by repeat (first | exact Pick.nil | (apply Pick.cons; focus (repeat (first | exact Del.here | apply Del.there))))) (by repeat (first | exact Dels.nil | (apply Dels.cons; focus (repeat (first | exact Del.here | apply Del.there)))))) ?_
    intro b23 _
    refine lstep rfl rfl rfl (LR.runs (R := [(b23, _)]) (A := [(og, _)]) (lr_append_row ap80 (.tmp rfl) hin.out (.tmp rfl) (news := [.slice (rowA lo) L.length (rowC lo), .int .i64 mv]) rfl rfl (by omega) (by unfold maxLen; omega) (news_own (by repeat (first | exact List.Mem.head _ | apply List.Mem.tail)))) (by repeat (first | exact Pick.nil | (apply Pick.cons; focus (repeat (first | exact Del.here | apply Del.there))))) (by repeat (first | exact Dels.nil | (apply Dels.cons; focus (repeat (first | exact Del.here | apply Del.there)))))) ?_
    intro ⟨g, c, r⟩ hr
    refine lstepB rfl rfl rfl (run_assign (.tmp rfl)) ?_
    refine lnil ?_
    refine xw_then ?_
    refine cw_ret ?_
    refine xw_then_ret ?_
    refine xw_ret1 Try.results94 rfl (fun w' hS => ⟨⟨some ⟨g, c, r⟩, [.slice (rowA lo) L.length (rowC lo), .int .i64 mv], []⟩, ⟨?_, .cons (elem_of_row hin.row (fun z hz => by simpa using hz)) .nil⟩, rfl, hS.trOf (by repeat (first | exact Pick.nil | (apply Pick.cons; focus (repeat (first | exact Del.here | apply Del.there)))))⟩)
    exact hr
set_option maxRecDepth 100000 in
set_option maxHeartbeats 4000000 in
theorem truthsN {p : PegsD} {pb po : Nat} {la : Option Addr} (hf : Fit p) (h8 : p.side ≤ 8) (pc lc set : Nat) (hset : set < 1000000) (k : Nat)
    (ih : ∀ (lo o : Option RowO) (L : List Pl) (n : Nat) (xs : List Value) (w : World) (mv : Int), TIn w p (some ⟨pb, po, none⟩) la lo o L n xs → L.length + k = p.ps.length → (∀ s ∈ L, inField p.side s) → n + (truthsS p set k L mv).length ≤ 1000000 →
      Calls Try.prog 94 [.agg [.int .i64 p.side, .slice (some ⟨pb, po, none⟩) p.ps.length pc, .slice la p.ls.length lc].toArray, .int .i64 (set : Int), .agg [.slice (rowA lo) L.length (rowC lo), .int .i64 mv].toArray, .slice (rowA o) n (rowC o)].toArray w (TEnds w lo o n xs (truthsS p set k L mv)))
    (lo o : Option RowO) (L : List Pl) (n : Nat) (xs : List Value) (w : World) (mv : Int) (hin : TIn w p (some ⟨pb, po, none⟩) la lo o L n xs) (hL : L.length + (k + 1) = p.ps.length) (hLf : ∀ s ∈ L, inField p.side s) (hn : n + (truthsS p set (k + 1) L mv).length ≤ 1000000) :
    Calls Try.prog 94 [.agg [.int .i64 p.side, .slice (some ⟨pb, po, none⟩) p.ps.length pc, .slice la p.ls.length lc].toArray, .int .i64 (set : Int), .agg [.slice (rowA lo) L.length (rowC lo), .int .i64 mv].toArray, .slice (rowA o) n (rowC o)].toArray w (TEnds w lo o n xs (truthsS p set (k + 1) L mv)) := by
  obtain ⟨N, hN⟩ : ∃ N : Nat, (N : Int) = p.side + 1 := ⟨(p.side + 1).toNat, by have := hf.s0; omega⟩
  have hN' : N = (p.side + 1).toNat := by omega
  have hs0 := hf.s0
  obtain ⟨q, hq⟩ : ∃ q, p.ps[L.length]? = some q := ⟨_, List.getElem?_eq_getElem (by omega)⟩
  have hqn := postN_of hq
  have h4 := hf.n4
  have h6 := hf.l6
  have hls : ∀ l ∈ p.ls, 0 ≤ l.a ∧ 0 ≤ l.b ∧ (0 ≤ l.lo ∧ l.lo ≤ 30) ∧ 0 ≤ l.hi ∧ l.hi ≤ 30 := fun l hl => by
    obtain ⟨⟨a1, a2, b1, b2, c1, c2, c3⟩, _⟩ := hf.lens l hl
    exact ⟨a1, b1, ⟨c1, by omega⟩, by omega, c3⟩
  refine enterT (n := 75) (H := rowH o 84) (T := blk (rowH o 84)) Try.func94 rfl rfl rfl (by repeat (first | exact Fill.nil | apply Fill.cons)) (fun z hz => ⟨hin.outM z hz, z, hz, rfl⟩) (rowH_apart o 84) ?_
  refine cw_seq ?_
  refine cw_region ?_
  refine lstep rfl rfl rfl (run_boxN (.tmp rfl)) ?_
  intro b4 _
  refine lstep rfl rfl rfl (run_boxN (.tmp rfl)) ?_
  intro b6 _
  refine lstepB rfl rfl rfl (run_assign .const) ?_
  refine lnil ?_
  refine xw_then ?_
  refine cw_seq ?_
  refine cw_region ?_
  refine lstepB rfl rfl rfl (run_fieldAddr (.tmp rfl) fa84_0 (by first | exact Nat.zero_add _ | exact rfl)) ?_
  refine lstepB rfl rfl rfl (run_load1 (.tmp rfl) kd46 (by repeat (first | exact List.Mem.head _ | apply List.Mem.tail)) (by exact rfl)) ?_
  refine lstepB rfl rfl rfl (run_len (.tmp rfl) sl46) ?_
  refine lstepB rfl rfl rfl (run_assign (.tmp rfl)) ?_
  refine lnil ?_
  refine xw_then ?_
  refine cw_seq ?_
  refine cw_seq ?_
  refine cw_region ?_
  refine lstepB rfl rfl rfl (run_move (.tmp rfl)) ?_
  refine lstepB rfl rfl rfl (run_fieldAddr (.tmp rfl) fa25_1 (by first | exact Nat.zero_add _ | exact rfl)) ?_
  refine lstepB rfl rfl rfl (run_load1 (.tmp rfl) kd22 (by repeat (first | exact List.Mem.head _ | apply List.Mem.tail)) (by exact rfl)) ?_
  refine lstepB rfl rfl rfl (run_len (.tmp rfl) sl22) ?_
  refine lstepB rfl rfl rfl (run_eql (.tmp rfl) (.tmp rfl) (by first | exact decide_eq_true (by omega) | exact decide_eq_false (by omega) | exact rfl)) ?_
  refine lnil ?_
  refine xw_then ?_
  refine cw_cond_false (.tmp rfl) ?_
  refine cw_skip ?_
  refine xw_then ?_
  refine cw_seq ?_
  refine cw_seq ?_
  refine cw_region ?_
  refine lstepB rfl rfl rfl (run_assign .const) ?_
  refine lnil ?_
  refine xw_then ?_
  refine cw_block ?_
  refine cw_loop (S := TS) (fun z => [(3, .slice (rowA z.r.o) (n + z.j) (rowC z.r.o)), (10, .int .i64 (z.x : Int))]) [(0, _), (1, _), (4, _), (6, _), (8, _), (9, _)] (fun z => (b6, Obj.cells [.slice (rowA lo) L.length (rowC lo), .int .i64 mv].toArray 84 (0, 0)) :: (b4, Obj.cells [.int .i64 p.side, .slice (some ⟨pb, po, none⟩) p.ps.length pc, .slice la p.ls.length lc].toArray 25 (0, 0)) :: (rowH z.r.o 84 ++ z.r.R)) (fun z => TOk lo n xs (doneS p set k L mv N z.x 0) z ∧ z.x ≤ N) (fun z => N - z.x) ⟨0, 0, ⟨o, [], []⟩⟩ ⟨⟨rfl, by simpa using hin.out, .nil⟩, Nat.zero_le _⟩ (by repeat (first | exact Less.nil | refine Less.cons rfl ?_)) (by first | (exact Pick.of [] (by simp only [List.append_nil]; exact List.Perm.refl _)) | (repeat (first | exact Pick.nil | (apply Pick.cons; focus (repeat (first | exact Del.here | apply Del.there)))))) ?_
  intro z hz
  obtain ⟨x, j, r⟩ := z
  obtain ⟨hk, hx⟩ := hz
  simp only at hx
  try dsimp only
  refine cw_seq ?_
  refine cw_seq ?_
  refine cw_region ?_
  refine lstepB rfl rfl rfl (run_move (.tmp rfl)) ?_
  refine lstepB rfl rfl rfl (run_fieldAddr (.tmp rfl) fa25_0 (by first | exact Nat.zero_add _ | exact rfl)) ?_
  refine lstepB rfl rfl rfl (run_load1 (.tmp rfl) kd3 (by repeat (first | exact List.Mem.head _ | apply List.Mem.tail)) (by exact rfl)) ?_
  refine lstepB rfl rfl rfl (run_leq (.tmp rfl) (.tmp rfl) (by first | exact decide_eq_true (by omega) | exact decide_eq_false (by omega) | exact rfl)) ?_
  refine lnil ?_
  refine xw_then ?_
  refine cw_cond_p (.tmp rfl) (fun hle => ?_) (fun hgt => ?_)
  ·
    have hle' : (x : Int) ≤ p.side := hle
    have hxN : x < N := by omega
    refine cw_skip ?_
    refine xw_then ?_
    refine cw_seq ?_
    refine cw_block ?_
    refine cw_seq ?_
    refine cw_region ?_
    refine lstepB rfl rfl rfl (run_assign .const) ?_
    refine lnil ?_
    refine xw_then ?_
    refine cw_block ?_
    refine cw_loop (S := TS) (fun z => [(3, .slice (rowA z.r.o) (n + z.j) (rowC z.r.o)), (11, .int .i64 (z.x : Int))]) [(0, _), (1, _), (4, _), (6, _), (8, _), (9, _), (10, _)] (fun z => (b6, Obj.cells [.slice (rowA lo) L.length (rowC lo), .int .i64 mv].toArray 84 (0, 0)) :: (b4, Obj.cells [.int .i64 p.side, .slice (some ⟨pb, po, none⟩) p.ps.length pc, .slice la p.ls.length lc].toArray 25 (0, 0)) :: (rowH z.r.o 84 ++ z.r.R)) (fun z => TOk lo n xs (doneS p set k L mv N x z.x) z ∧ z.x ≤ N) (fun z => N - z.x) ⟨0, j, r⟩ ⟨hk, Nat.zero_le _⟩ (by repeat (first | exact Less.nil | refine Less.cons rfl ?_)) (by first | (exact Pick.of [] (by simp only [List.append_nil]; exact List.Perm.refl _)) | (repeat (first | exact Pick.nil | (apply Pick.cons; focus (repeat (first | exact Del.here | apply Del.there)))))) ?_
    intro z hz
    clear hk
    obtain ⟨y, j, r⟩ := z
    obtain ⟨hk, hy⟩ := hz
    simp only at hy hk
    try dsimp only
    refine cw_seq ?_
    refine cw_seq ?_
    refine cw_region ?_
    refine lstepB rfl rfl rfl (run_move (.tmp rfl)) ?_
    refine lstepB rfl rfl rfl (run_fieldAddr (.tmp rfl) fa25_0 (by first | exact Nat.zero_add _ | exact rfl)) ?_
    refine lstepB rfl rfl rfl (run_load1 (.tmp rfl) kd3 (by repeat (first | exact List.Mem.head _ | apply List.Mem.tail)) (by exact rfl)) ?_
    refine lstepB rfl rfl rfl (run_leq (.tmp rfl) (.tmp rfl) (by first | exact decide_eq_true (by omega) | exact decide_eq_false (by omega) | exact rfl)) ?_
    refine lnil ?_
    refine xw_then ?_
    refine cw_cond_p (.tmp rfl) (fun hle2 => ?_) (fun hgt2 => ?_)
    ·
      have hle' : (y : Int) ≤ p.side := hle2
      have hyN : y < N := by omega
      refine cw_aside (H := [(b6, Obj.cells [.slice (rowA lo) L.length (rowC lo), .int .i64 mv].toArray 84 (0, 0)), (b4, Obj.cells [.int .i64 p.side, .slice (some ⟨pb, po, none⟩) p.ps.length pc, .slice la p.ls.length lc].toArray 25 (0, 0))]) (rowH r.o 84 ++ r.R) (fun w1 hS1 => ?_)
      have hold : ∀ (H' : Heap) (w' : World), St w1 (blk [(b6, Obj.cells [.slice (rowA lo) L.length (rowC lo), .int .i64 mv].toArray 84 (0, 0)), (b4, Obj.cells [.int .i64 p.side, .slice (some ⟨pb, po, none⟩) p.ps.length pc, .slice la p.ls.length lc].toArray 25 (0, 0))]) H' w' → PegsIn w' p (some ⟨pb, po, none⟩) la ∧ ∀ z, z ∈ rowH lo 52 → w'.heap[z.1]? = some z.2 := fun H' w' hS => hin.keep w' ((hS1.join hS).pick .nil)
      have hsf : inField p.side (Pl.mk (x : Int) (y : Int)) := ⟨by simp only; omega, by simp only; omega, by simp only; omega, by simp only; omega⟩
      have hLf2 : ∀ s ∈ (L ++ [(Pl.mk (x : Int) (y : Int))]), inField p.side s := fun s hs => by
        rcases List.mem_append.1 hs with hs | hs
        · exact hLf s hs
        · rw [List.mem_singleton] at hs; rw [hs]; exact hsf
      have hLs : ∀ s ∈ (L ++ [(Pl.mk (x : Int) (y : Int))]), 0 ≤ s.x ∧ s.x ≤ 15 ∧ 0 ≤ s.y ∧ s.y ≤ 15 := fun s hs => by
        obtain ⟨a1, a2, a3, a4⟩ := hLf2 s hs
        exact ⟨a1, by omega, a3, by omega⟩
      refine cw_skip ?_
      refine xw_then ?_
      refine cw_seq ?_
      refine cw_block ?_
      refine cw_seq ?_
      refine cw_chain2 (σ := [1, 2, 4, 5, 6, 9, 10, 0, 3, 7, 8, 11, 12, 13]) [⟨2, [], [], [2], 0⟩, ⟨0, [], [], [], 0⟩, ⟨0, [0], [], [], 2⟩, ⟨1, [], [2], [2], 7⟩, ⟨0, [], [], [], 0⟩, ⟨0, [], [], [], 0⟩, ⟨0, [], [], [], 48⟩, ⟨2, [], [], [3], 112⟩, ⟨1, [3], [2], [2], 255⟩, ⟨0, [], [], [], 0⟩, ⟨0, [0], [], [], 512⟩, ⟨0, [], [], [], 2047⟩, ⟨2, [], [], [4], 0⟩, ⟨0, [], [4], [4], 8191⟩] [(0, _), (1, _)] (by kernel_rfl) (by kernel_rfl) rfl ?_
      refine .det (B := []) rfl rfl (.inl rfl) .nil .nil rfl (RunB.lr (run_fieldAddr (.tmp rfl) fa84_0 (by first | exact Nat.zero_add _ | exact rfl))) ?_
      refine .det (B := []) rfl rfl (.inl rfl) (.cons rfl .nil) .nil rfl (RunB.lr (run_load1 (.tmp rfl) kd46 (by repeat (first | exact List.Mem.head _ | apply List.Mem.tail)) (by exact rfl))) ?_
      refine .det (B := []) rfl rfl (.inl rfl) .nil .nil rfl (RunB.lr (run_move (.tmp rfl))) ?_
      refine .det (B := []) rfl rfl (.inl rfl) .nil .nil rfl (RunB.lr (run_move (.tmp rfl))) ?_
      refine .det (B := []) rfl rfl (.inl rfl) .nil .nil rfl (RunB.lr (run_build_at (.cons (.tmp rfl) (.cons (.tmp rfl) .nil)) (fun w => bd52_0_1 w))) ?_
      refine .det (B := []) rfl rfl (.inl rfl) .nil .nil rfl (RunB.lr (run_fieldAddr (.tmp rfl) fa84_1 (by first | exact Nat.zero_add _ | exact rfl))) ?_
      refine .det (B := []) rfl rfl (.inl rfl) (.cons rfl .nil) .nil rfl (RunB.lr (run_load1 (.tmp rfl) kd3 (by repeat (first | exact List.Mem.head _ | apply List.Mem.tail)) (by exact rfl))) ?_
      refine .flo rfl rfl rfl (.none rfl (fun w => bs46_0_ w)) trivial rfl rfl rfl ?_
      intro b37
      refine .ext (B := fun q => [(2, (q.1, Obj.cells q.2.2.toArray 52 (0, 0)))]) rfl rfl (.inl rfl) .nil (.cons rfl .nil) (fun _ => rfl) (inRow_ne (m := L.length) (qlCells_length L) (by unfold maxLen; omega)) (lr_append_inE ap46 (.tmp rfl) (inRow_none 2) (.tmp rfl) (news := qlCells L) (k2 := L.length) (ys := qlCells L) (qlCells_length _) (by decide) (qlCells_plain _) (by omega) (by unfold maxLen; omega) (Nat.zero_add _) rfl (fun w' hS => (pls_of_rowO rfl (fun z hz => (hold _ w' hS).2 z hz) hin.row).cellsIn)) ?_
      rintro ⟨gA, cA, rA⟩ hA
      refine .flo rfl rfl rfl (.lit rfl (.cons (.tmp rfl) .nil) (fun w => bs46_1_0 w)) trivial rfl rfl rfl ?_
      intro b44
      refine .ext (B := fun q => [(2, (q.1, Obj.cells q.2.2.toArray 52 (0, 0)))]) rfl rfl (.inl rfl) (.cons rfl .nil) (.cons rfl .nil) (fun _ => rfl) (inRow_ne (m := (L ++ [(Pl.mk (x : Int) (y : Int))]).length) (qlCells_length (L ++ [(Pl.mk (x : Int) (y : Int))])) (by simp only [List.length_append, List.length_singleton]; unfold maxLen; omega)) (lr_append_rowE ap46 (.tmp rfl) hA (.tmp rfl) (news := [.int .i64 (x : Int), .int .i64 (y : Int)]) (k2 := (L ++ [(Pl.mk (x : Int) (y : Int))]).length) (ys := qlCells (L ++ [(Pl.mk (x : Int) (y : Int))])) rfl rfl (by omega) (by unfold maxLen; omega) (by simp only [List.length_append, List.length_singleton]) (qls_ne L (Pl.mk (x : Int) (y : Int))) (news_own (by repeat (first | exact List.Mem.head _ | apply List.Mem.tail)))) ?_
      rintro ⟨gB, cB, rB⟩ hB
      refine .det (B := []) rfl rfl (.inl rfl) .nil .nil rfl (RunB.lr (run_build_at (.cons (.tmp rfl) (.cons (.tmp rfl) .nil)) (fun w => bd84_0_1 w))) ?_
      refine .flo rfl rfl rfl (.alloc rfl zr84) trivial rfl rfl rfl ?_
      intro b12
      refine .det (B := [(4, (_, _))]) rfl rfl (.inl rfl) .nil (.cons rfl .nil) rfl (lr_storeN (.tmp rfl) (.tmp rfl) rfl sz84 rfl (by repeat (first | exact Put.done | apply Put.put | apply Put.skip))) ?_
      refine chain_nil (ts := [4, 3, 2, 0, 1]) (.cons rfl (.cons rfl (.cons rfl (.cons rfl (.cons rfl .nil))))) (by decide) ?_
      by_cases ha : atPost q (Pl.mk (x : Int) (y : Int))
      ·
        have hab := atPostB_iff.2 ha
        have hm1 : nextM (postN p L.length) (Pl.mk (x : Int) (y : Int)) L.length mv = some mv := by rw [hqn, nextM, if_pos ha]
        refine xw_then ?_
        refine cw_seq ?_
        refine cw_seq ?_
        refine cw_region ?_
        refine lstepB rfl rfl rfl (run_move (.tmp rfl)) ?_
        refine lstepB rfl rfl rfl (run_move (.tmp rfl)) ?_
        refine lstepB rfl rfl rfl (run_build_at (.cons (.tmp rfl) (.cons (.tmp rfl) .nil)) (fun w => bd52_0_1 w)) ?_
        refine lstepB rfl rfl rfl (run_fieldAddr (.tmp rfl) fa25_1 (by first | exact Nat.zero_add _ | exact rfl)) ?_
        refine lstepB rfl rfl rfl (run_load1 (.tmp rfl) kd22 (by repeat (first | exact List.Mem.head _ | apply List.Mem.tail)) (by exact rfl)) ?_
        refine lstepB rfl rfl rfl (run_move (.tmp rfl)) ?_
        refine lstepB rfl rfl rfl (run_indexAddr (.tmp rfl) (.tmp rfl) el22 (by omega) rfl) ?_
        refine lstepB rfl rfl rfl (run_loadN_at (l := [.int .i64 q.xlo, .int .i64 q.xhi, .int .i64 q.ylo, .int .i64 q.yhi]) (.tmp rfl) kd56 sz56 rfl (fun w' hS j v hj => posts_cell (hold _ w' hS).1.1 hq j v hj)) ?_
        refine lstepB rfl rfl rfl (run_call1 cb70 (.cons (.tmp rfl) (.cons (.tmp rfl) .nil)) (fun w _ => (at_any (Pl.mk (x : Int) (y : Int)) q w).as (congrArg Value.bool hab))) ?_
        refine lstepB rfl rfl rfl (run_not (.tmp rfl) (by first | exact Bool.not_true | exact Bool.not_false | exact rfl)) ?_
        refine lnil ?_
        refine xw_then ?_
        refine cw_cond_false (.tmp rfl) ?_
        cases hr : rightS set p.ls (L ++ [(Pl.mk (x : Int) (y : Int))]) with
        | false =>
          refine cw_skip ?_
          refine xw_then ?_
          refine cw_seq ?_
          refine cw_region ?_
          refine lstepB rfl rfl rfl (run_loadN (.tmp rfl) kd25 sz25 (by repeat (first | exact List.Mem.head _ | apply List.Mem.tail)) (by repeat (first | exact Sub.done | apply Sub.take | apply Sub.skip))) ?_
          refine lstepB rfl rfl rfl (run_move (.tmp rfl)) ?_
          refine lstepB rfl rfl rfl (run_fieldAddr (.tmp rfl) fa84_0 (by first | exact Nat.zero_add _ | exact rfl)) ?_
          refine lstepB rfl rfl rfl (run_load1 (.tmp rfl) kd46 (by repeat (first | exact List.Mem.head _ | apply List.Mem.tail)) (by exact rfl)) ?_
          refine lstepB rfl rfl rfl (run_call1 cb102 (.cons (.tmp rfl) (.cons (.tmp rfl) (.cons (.tmp rfl) .nil))) (fun w' hS => (rightK p.side p.ps.length pc lc cB set _ la (some ⟨gB, 0, none⟩) p.ls (L ++ [(Pl.mk (x : Int) (y : Int))]) w' hset h6 hls hLs (hold _ w' hS).1.2 (pls_of_row (hS.mem (by repeat (first | exact List.Mem.head _ | apply List.Mem.tail))) hB)).as (congrArg Value.bool hr))) ?_
          refine lnil ?_
          refine xw_then ?_
          refine cw_cond_false (.tmp rfl) ?_
          refine cw_skip ?_
          refine xw_in ?_
          refine xw_then ?_
          refine cw_region ?_
          refine lstepB rfl rfl rfl (run_move (.tmp rfl)) ?_
          refine lstepB rfl rfl rfl (run_add (.tmp rfl) .const (by first | exact IntWalk.i64_in _ (by omega) | exact rfl)) ?_
          refine lstepB rfl rfl rfl (run_assign (.tmp rfl)) ?_
          refine lnil ?_
          refine xw_pick (H' := [(b6, Obj.cells [.slice (rowA lo) L.length (rowC lo), .int .i64 mv].toArray 84 (0, 0)), (b4, Obj.cells [.int .i64 p.side, .slice (some ⟨pb, po, none⟩) p.ps.length pc, .slice la p.ls.length lc].toArray 25 (0, 0))]) (by repeat (first | exact Pick.nil | (apply Pick.cons; focus (repeat (first | exact Del.here | apply Del.there))))) ?_
          refine xw_back (F := rowH r.o 84 ++ r.R) hS1 ?_
          exact xw_round ⟨y + 1, j, r⟩ ⟨by rw [doneS_y]; exact hk.same (stepS_bad hm1 hr) _, by simp only; omega⟩ (by simp only; omega) (by repeat (first | exact Less.nil | refine Less.cons rfl ?_)) (by first | (exact Pick.of [] (by simp only [List.append_nil]; exact List.Perm.refl _)) | (repeat (first | exact Pick.nil | (apply Pick.cons; focus (repeat (first | exact Del.here | apply Del.there))))))
        | true =>
          refine cw_skip ?_
          refine xw_then ?_
          refine cw_seq ?_
          refine cw_region ?_
          refine lstepB rfl rfl rfl (run_loadN (.tmp rfl) kd25 sz25 (by repeat (first | exact List.Mem.head _ | apply List.Mem.tail)) (by repeat (first | exact Sub.done | apply Sub.take | apply Sub.skip))) ?_
          refine lstepB rfl rfl rfl (run_move (.tmp rfl)) ?_
          refine lstepB rfl rfl rfl (run_fieldAddr (.tmp rfl) fa84_0 (by first | exact Nat.zero_add _ | exact rfl)) ?_
          refine lstepB rfl rfl rfl (run_load1 (.tmp rfl) kd46 (by repeat (first | exact List.Mem.head _ | apply List.Mem.tail)) (by exact rfl)) ?_
          refine lstepB rfl rfl rfl (run_call1 cb102 (.cons (.tmp rfl) (.cons (.tmp rfl) (.cons (.tmp rfl) .nil))) (fun w' hS => (rightK p.side p.ps.length pc lc cB set _ la (some ⟨gB, 0, none⟩) p.ls (L ++ [(Pl.mk (x : Int) (y : Int))]) w' hset h6 hls hLs (hold _ w' hS).1.2 (pls_of_row (hS.mem (by repeat (first | exact List.Mem.head _ | apply List.Mem.tail))) hB)).as (congrArg Value.bool hr))) ?_
          refine lnil ?_
          refine xw_then ?_
          refine cw_cond_true (.tmp rfl) ?_
          have hbd := done_le p set k L mv N x y hxN hyN hs0 hN'
          rw [stepS_good hm1 hr] at hbd
          refine cw_pick (H' := [(b12, Obj.cells [.slice (some ⟨gB, 0, none⟩) (L ++ [(Pl.mk (x : Int) (y : Int))]).length cB, .int .i64 mv].toArray 84 (0, 0)), (gB, Obj.cells rB.toArray 52 (0, 0)), (b6, Obj.cells [.slice (rowA lo) L.length (rowC lo), .int .i64 mv].toArray 84 (0, 0)), (b4, Obj.cells [.int .i64 p.side, .slice (some ⟨pb, po, none⟩) p.ps.length pc, .slice la p.ls.length lc].toArray 25 (0, 0))]) (by repeat (first | exact Pick.nil | (apply Pick.cons; focus (repeat (first | exact Del.here | apply Del.there))))) ?_
          refine cw_back (F := rowH r.o 84 ++ r.R) hS1 ?_
          show CW _ _ _ _ _ _ _ ((b12, Obj.cells [.slice (some ⟨gB, 0, none⟩) (L ++ [(Pl.mk (x : Int) (y : Int))]).length cB, .int .i64 mv].toArray 84 (0, 0)) :: (gB, Obj.cells rB.toArray 52 (0, 0)) :: (b6, Obj.cells [.slice (rowA lo) L.length (rowC lo), .int .i64 mv].toArray 84 (0, 0)) :: (b4, Obj.cells [.int .i64 p.side, .slice (some ⟨pb, po, none⟩) p.ps.length pc, .slice la p.ls.length lc].toArray 25 (0, 0)) :: (rowH r.o 84 ++ r.R))
          refine cw_region ?_
          refine lstepB rfl rfl rfl (run_loadN (.tmp rfl) kd25 sz25 (by repeat (first | exact List.Mem.head _ | apply List.Mem.tail)) (by repeat (first | exact Sub.done | apply Sub.take | apply Sub.skip))) ?_
          refine lstepB rfl rfl rfl (run_move (.tmp rfl)) ?_
          refine lstepB rfl rfl rfl (run_loadN (.tmp rfl) kd84 sz84 (by repeat (first | exact List.Mem.head _ | apply List.Mem.tail)) (by repeat (first | exact Sub.done | apply Sub.take | apply Sub.skip))) ?_
          refine lstepB rfl rfl rfl (run_move (.tmp rfl)) ?_
          refine lstep rfl rfl rfl (LR.runsP (R := rowH r.o 84 ++ [(gB, Obj.cells rB.toArray 52 (0, 0))]) (A := rowH r.o 84) (H2 := (b12, Obj.cells [.slice (some ⟨gB, 0, none⟩) (L ++ [(Pl.mk (x : Int) (y : Int))]).length cB, .int .i64 mv].toArray 84 (0, 0)) :: (gB, Obj.cells rB.toArray 52 (0, 0)) :: (b6, Obj.cells [.slice (rowA lo) L.length (rowC lo), .int .i64 mv].toArray 84 (0, 0)) :: (b4, Obj.cells [.int .i64 p.side, .slice (some ⟨pb, po, none⟩) p.ps.length pc, .slice la p.ls.length lc].toArray 25 (0, 0)) :: r.R) (lr_call (X := TR) (F := fun s => rowIs s.o 2 (n + j + (truthsS p set k (L ++ [(Pl.mk (x : Int) (y : Int))]) mv).length) ((xs ++ r.xs) ++ s.xs) ∧ Elems (rowH (some ⟨gB, cB, rB⟩) 52 ++ s.R) s.xs (truthsS p set k (L ++ [(Pl.mk (x : Int) (y : Int))]) mv)) (r := fun s => .slice (rowA s.o) (n + (j + (truthsS p set k (L ++ [(Pl.mk (x : Int) (y : Int))]) mv).length)) (rowC s.o)) (B := fun s => rowH s.o 84 ++ s.R) cb94 (.cons (.tmp rfl) (.cons (.tmp rfl) (.cons (.tmp rfl) (.cons (.tmp rfl) .nil)))) (fun w' hR hA => (ih (some ⟨gB, cB, rB⟩) r.o (L ++ [(Pl.mk (x : Int) (y : Int))]) (n + j) (xs ++ r.xs) w' mv (hin.next hR hB hk.2.1) (by simp only [List.length_append, List.length_singleton]; omega) hLf2 (by have := hk.1; simp only at this; omega)).mono fun e w2 ⟨s, h1, h2, h3⟩ => ⟨s, h1, h2.trans (by rw [Nat.add_assoc]), h3⟩)) (Pick.of _ (perm_b _ _ _ _ _ _)) (perm_a _ _ _ _ _ _)) ?_
          intro s hs
          refine lstepB rfl rfl rfl (run_assign (.tmp rfl)) ?_
          refine lnil ?_
          refine xw_in ?_
          refine xw_then ?_
          refine cw_region ?_
          refine lstepB rfl rfl rfl (run_move (.tmp rfl)) ?_
          refine lstepB rfl rfl rfl (run_add (.tmp rfl) .const (by first | exact IntWalk.i64_in _ (by omega) | exact rfl)) ?_
          refine lstepB rfl rfl rfl (run_assign (.tmp rfl)) ?_
          refine lnil ?_
          exact xw_round ⟨y + 1, j + (truthsS p set k (L ++ [(Pl.mk (x : Int) (y : Int))]) mv).length, ⟨s.o, r.xs ++ s.xs, s.R ++ (gB, Obj.cells rB.toArray 52 (0, 0)) :: r.R⟩⟩ ⟨by rw [doneS_y, stepS_good hm1 hr]; exact hk.add rfl hs.1 hs.2 _, by simp only; omega⟩ (by simp only; omega) (by repeat (first | exact Less.nil | refine Less.cons rfl ?_)) (Pick.of [(b12, Obj.cells [.slice (some ⟨gB, 0, none⟩) (L ++ [(Pl.mk (x : Int) (y : Int))]).length cB, .int .i64 mv].toArray 84 (0, 0))] (perm_call _ _ _ _ _ _ _))
      ·
        have hab : atPostB q (Pl.mk (x : Int) (y : Int)) = false := Bool.eq_false_iff.2 fun h => ha (atPostB_iff.1 h)
        refine xw_then ?_
        refine cw_seq ?_
        refine cw_seq ?_
        refine cw_region ?_
        refine lstepB rfl rfl rfl (run_move (.tmp rfl)) ?_
        refine lstepB rfl rfl rfl (run_move (.tmp rfl)) ?_
        refine lstepB rfl rfl rfl (run_build_at (.cons (.tmp rfl) (.cons (.tmp rfl) .nil)) (fun w => bd52_0_1 w)) ?_
        refine lstepB rfl rfl rfl (run_fieldAddr (.tmp rfl) fa25_1 (by first | exact Nat.zero_add _ | exact rfl)) ?_
        refine lstepB rfl rfl rfl (run_load1 (.tmp rfl) kd22 (by repeat (first | exact List.Mem.head _ | apply List.Mem.tail)) (by exact rfl)) ?_
        refine lstepB rfl rfl rfl (run_move (.tmp rfl)) ?_
        refine lstepB rfl rfl rfl (run_indexAddr (.tmp rfl) (.tmp rfl) el22 (by omega) rfl) ?_
        refine lstepB rfl rfl rfl (run_loadN_at (l := [.int .i64 q.xlo, .int .i64 q.xhi, .int .i64 q.ylo, .int .i64 q.yhi]) (.tmp rfl) kd56 sz56 rfl (fun w' hS j v hj => posts_cell (hold _ w' hS).1.1 hq j v hj)) ?_
        refine lstepB rfl rfl rfl (run_call1 cb70 (.cons (.tmp rfl) (.cons (.tmp rfl) .nil)) (fun w _ => (at_any (Pl.mk (x : Int) (y : Int)) q w).as (congrArg Value.bool hab))) ?_
        refine lstepB rfl rfl rfl (run_not (.tmp rfl) (by first | exact Bool.not_true | exact Bool.not_false | exact rfl)) ?_
        refine lnil ?_
        refine xw_then ?_
        refine cw_cond_true (.tmp rfl) ?_
        by_cases hm : mv = -1
        ·
          have hm1 : nextM (postN p L.length) (Pl.mk (x : Int) (y : Int)) L.length mv = some (L.length : Int) := by rw [hqn, nextM, if_neg ha, if_pos hm]
          refine cw_seq ?_
          refine cw_seq ?_
          refine cw_region ?_
          refine lstepB rfl rfl rfl (run_fieldAddr (.tmp rfl) fa84_1 (by first | exact Nat.zero_add _ | exact rfl)) ?_
          refine lstepB rfl rfl rfl (run_load1 (.tmp rfl) kd3 (by repeat (first | exact List.Mem.head _ | apply List.Mem.tail)) (by exact rfl)) ?_
          refine lstepB rfl rfl rfl (run_neq (.tmp rfl) .const (by first | exact decide_eq_true (by omega) | exact decide_eq_false (by omega) | exact rfl)) ?_
          refine lnil ?_
          refine xw_then ?_
          refine cw_cond_false (.tmp rfl) ?_
          cases hr : rightS set p.ls (L ++ [(Pl.mk (x : Int) (y : Int))]) with
          | false =>
            refine cw_skip ?_
            refine xw_then ?_
            refine cw_region ?_
            refine lstepB rfl rfl rfl (run_move (.tmp rfl)) ?_
            refine lstepB rfl rfl rfl (run_fieldAddr (.tmp rfl) fa84_1 (by first | exact Nat.zero_add _ | exact rfl)) ?_
            refine lstep0 rfl rfl (run_store1 (.tmp rfl) (.tmp rfl) rfl sz3 (by repeat (first | exact Upd.here | apply Upd.there)) (by repeat (first | exact Put.done | apply Put.put | apply Put.skip))) ?_
            refine lnil ?_
            refine xw_then ?_
            refine cw_seq ?_
            refine cw_region ?_
            refine lstepB rfl rfl rfl (run_loadN (.tmp rfl) kd25 sz25 (by repeat (first | exact List.Mem.head _ | apply List.Mem.tail)) (by repeat (first | exact Sub.done | apply Sub.take | apply Sub.skip))) ?_
            refine lstepB rfl rfl rfl (run_move (.tmp rfl)) ?_
            refine lstepB rfl rfl rfl (run_fieldAddr (.tmp rfl) fa84_0 (by first | exact Nat.zero_add _ | exact rfl)) ?_
            refine lstepB rfl rfl rfl (run_load1 (.tmp rfl) kd46 (by repeat (first | exact List.Mem.head _ | apply List.Mem.tail)) (by exact rfl)) ?_
            refine lstepB rfl rfl rfl (run_call1 cb102 (.cons (.tmp rfl) (.cons (.tmp rfl) (.cons (.tmp rfl) .nil))) (fun w' hS => (rightK p.side p.ps.length pc lc cB set _ la (some ⟨gB, 0, none⟩) p.ls (L ++ [(Pl.mk (x : Int) (y : Int))]) w' hset h6 hls hLs (hold _ w' hS).1.2 (pls_of_row (hS.mem (by repeat (first | exact List.Mem.head _ | apply List.Mem.tail))) hB)).as (congrArg Value.bool hr))) ?_
            refine lnil ?_
            refine xw_then ?_
            refine cw_cond_false (.tmp rfl) ?_
            refine cw_skip ?_
            refine xw_in ?_
            refine xw_then ?_
            refine cw_region ?_
            refine lstepB rfl rfl rfl (run_move (.tmp rfl)) ?_
            refine lstepB rfl rfl rfl (run_add (.tmp rfl) .const (by first | exact IntWalk.i64_in _ (by omega) | exact rfl)) ?_
            refine lstepB rfl rfl rfl (run_assign (.tmp rfl)) ?_
            refine lnil ?_
            refine xw_pick (H' := [(b6, Obj.cells [.slice (rowA lo) L.length (rowC lo), .int .i64 mv].toArray 84 (0, 0)), (b4, Obj.cells [.int .i64 p.side, .slice (some ⟨pb, po, none⟩) p.ps.length pc, .slice la p.ls.length lc].toArray 25 (0, 0))]) (by repeat (first | exact Pick.nil | (apply Pick.cons; focus (repeat (first | exact Del.here | apply Del.there))))) ?_
            refine xw_back (F := rowH r.o 84 ++ r.R) hS1 ?_
            exact xw_round ⟨y + 1, j, r⟩ ⟨by rw [doneS_y]; exact hk.same (stepS_bad hm1 hr) _, by simp only; omega⟩ (by simp only; omega) (by repeat (first | exact Less.nil | refine Less.cons rfl ?_)) (by first | (exact Pick.of [] (by simp only [List.append_nil]; exact List.Perm.refl _)) | (repeat (first | exact Pick.nil | (apply Pick.cons; focus (repeat (first | exact Del.here | apply Del.there))))))
          | true =>
            refine cw_skip ?_
            refine xw_then ?_
            refine cw_region ?_
            refine lstepB rfl rfl rfl (run_move (.tmp rfl)) ?_
            refine lstepB rfl rfl rfl (run_fieldAddr (.tmp rfl) fa84_1 (by first | exact Nat.zero_add _ | exact rfl)) ?_
            refine lstep0 rfl rfl (run_store1 (.tmp rfl) (.tmp rfl) rfl sz3 (by repeat (first | exact Upd.here | apply Upd.there)) (by repeat (first | exact Put.done | apply Put.put | apply Put.skip))) ?_
            refine lnil ?_
            refine xw_then ?_
            refine cw_seq ?_
            refine cw_region ?_
            refine lstepB rfl rfl rfl (run_loadN (.tmp rfl) kd25 sz25 (by repeat (first | exact List.Mem.head _ | apply List.Mem.tail)) (by repeat (first | exact Sub.done | apply Sub.take | apply Sub.skip))) ?_
            refine lstepB rfl rfl rfl (run_move (.tmp rfl)) ?_
            refine lstepB rfl rfl rfl (run_fieldAddr (.tmp rfl) fa84_0 (by first | exact Nat.zero_add _ | exact rfl)) ?_
            refine lstepB rfl rfl rfl (run_load1 (.tmp rfl) kd46 (by repeat (first | exact List.Mem.head _ | apply List.Mem.tail)) (by exact rfl)) ?_
            refine lstepB rfl rfl rfl (run_call1 cb102 (.cons (.tmp rfl) (.cons (.tmp rfl) (.cons (.tmp rfl) .nil))) (fun w' hS => (rightK p.side p.ps.length pc lc cB set _ la (some ⟨gB, 0, none⟩) p.ls (L ++ [(Pl.mk (x : Int) (y : Int))]) w' hset h6 hls hLs (hold _ w' hS).1.2 (pls_of_row (hS.mem (by repeat (first | exact List.Mem.head _ | apply List.Mem.tail))) hB)).as (congrArg Value.bool hr))) ?_
            refine lnil ?_
            refine xw_then ?_
            refine cw_cond_true (.tmp rfl) ?_
            have hbd := done_le p set k L mv N x y hxN hyN hs0 hN'
            rw [stepS_good hm1 hr] at hbd
            refine cw_pick (H' := [(b12, Obj.cells [.slice (some ⟨gB, 0, none⟩) (L ++ [(Pl.mk (x : Int) (y : Int))]).length cB, .int .i64 (L.length : Int)].toArray 84 (0, 0)), (gB, Obj.cells rB.toArray 52 (0, 0)), (b6, Obj.cells [.slice (rowA lo) L.length (rowC lo), .int .i64 mv].toArray 84 (0, 0)), (b4, Obj.cells [.int .i64 p.side, .slice (some ⟨pb, po, none⟩) p.ps.length pc, .slice la p.ls.length lc].toArray 25 (0, 0))]) (by repeat (first | exact Pick.nil | (apply Pick.cons; focus (repeat (first | exact Del.here | apply Del.there))))) ?_
            refine cw_back (F := rowH r.o 84 ++ r.R) hS1 ?_
            show CW _ _ _ _ _ _ _ ((b12, Obj.cells [.slice (some ⟨gB, 0, none⟩) (L ++ [(Pl.mk (x : Int) (y : Int))]).length cB, .int .i64 (L.length : Int)].toArray 84 (0, 0)) :: (gB, Obj.cells rB.toArray 52 (0, 0)) :: (b6, Obj.cells [.slice (rowA lo) L.length (rowC lo), .int .i64 mv].toArray 84 (0, 0)) :: (b4, Obj.cells [.int .i64 p.side, .slice (some ⟨pb, po, none⟩) p.ps.length pc, .slice la p.ls.length lc].toArray 25 (0, 0)) :: (rowH r.o 84 ++ r.R))
            refine cw_region ?_
            refine lstepB rfl rfl rfl (run_loadN (.tmp rfl) kd25 sz25 (by repeat (first | exact List.Mem.head _ | apply List.Mem.tail)) (by repeat (first | exact Sub.done | apply Sub.take | apply Sub.skip))) ?_
            refine lstepB rfl rfl rfl (run_move (.tmp rfl)) ?_
            refine lstepB rfl rfl rfl (run_loadN (.tmp rfl) kd84 sz84 (by repeat (first | exact List.Mem.head _ | apply List.Mem.tail)) (by repeat (first | exact Sub.done | apply Sub.take | apply Sub.skip))) ?_
            refine lstepB rfl rfl rfl (run_move (.tmp rfl)) ?_
            refine lstep rfl rfl rfl (LR.runsP (R := rowH r.o 84 ++ [(gB, Obj.cells rB.toArray 52 (0, 0))]) (A := rowH r.o 84) (H2 := (b12, Obj.cells [.slice (some ⟨gB, 0, none⟩) (L ++ [(Pl.mk (x : Int) (y : Int))]).length cB, .int .i64 (L.length : Int)].toArray 84 (0, 0)) :: (gB, Obj.cells rB.toArray 52 (0, 0)) :: (b6, Obj.cells [.slice (rowA lo) L.length (rowC lo), .int .i64 mv].toArray 84 (0, 0)) :: (b4, Obj.cells [.int .i64 p.side, .slice (some ⟨pb, po, none⟩) p.ps.length pc, .slice la p.ls.length lc].toArray 25 (0, 0)) :: r.R) (lr_call (X := TR) (F := fun s => rowIs s.o 2 (n + j + (truthsS p set k (L ++ [(Pl.mk (x : Int) (y : Int))]) (L.length : Int)).length) ((xs ++ r.xs) ++ s.xs) ∧ Elems (rowH (some ⟨gB, cB, rB⟩) 52 ++ s.R) s.xs (truthsS p set k (L ++ [(Pl.mk (x : Int) (y : Int))]) (L.length : Int))) (r := fun s => .slice (rowA s.o) (n + (j + (truthsS p set k (L ++ [(Pl.mk (x : Int) (y : Int))]) (L.length : Int)).length)) (rowC s.o)) (B := fun s => rowH s.o 84 ++ s.R) cb94 (.cons (.tmp rfl) (.cons (.tmp rfl) (.cons (.tmp rfl) (.cons (.tmp rfl) .nil)))) (fun w' hR hA => (ih (some ⟨gB, cB, rB⟩) r.o (L ++ [(Pl.mk (x : Int) (y : Int))]) (n + j) (xs ++ r.xs) w' (L.length : Int) (hin.next hR hB hk.2.1) (by simp only [List.length_append, List.length_singleton]; omega) hLf2 (by have := hk.1; simp only at this; omega)).mono fun e w2 ⟨s, h1, h2, h3⟩ => ⟨s, h1, h2.trans (by rw [Nat.add_assoc]), h3⟩)) (Pick.of _ (perm_b _ _ _ _ _ _)) (perm_a _ _ _ _ _ _)) ?_
            intro s hs
            refine lstepB rfl rfl rfl (run_assign (.tmp rfl)) ?_
            refine lnil ?_
            refine xw_in ?_
            refine xw_then ?_
            refine cw_region ?_
            refine lstepB rfl rfl rfl (run_move (.tmp rfl)) ?_
            refine lstepB rfl rfl rfl (run_add (.tmp rfl) .const (by first | exact IntWalk.i64_in _ (by omega) | exact rfl)) ?_
            refine lstepB rfl rfl rfl (run_assign (.tmp rfl)) ?_
            refine lnil ?_
            exact xw_round ⟨y + 1, j + (truthsS p set k (L ++ [(Pl.mk (x : Int) (y : Int))]) (L.length : Int)).length, ⟨s.o, r.xs ++ s.xs, s.R ++ (gB, Obj.cells rB.toArray 52 (0, 0)) :: r.R⟩⟩ ⟨by rw [doneS_y, stepS_good hm1 hr]; exact hk.add rfl hs.1 hs.2 _, by simp only; omega⟩ (by simp only; omega) (by repeat (first | exact Less.nil | refine Less.cons rfl ?_)) (Pick.of [(b12, Obj.cells [.slice (some ⟨gB, 0, none⟩) (L ++ [(Pl.mk (x : Int) (y : Int))]).length cB, .int .i64 (L.length : Int)].toArray 84 (0, 0))] (perm_call _ _ _ _ _ _ _))
        ·
          refine cw_seq ?_
          refine cw_seq ?_
          refine cw_region ?_
          refine lstepB rfl rfl rfl (run_fieldAddr (.tmp rfl) fa84_1 (by first | exact Nat.zero_add _ | exact rfl)) ?_
          refine lstepB rfl rfl rfl (run_load1 (.tmp rfl) kd3 (by repeat (first | exact List.Mem.head _ | apply List.Mem.tail)) (by exact rfl)) ?_
          refine lstepB rfl rfl rfl (run_neq (.tmp rfl) .const (by first | exact decide_eq_true (by omega) | exact decide_eq_false (by omega) | exact rfl)) ?_
          refine lnil ?_
          refine xw_then ?_
          refine cw_cond_true (.tmp rfl) ?_
          refine cw_exit ?_
          refine xw_then_exit ?_
          refine xw_then_exit ?_
          refine xw_in_exit ?_
          refine xw_then ?_
          refine cw_region ?_
          refine lstepB rfl rfl rfl (run_move (.tmp rfl)) ?_
          refine lstepB rfl rfl rfl (run_add (.tmp rfl) .const (by first | exact IntWalk.i64_in _ (by omega) | exact rfl)) ?_
          refine lstepB rfl rfl rfl (run_assign (.tmp rfl)) ?_
          refine lnil ?_
          refine xw_pick (H' := [(b6, Obj.cells [.slice (rowA lo) L.length (rowC lo), .int .i64 mv].toArray 84 (0, 0)), (b4, Obj.cells [.int .i64 p.side, .slice (some ⟨pb, po, none⟩) p.ps.length pc, .slice la p.ls.length lc].toArray 25 (0, 0))]) (by repeat (first | exact Pick.nil | (apply Pick.cons; focus (repeat (first | exact Del.here | apply Del.there))))) ?_
          refine xw_back (F := rowH r.o 84 ++ r.R) hS1 ?_
          exact xw_round ⟨y + 1, j, r⟩ ⟨by rw [doneS_y]; exact hk.same (stepS_none (by rw [hqn]; exact ha) hm) _, by simp only; omega⟩ (by simp only; omega) (by repeat (first | exact Less.nil | refine Less.cons rfl ?_)) (by first | (exact Pick.of [] (by simp only [List.append_nil]; exact List.Perm.refl _)) | (repeat (first | exact Pick.nil | (apply Pick.cons; focus (repeat (first | exact Del.here | apply Del.there))))))
    ·
      refine cw_exit ?_
      refine xw_then_exit ?_
      refine xw_then_exit ?_
      refine xw_in_exit ?_
      refine xw_in ?_
      refine xw_then ?_
      refine cw_region ?_
      refine lstepB rfl rfl rfl (run_move (.tmp rfl)) ?_
      refine lstepB rfl rfl rfl (run_add (.tmp rfl) .const (by first | exact IntWalk.i64_in _ (by omega) | exact rfl)) ?_
      refine lstepB rfl rfl rfl (run_assign (.tmp rfl)) ?_
      refine lnil ?_
      have hgt' : ¬ (y : Int) ≤ p.side := hgt2
      obtain rfl : y = N := by omega
      exact xw_round ⟨x + 1, j, r⟩ ⟨by rw [doneS_x]; exact hk, by simp only; omega⟩ (by simp only; omega) (by repeat (first | exact Less.nil | refine Less.cons rfl ?_)) (by first | (exact Pick.of [] (by simp only [List.append_nil]; exact List.Perm.refl _)) | (repeat (first | exact Pick.nil | (apply Pick.cons; focus (repeat (first | exact Del.here | apply Del.there))))))
  ·
    refine cw_exit ?_
    refine xw_then_exit ?_
    refine xw_then_exit ?_
    refine xw_in_exit ?_
    refine xw_then ?_
    refine cw_seq ?_
    refine cw_region ?_
    refine lstepB rfl rfl rfl (run_move (.tmp rfl)) ?_
    refine lstepB rfl rfl rfl (run_assign (.tmp rfl)) ?_
    refine lnil ?_
    refine xw_then ?_
    refine cw_ret ?_
    have hgt' : ¬ (x : Int) ≤ p.side := hgt
    obtain rfl : x = N := by omega
    rw [doneS_all p set k L mv x hs0 hN'] at hk
    obtain ⟨hj, hrow, hel⟩ := hk
    simp only at hj hrow hel
    subst hj
    refine xw_ret1 Try.results94 rfl (fun w' hS => ⟨r, ⟨hrow, hel⟩, rfl, hS.trOf (Pick.of [(b6, Obj.cells [.slice (rowA lo) L.length (rowC lo), .int .i64 mv].toArray 84 (0, 0)), (b4, Obj.cells [.int .i64 p.side, .slice (some ⟨pb, po, none⟩) p.ps.length pc, .slice la p.ls.length lc].toArray 25 (0, 0))] (perm_c _ _ _))⟩)
theorem truthsK {p : PegsD} {pa la : Option Addr} (hf : Fit p) (h8 : p.side ≤ 8) (pc lc set : Nat) (hset : set < 1000000) : ∀ (k : Nat) (lo o : Option RowO) (L : List Pl) (n : Nat) (xs : List Value) (w : World) (mv : Int), TIn w p pa la lo o L n xs → L.length + k = p.ps.length → (∀ s ∈ L, inField p.side s) → n + (truthsS p set k L mv).length ≤ 1000000 →
    Calls Try.prog 94 [.agg [.int .i64 p.side, .slice (pa) p.ps.length pc, .slice la p.ls.length lc].toArray, .int .i64 (set : Int), .agg [.slice (rowA lo) L.length (rowC lo), .int .i64 mv].toArray, .slice (rowA o) n (rowC o)].toArray w (TEnds w lo o n xs (truthsS p set k L mv))
  | 0, lo, o, L, n, xs, w, mv, hin, hL, _, hn => truths0 pc lc set mv hin hL (by simpa [truthsS] using hn)
  | k + 1, lo, o, L, n, xs, w, mv, hin, hL, hLf, hn => by
    obtain ⟨pb, po, rfl, _⟩ := postsIn_at hin.start.1 (by omega)
    exact truthsN hf h8 pc lc set hset k (fun lo o L n xs w mv => truthsK hf h8 pc lc set hset k lo o L n xs w mv) lo o L n xs w mv hin hL hLf hn
end Go.Proofs.Ytkjciobphbcknaa
