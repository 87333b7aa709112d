/- Package furrow: where the furrow bends most. -/
import Derived.Test.YtjdeplehhmhpcaaFN
namespace Go.Proofs.Ytjdeplehhmhpcaa
open Go.RowKit En

def leadAny (l : List SpanD) (st : Nat) : Bool := (upL (bendS l st).lo (bendS l st).hi).any (leadB l st)
def lessAny (l : List SpanD) (st ot : Nat) : Bool := (upL (bendS l st).lo (bendS l st).hi).any (lessB l st ot)
def outP (l : List SpanD) (st : Nat) (o : Int) : Bool := decide (o ≠ (st : Int)) && lessAny l st o.toNat
def outB (l : List SpanD) (st : Nat) : Bool := (upL 1 ((l.length : Int) - 2)).any (outP l st)
theorem bendS_in {l : List SpanD} (hl : FineC l) {st : Nat} (h1 : 1 ≤ st) (h2 : st + 1 < l.length) : InB (bendS l st).lo ∧ InB (bendS l st).hi := by
  obtain ⟨_, h4, h5, h6, _⟩ := bendS_spec hl h1 h2
  exact ⟨h4 _ h5, h4 _ h6⟩
theorem bendS_mem {l : List SpanD} (hl : FineC l) {st : Nat} (h1 : 1 ≤ st) (h2 : st + 1 < l.length) {x : Int} (hx : x ∈ upL (bendS l st).lo (bendS l st).hi) : InB x := by
  obtain ⟨⟨a1, a2⟩, ⟨a3, a4⟩⟩ := bendS_in hl h1 h2
  rw [mem_upL] at hx
  exact ⟨by omega, by omega⟩
theorem pred_lead {l : List SpanD} (hl : FineC l) (hn : l.length ≤ 100) {st : Nat} (h1 : 1 ≤ st) (h2 : st + 1 < l.length) {a : Option Addr} {c b1 b2 : Nat} {w : World} (hc : w.cell? ⟨b1, 0, none⟩ = some (.slice a l.length c)) (hs : w.cell? ⟨b2, 0, none⟩ = some (.int .i64 (st : Int))) (hq : SpansAt w a l) (D : Int → Prop) : PredAt w (.func (.func 107) #[] [ptrV b1, ptrV b2].toArray) (leadB l st) D :=
  .inl ⟨107, _, rfl, cb107, fun w2 hb x _ => lead1K hl hn st h1 h2 x a c b1 b2 w2 (cell_kept' hc hb) (cell_kept' hs hb) (hq.kept hb)⟩
theorem pred_less {l : List SpanD} (hl : FineC l) (hn : l.length ≤ 100) {st ot : Nat} (h1 : 1 ≤ st) (h2 : st + 1 < l.length) (g1 : 1 ≤ ot) (g2 : ot + 1 < l.length) {a : Option Addr} {c b1 b2 b3 : Nat} {w : World} (hc : w.cell? ⟨b1, 0, none⟩ = some (.slice a l.length c)) (hs : w.cell? ⟨b2, 0, none⟩ = some (.int .i64 (st : Int))) (ho : w.cell? ⟨b3, 0, none⟩ = some (.int .i64 (ot : Int))) (hq : SpansAt w a l) (D : Int → Prop) (hD : ∀ x, D x → InB x) : PredAt w (.func (.func 111) #[] [ptrV b1, ptrV b2, ptrV b3].toArray) (lessB l st ot) D :=
  .inl ⟨111, _, rfl, cb111, fun w2 hb x hx => less1K hl hn st ot h1 h2 g1 g2 x (hD x hx) a c b1 b2 b3 w2 (cell_kept' hc hb) (cell_kept' hs hb) (cell_kept' ho hb) (hq.kept hb)⟩
set_option maxRecDepth 100000 in
set_option maxHeartbeats 4000000 in
theorem canLeadK {l : List SpanD} (hl : FineC l) (hn : l.length ≤ 100) (st : Nat) (h1 : 1 ≤ st) (h2 : st + 1 < l.length) (a : Option Addr) (c : Nat) (w : World) (hq : SpansAt w a l) : Gives Try.prog 94 [.slice a l.length c, .int .i64 (st : Int)] w (.bool (leadAny l st)) := by
  refine .mk <| enter (n := 17) Try.func94 rfl rfl rfl (by repeat (first | exact Fill.nil | apply Fill.cons)) ?_
  have hbi := bendS_in hl h1 h2
  unfold InB at hbi
  refine cw_seq ?_
  refine cw_region ?_
  refine lstep rfl rfl rfl (run_box1 (.tmp rfl) rfl) ?_
  intro b2 _
  refine lstep rfl rfl rfl (run_box1 (.tmp rfl) rfl) ?_
  intro b3 _
  refine lstepB rfl rfl rfl (run_assign .const) ?_
  refine lnil ?_
  refine xw_then ?_
  refine cw_seq ?_
  refine cw_region ?_
  refine lstepB rfl rfl rfl (run_load1 (.tmp rfl) kd69 (by repeat (first | exact List.Mem.head _ | apply List.Mem.tail)) (by exact rfl)) ?_
  refine lstepB rfl rfl rfl (run_load1 (.tmp rfl) kd3 (by repeat (first | exact List.Mem.head _ | apply List.Mem.tail)) (by exact rfl)) ?_
  refine lstepB rfl rfl rfl (run_call1 cb50 (.cons (.tmp rfl) (.cons (.tmp rfl) .nil)) (fun w2 hS => bendSK hl st a c w2 (by omega) h1 h2 (hq.kept hS.kept))) ?_
  refine lcallN rfl cb78 (.cons (.tmp rfl) .nil) (F := fun (z0 : Nat) B0 w' => AllF ((bendS l st).lo) ((bendS l st).hi) z0 B0 w') (fun w _ => allK _ _ w) ?_
  rintro zx Bx wx hAx hlox hsx htx hx
  refine lstepB rfl rfl rfl (En.run_makeFunc .nil (.cons (.tmp rfl) (.cons (.tmp rfl) .nil))) ?_
  refine lstepB rfl rfl rfl (run_call1 cb62 (.cons (.tmp rfl) (.cons (.tmp rfl) .nil)) (fun w2 hS => firstK (Cap := fun c => c = zx) cb100 (all_iter _ _ zx w2 (by omega) (hS.old_cell (fun h => absurd (hlox _ h) (by have := hAx.1; omega)) hAx.2.1) (hS.old_cell (fun h => absurd (hlox _ h) (by have := hAx.1; omega)) hAx.2.2)) (fun c hc => by subst hc; exact Nat.lt_of_lt_of_le (World.block_lt_of_cell? _ _ hAx.2.1) hS.size) (pred_lead hl hn h1 h2 (hS.cell (b := b2) (by repeat (first | exact List.Mem.head _ | apply List.Mem.tail)) rfl) (hS.cell (b := b3) (by repeat (first | exact List.Mem.head _ | apply List.Mem.tail)) rfl) (hq.kept (hx.join0 hS).kept) _))) ?_
  refine lstepB rfl rfl rfl (run_move (.tmp rfl)) ?_
  refine lstepB rfl rfl rfl (run_extract (.tmp rfl) rfl) ?_
  refine lstepB rfl rfl rfl (run_extract (.tmp rfl) rfl) ?_
  refine lstepB rfl rfl rfl (run_assign (.tmp rfl)) ?_
  refine lstepB rfl rfl rfl (run_assign (.tmp rfl)) ?_
  refine lnil ?_
  refine xw_then ?_
  refine cw_seq ?_
  refine cw_region ?_
  refine lstepB rfl rfl rfl (run_move (.tmp rfl)) ?_
  refine lstepB rfl rfl rfl (run_assign (.tmp rfl)) ?_
  refine lnil ?_
  refine xw_then ?_
  refine cw_ret ?_
  refine xw_ret1 Try.results94 rfl (fun w hS => ⟨rfl, (hx.join0 hS).kept⟩)
set_option maxRecDepth 100000 in
set_option maxHeartbeats 4000000 in
theorem canBeLessK {l : List SpanD} (hl : FineC l) (hn : l.length ≤ 100) (st ot : Nat) (h1 : 1 ≤ st) (h2 : st + 1 < l.length) (g1 : 1 ≤ ot) (g2 : ot + 1 < l.length) (a : Option Addr) (c : Nat) (w : World) (hq : SpansAt w a l) : Gives Try.prog 106 [.slice a l.length c, .int .i64 (st : Int), .int .i64 (ot : Int)] w (.bool (lessAny l st ot)) := by
  refine .mk <| enter (n := 19) Try.func106 rfl rfl rfl (by repeat (first | exact Fill.nil | apply Fill.cons)) ?_
  have hbi := bendS_in hl h1 h2
  unfold InB at hbi
  refine cw_seq ?_
  refine cw_region ?_
  refine lstep rfl rfl rfl (run_box1 (.tmp rfl) rfl) ?_
  intro b3 _
  refine lstep rfl rfl rfl (run_box1 (.tmp rfl) rfl) ?_
  intro b4 _
  refine lstep rfl rfl rfl (run_box1 (.tmp rfl) rfl) ?_
  intro b5 _
  refine lstepB rfl rfl rfl (run_assign .const) ?_
  refine lnil ?_
  refine xw_then ?_
  refine cw_seq ?_
  refine cw_region ?_
  refine lstepB rfl rfl rfl (run_load1 (.tmp rfl) kd69 (by repeat (first | exact List.Mem.head _ | apply List.Mem.tail)) (by exact rfl)) ?_
  refine lstepB rfl rfl rfl (run_load1 (.tmp rfl) kd3 (by repeat (first | exact List.Mem.head _ | apply List.Mem.tail)) (by exact rfl)) ?_
  refine lstepB rfl rfl rfl (run_call1 cb50 (.cons (.tmp rfl) (.cons (.tmp rfl) .nil)) (fun w2 hS => bendSK hl st a c w2 (by omega) h1 h2 (hq.kept hS.kept))) ?_
  refine lcallN rfl cb78 (.cons (.tmp rfl) .nil) (F := fun (z0 : Nat) B0 w' => AllF ((bendS l st).lo) ((bendS l st).hi) z0 B0 w') (fun w _ => allK _ _ w) ?_
  rintro zx Bx wx hAx hlox hsx htx hx
  refine lstepB rfl rfl rfl (En.run_makeFunc .nil (.cons (.tmp rfl) (.cons (.tmp rfl) (.cons (.tmp rfl) .nil)))) ?_
  refine lstepB rfl rfl rfl (run_call1 cb62 (.cons (.tmp rfl) (.cons (.tmp rfl) .nil)) (fun w2 hS => firstK (Cap := fun c => c = zx) cb100 (all_iter _ _ zx w2 (by omega) (hS.old_cell (fun h => absurd (hlox _ h) (by have := hAx.1; omega)) hAx.2.1) (hS.old_cell (fun h => absurd (hlox _ h) (by have := hAx.1; omega)) hAx.2.2)) (fun c hc => by subst hc; exact Nat.lt_of_lt_of_le (World.block_lt_of_cell? _ _ hAx.2.1) hS.size) (pred_less hl hn h1 h2 g1 g2 (hS.cell (b := b3) (by repeat (first | exact List.Mem.head _ | apply List.Mem.tail)) rfl) (hS.cell (b := b4) (by repeat (first | exact List.Mem.head _ | apply List.Mem.tail)) rfl) (hS.cell (b := b5) (by repeat (first | exact List.Mem.head _ | apply List.Mem.tail)) rfl) (hq.kept (hx.join0 hS).kept) _ (fun x hx => bendS_mem hl h1 h2 hx)))) ?_
  refine lstepB rfl rfl rfl (run_move (.tmp rfl)) ?_
  refine lstepB rfl rfl rfl (run_extract (.tmp rfl) rfl) ?_
  refine lstepB rfl rfl rfl (run_extract (.tmp rfl) rfl) ?_
  refine lstepB rfl rfl rfl (run_assign (.tmp rfl)) ?_
  refine lstepB rfl rfl rfl (run_assign (.tmp rfl)) ?_
  refine lnil ?_
  refine xw_then ?_
  refine cw_seq ?_
  refine cw_region ?_
  refine lstepB rfl rfl rfl (run_move (.tmp rfl)) ?_
  refine lstepB rfl rfl rfl (run_assign (.tmp rfl)) ?_
  refine lnil ?_
  refine xw_then ?_
  refine cw_ret ?_
  refine xw_ret1 Try.results106 rfl (fun w hS => ⟨rfl, (hx.join0 hS).kept⟩)
set_option maxRecDepth 100000 in
set_option maxHeartbeats 4000000 in
theorem out1K {l : List SpanD} (hl : FineC l) (hn : l.length ≤ 100) (st : Nat) (h1 : 1 ≤ st) (h2 : st + 1 < l.length) (o : Int) (ho : 1 ≤ o ∧ o ≤ (l.length : Int) - 2) (a : Option Addr) (c b1 b2 : Nat) (w : World) (hs : w.cell? ⟨b1, 0, none⟩ = some (.int .i64 (st : Int))) (hc : w.cell? ⟨b2, 0, none⟩ = some (.slice a l.length c)) (hq : SpansAt w a l) : Gives Try.prog 105 [.int .i64 o, ptrV b1, ptrV b2] w (.bool (outP l st o)) := by
  refine .mk <| enter (n := 14) Try.func105 rfl rfl rfl (by repeat (first | exact Fill.nil | apply Fill.cons)) ?_
  obtain ⟨g1, g2⟩ := ho
  obtain ⟨ot, rfl⟩ : ∃ n : Nat, o = (n : Int) := ⟨o.toNat, by omega⟩
  by_cases he : (ot : Int) = (st : Int)
  ·
    refine cw_seq ?_
    refine cw_region ?_
    refine lstepB rfl rfl rfl (run_assign .const) ?_
    refine lnil ?_
    refine xw_then ?_
    refine cw_seq ?_
    refine cw_region ?_
    refine lstepB rfl rfl rfl (run_move (.tmp rfl)) ?_
    refine lstepB rfl rfl rfl (run_load1_at (.tmp rfl) kd3 (fun w' hS => hS.old_cell (fun h => h) hs)) ?_
    refine lstepB rfl rfl rfl (run_neq (.tmp rfl) (.tmp rfl) (by first | exact decide_eq_true (by omega) | exact decide_eq_false (by omega) | exact rfl)) ?_
    refine lstepB rfl rfl rfl (run_move (.tmp rfl)) ?_
    refine lskip rfl rfl rfl rfl rfl rfl rfl ?_
    refine lskip rfl rfl rfl rfl rfl rfl rfl ?_
    refine lskip rfl rfl rfl rfl rfl rfl rfl ?_
    refine lskip rfl rfl rfl rfl rfl rfl rfl ?_
    refine lstepB rfl rfl rfl (by first | exact run_pick_true (.tmp rfl) (.tmp rfl) | exact run_pick_false (.tmp rfl) .const) ?_
    refine lstepB rfl rfl rfl (run_assign (.tmp rfl)) ?_
    refine lnil ?_
    refine xw_then ?_
    refine cw_ret ?_
    refine xw_ret1 Try.results105 rfl (fun w hS => ⟨by simp [outP, he], hS.kept⟩)
  ·
    refine cw_seq ?_
    refine cw_region ?_
    refine lstepB rfl rfl rfl (run_assign .const) ?_
    refine lnil ?_
    refine xw_then ?_
    refine cw_seq ?_
    refine cw_region ?_
    refine lstepB rfl rfl rfl (run_move (.tmp rfl)) ?_
    refine lstepB rfl rfl rfl (run_load1_at (.tmp rfl) kd3 (fun w' hS => hS.old_cell (fun h => h) hs)) ?_
    refine lstepB rfl rfl rfl (run_neq (.tmp rfl) (.tmp rfl) (by first | exact decide_eq_true (by omega) | exact decide_eq_false (by omega) | exact rfl)) ?_
    refine lstepB rfl rfl rfl (run_move (.tmp rfl)) ?_
    refine lyes rfl rfl rfl rfl ?_
    refine gstepB rfl rfl (run_load1_at (.tmp rfl) kd69 (fun w' hS => hS.old_cell (fun h => h) hc)) ?_
    refine lyes rfl rfl rfl rfl ?_
    refine gstepB rfl rfl (run_load1_at (.tmp rfl) kd3 (fun w' hS => hS.old_cell (fun h => h) hs)) ?_
    refine lyes rfl rfl rfl rfl ?_
    refine gstepB rfl rfl (run_move (.tmp rfl)) ?_
    refine lyes rfl rfl rfl rfl ?_
    refine gstepB rfl rfl (run_call1 cb106 (.cons (.tmp rfl) (.cons (.tmp rfl) (.cons (.tmp rfl) .nil))) (fun w2 hS => canBeLessK hl hn st ot h1 h2 (by omega) (by omega) a c w2 (hq.kept hS.kept))) ?_
    refine lstepB rfl rfl rfl (by first | exact run_pick_true (.tmp rfl) (.tmp rfl) | exact run_pick_false (.tmp rfl) .const) ?_
    refine lstepB rfl rfl rfl (run_assign (.tmp rfl)) ?_
    refine lnil ?_
    refine xw_then ?_
    refine cw_ret ?_
    refine xw_ret1 Try.results105 rfl (fun w hS => ⟨by simp only [outP, Int.toNat_natCast]; rw [decide_eq_true he, Bool.true_and], hS.kept⟩)
theorem pred_out {l : List SpanD} (hl : FineC l) (hn : l.length ≤ 100) {st : Nat} (h1 : 1 ≤ st) (h2 : st + 1 < l.length) {a : Option Addr} {c b1 b2 : Nat} {w : World} (hs : w.cell? ⟨b1, 0, none⟩ = some (.int .i64 (st : Int))) (hc : w.cell? ⟨b2, 0, none⟩ = some (.slice a l.length c)) (hq : SpansAt w a l) : PredAt w (.func (.func 105) #[] [ptrV b1, ptrV b2].toArray) (outP l st) (fun x => x ∈ upL 1 ((l.length : Int) - 2)) :=
  .inl ⟨105, _, rfl, cb105, fun w2 hb x hx => out1K hl hn st h1 h2 x (mem_upL.1 hx) a c b1 b2 w2 (cell_kept' hs hb) (cell_kept' hc hb) (hq.kept hb)⟩
set_option maxRecDepth 100000 in
set_option maxHeartbeats 4000000 in
theorem outdoneK {l : List SpanD} (hl : FineC l) (hn : l.length ≤ 100) (st : Nat) (h1 : 1 ≤ st) (h2 : st + 1 < l.length) (a : Option Addr) (c : Nat) (w : World) (hq : SpansAt w a l) : Gives Try.prog 93 [.slice a l.length c, .int .i64 (st : Int)] w (.bool (outB l st)) := by
  refine .mk <| enter (n := 15) Try.func93 rfl rfl rfl (by repeat (first | exact Fill.nil | apply Fill.cons)) ?_
  refine cw_seq ?_
  refine cw_region ?_
  refine lstep rfl rfl rfl (run_box1 (.tmp rfl) rfl) ?_
  intro b2 _
  refine lstep rfl rfl rfl (run_box1 (.tmp rfl) rfl) ?_
  intro b3 _
  refine lstepB rfl rfl rfl (run_assign .const) ?_
  refine lnil ?_
  refine xw_then ?_
  refine cw_seq ?_
  refine cw_region ?_
  refine lstepB rfl rfl rfl (run_load1 (.tmp rfl) kd69 (by repeat (first | exact List.Mem.head _ | apply List.Mem.tail)) (by exact rfl)) ?_
  refine lcallN rfl cb91 (.cons (.tmp rfl) .nil) (F := fun (z0 : Nat) B0 w' => AllF 1 (((l.length : Int) : Int) - 2) z0 B0 w') (fun w _ => innerK _ _ _ (by omega) w) ?_
  rintro zx Bx wx hAx hlox hsx htx hx
  refine lstepB rfl rfl rfl (En.run_makeFunc .nil (.cons (.tmp rfl) (.cons (.tmp rfl) .nil))) ?_
  refine lstepB rfl rfl rfl (run_call1 cb62 (.cons (.tmp rfl) (.cons (.tmp rfl) .nil)) (fun w2 hS => firstK (Cap := fun c => c = zx) cb100 (all_iter _ _ zx w2 (by omega) (hS.old_cell (fun h => absurd (hlox _ h) (by have := hAx.1; omega)) hAx.2.1) (hS.old_cell (fun h => absurd (hlox _ h) (by have := hAx.1; omega)) hAx.2.2)) (fun c hc => by subst hc; exact Nat.lt_of_lt_of_le (World.block_lt_of_cell? _ _ hAx.2.1) hS.size) (pred_out hl hn h1 h2 (hS.cell (b := b3) (by repeat (first | exact List.Mem.head _ | apply List.Mem.tail)) rfl) (hS.cell (b := b2) (by repeat (first | exact List.Mem.head _ | apply List.Mem.tail)) rfl) (hq.kept (hx.join0 hS).kept)))) ?_
  refine lstepB rfl rfl rfl (run_move (.tmp rfl)) ?_
  refine lstepB rfl rfl rfl (run_extract (.tmp rfl) rfl) ?_
  refine lstepB rfl rfl rfl (run_extract (.tmp rfl) rfl) ?_
  refine lstepB rfl rfl rfl (run_assign (.tmp rfl)) ?_
  refine lstepB rfl rfl rfl (run_assign (.tmp rfl)) ?_
  refine lnil ?_
  refine xw_then ?_
  refine cw_seq ?_
  refine cw_region ?_
  refine lstepB rfl rfl rfl (run_move (.tmp rfl)) ?_
  refine lstepB rfl rfl rfl (run_assign (.tmp rfl)) ?_
  refine lnil ?_
  refine xw_then ?_
  refine cw_ret ?_
  refine xw_ret1 Try.results93 rfl (fun w hS => ⟨rfl, (hx.join0 hS).kept⟩)
/-- The stations that surely, or can, bend most, of the first inner ones. -/
def worstN (l : List SpanD) : Nat → Nat × Nat
  | 0 => (0, 0)
  | k + 1 => (noteN (worstN l k).1 (k + 1) (!outB l (k + 1)), noteN (worstN l k).2 (k + 1) (leadAny l (k + 1)))
theorem noteN_lt {x k m : Nat} {c : Bool} (hx : x < 2 ^ m) (hk : k < m) : noteN x k c < 2 ^ m := by
  unfold noteN
  split
  · exact Nat.or_lt_two_pow hx (Nat.pow_lt_pow_right (by omega) hk)
  · exact hx
theorem worstN_lt (l : List SpanD) : ∀ k, (worstN l k).1 < 2 ^ (k + 1) ∧ (worstN l k).2 < 2 ^ (k + 1)
  | 0 => ⟨by show 0 < 2 ^ (0 + 1); decide, by show 0 < 2 ^ (0 + 1); decide⟩
  | k + 1 => by
    obtain ⟨h1, h2⟩ := worstN_lt l k
    have e : 2 ^ (k + 1) < 2 ^ (k + 1 + 1) := Nat.pow_lt_pow_right (by omega) (by omega)
    exact ⟨noteN_lt (by omega) (by omega), noteN_lt (by omega) (by omega)⟩
theorem worstN_small (l : List SpanD) {k : Nat} (hk : k < 10) : (worstN l k).1 < 2 ^ 32 ∧ (worstN l k).2 < 2 ^ 32 := by
  obtain ⟨h1, h2⟩ := worstN_lt l k
  have e : 2 ^ (k + 1) ≤ 2 ^ 32 := Nat.pow_le_pow_right (by omega) (by omega)
  omega

set_option maxRecDepth 100000 in
set_option maxHeartbeats 4000000 in
theorem worstK {l : List SpanD} (hl : FineC l) (a : Option Addr) (c : Nat) (w : World) (hn : l.length ≤ 10) (hq : SpansAt w a l) : Gives Try.prog 58 [.slice a l.length c] w (.agg [.int .i64 ((worstN l (l.length - 2)).1 : Int), .int .i64 ((worstN l (l.length - 2)).2 : Int)].toArray) := by
  refine .mk <| enter (n := 18) Try.func58 rfl rfl rfl (by repeat (first | exact Fill.nil | apply Fill.cons)) ?_
  refine cw_seq ?_
  refine cw_region ?_
  refine lstep rfl rfl rfl (run_box1 (.tmp rfl) rfl) ?_
  intro b1 _
  refine lstep rfl rfl rfl (run_alloc zr81) ?_
  intro b2 _
  refine lnil ?_
  refine xw_then ?_
  refine cw_seq ?_
  refine cw_region ?_
  refine lstep rfl rfl rfl (run_alloc zr81) ?_
  intro b3 _
  refine lnil ?_
  refine xw_then ?_
  refine cw_seq ?_
  refine cw_seq ?_
  refine cw_region ?_
  refine lstepB rfl rfl rfl (run_load1 (.tmp rfl) kd69 (by repeat (first | exact List.Mem.head _ | apply List.Mem.tail)) (by exact rfl)) ?_
  refine lcallN rfl cb91 (.cons (.tmp rfl) .nil) (F := fun (z0 : Nat) B0 w' => AllF 1 (((l.length : Int) : Int) - 2) z0 B0 w') (fun w _ => innerK _ _ _ (by omega) w) ?_
  rintro zx Bx wx hAx hlox hsx htx hx
  refine lnil ?_
  refine xw_then ?_
  refine cw_block ?_
  refine cw_range (f := 100) (xs := intsV (upL (1) (((l.length : Int)) - 2))) (Cap := fun c => c = zx) (S := (Nat × Nat)) (fun s => findH b3 s.1 s.2 :: findH b2 0 0 :: (b1, Obj.cells [.slice a l.length c].toArray 69 (0, 0)) :: []) (fun k s => s = worstN l k) (0, 0) cb100 (.tmp rfl) rfl
    (fun w hS => all_iter (1) (((l.length : Int)) - 2) zx w (by omega) (hS.old_cell (fun h => absurd (hlox _ h) (by have := hAx.1; omega)) hAx.2.1) (hS.old_cell (fun h => absurd (hlox _ h) (by have := hAx.1; omega)) hAx.2.2))
    (fun c hc => by subst hc; exact ⟨World.block_lt_of_cell? _ _ hAx.2.1, fun h => absurd (hlox _ h) (by have := hAx.1; omega)⟩) rfl (by repeat (first | exact Pick.nil | exact Pick.refl _ | (apply Pick.cons; focus (repeat (first | exact Del.here | apply Del.there))) | exact Pick.skip (Pick.refl _) | exact Pick.skip (Pick.skip (Pick.refl _)))) ?_ ?_
  ·
    intro L D fn tm k s x w2 hx2 hF h2
    obtain ⟨hk, rfl⟩ := upV_inv hx2
    subst hF
    have hst : (1 : Int) + (k : Int) = ((k + 1 : Nat) : Int) := by omega
    rw [hst]
    obtain ⟨hsm1, hsm2⟩ := worstN_small l (k := k) (by omega)
    refine cw_region ?_
    refine lstepB rfl rfl rfl (run_assign (.tmp rfl)) ?_
    refine lnil ?_
    refine xw_begin rfl ?_
    refine cw_block ?_
    refine cw_chain2 (σ := [0, 1, 2, 3, 4, 5, 6, 7, 8]) [⟨0, [], [], [], 0⟩, ⟨0, [4], [], [], 0⟩, ⟨0, [], [], [], 0⟩, ⟨0, [], [], [], 6⟩, ⟨0, [], [], [], 14⟩, ⟨0, [4], [], [], 0⟩, ⟨0, [], [], [], 0⟩, ⟨0, [], [], [], 110⟩, ⟨1, [], [2], [2], 255⟩] [(0, _), (1, _), (2, _), (3, _), (4, _)] (by kernel_rfl) (by kernel_rfl) rfl ?_
    refine .det (B := []) rfl rfl (.inl rfl) .nil .nil rfl (RunB.lr (run_move (.tmp rfl))) ?_
    refine .det (B := []) rfl rfl (.inl rfl) (.cons rfl .nil) .nil rfl (RunB.lr (run_load1 (.tmp rfl) kd69 (by repeat (first | exact List.Mem.head _ | apply List.Mem.tail)) (by exact rfl))) ?_
    refine .det (B := []) rfl rfl (.inl rfl) .nil .nil rfl (RunB.lr (run_move (.tmp rfl))) ?_
    refine .det (B := []) rfl rfl (.inl rfl) .nil .nil rfl (RunB.lr (run_call1 cb93 (.cons (.tmp rfl) (.cons (.tmp rfl) .nil)) (fun w3 hS => outdoneK hl (by omega) (k + 1) (by omega) (by omega) a c w3 (hq.kept (hx.join0 (h2.join0 hS)).kept)))) ?_
    refine .det (B := []) rfl rfl (.inl rfl) .nil .nil rfl (RunB.lr (run_not (.tmp rfl) (by first | exact Bool.not_true | exact Bool.not_false | exact rfl))) ?_
    refine .det (B := []) rfl rfl (.inl rfl) (.cons rfl .nil) .nil rfl (RunB.lr (run_load1 (.tmp rfl) kd69 (by repeat (first | exact List.Mem.head _ | apply List.Mem.tail)) (by exact rfl))) ?_
    refine .det (B := []) rfl rfl (.inl rfl) .nil .nil rfl (RunB.lr (run_move (.tmp rfl))) ?_
    refine .det (B := []) rfl rfl (.inl rfl) .nil .nil rfl (RunB.lr (run_call1 cb94 (.cons (.tmp rfl) (.cons (.tmp rfl) .nil)) (fun w3 hS => canLeadK hl (by omega) (k + 1) (by omega) (by omega) a c w3 (hq.kept (hx.join0 (h2.join0 hS)).kept)))) ?_
    refine .ext (B := fun _ => [(2, findH b3 (noteN (worstN l k).1 (k + 1) (!outB l (k + 1))) (noteN (worstN l k).2 (k + 1) (leadAny l (k + 1))))]) rfl rfl (.inl rfl) .nil (.cons rfl .nil) (fun _ => rfl) ⟨(), trivial⟩ (lr_call (X := Unit) (F := fun _ => True) (r := fun _ => .tuple #[]) cb92 (.cons (.tmp rfl) (.cons (.tmp rfl) (.cons (.tmp rfl) (.cons (.tmp rfl) .nil)))) (fun w3 hS hA => noteK b3 _ _ (k + 1) _ _ (by omega) hsm1 hsm2 w3 (hA (findH b3 (worstN l k).1 (worstN l k).2) (List.Mem.head _)))) ?_
    intro _ _
    refine chain_nil (ts := [0, 1, 2, 3, 4]) (.cons rfl (.cons rfl (.cons rfl (.cons rfl (.cons rfl .nil))))) (by decide) ?_
    refine xw_in ?_
    exact xw_rnext (worstN l (k + 1)) rfl (by repeat (first | exact Pick.nil | (apply Pick.cons; focus (repeat (first | exact Del.here | apply Del.there)))))
  ·
    intro D s hF
    subst hF
    rw [show (intsV (upL 1 (((l.length : Int)) - 2))).length = l.length - 2 by simp only [intsV, List.length_map, upL_length]; omega]
    refine xw_in ?_
    refine xw_then ?_
    refine cw_seq ?_
    refine cw_region ?_
    refine lstepB rfl rfl rfl (run_loadN (.tmp rfl) kd81 sz81 (by repeat (first | exact List.Mem.head _ | apply List.Mem.tail)) (by repeat (first | exact Sub.done | apply Sub.take | apply Sub.skip))) ?_
    refine lstep0 rfl rfl (run_storeN (.tmp rfl) (.tmp rfl) rfl sz81 rfl (by repeat (first | exact Upd.here | apply Upd.there)) (by repeat (first | exact Put.done | apply Put.put | apply Put.skip))) ?_
    refine lnil ?_
    refine xw_then ?_
    refine cw_ret ?_
    refine xw_pick (H' := (D, dfr) :: (b2, _) :: []) (by repeat (first | exact Pick.nil | (apply Pick.cons; focus (repeat (first | exact Del.here | apply Del.there))))) ?_
    refine xw_retD1C Try.results58 rfl kd81 sz81 (by repeat (first | exact List.Mem.head _ | apply List.Mem.tail)) (by repeat (first | exact Sub.done | apply Sub.take | apply Sub.skip)) (fun w hS => ⟨rfl, (hx.join0 hS).kept⟩)
end Go.Proofs.Ytjdeplehhmhpcaa
