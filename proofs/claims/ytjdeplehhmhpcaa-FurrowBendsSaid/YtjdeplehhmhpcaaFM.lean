/- Package furrow: bend and straightest. -/
import Derived.Test.YtjdeplehhmhpcaaFL
namespace Go.Proofs.Ytjdeplehhmhpcaa
open Go.RowKit En

def eraseS (s : SpotD) : SpotD := ⟨s.lo, s.hi, .nilFunc, s.ok⟩
theorem getD_erase (l : List SpotD) (k : Nat) : (l.map eraseS).getD k default = eraseS (l.getD k default) := by
  rw [List.getD_eq_getElem?_getD, List.getD_eq_getElem?_getD, List.getElem?_map]
  cases l[k]? <;> rfl
theorem lets_erase (l : List SpotD) (k : Nat) (a b o : Int) : letsB (l.map eraseS) k a b o = letsB l k a b o := by
  unfold letsB
  rw [getD_erase]
  rfl
theorem goes_erase (l : List SpotD) : ∀ (d k : Nat) (a b : Int), goes (l.map eraseS) d k a b = goes l d k a b
  | 0, _, _, _ => rfl
  | d + 1, k, a, b => by
    rw [goes_succ, goes_succ, getD_erase]
    congr 1
    funext o
    unfold cand
    rw [lets_erase, goes_erase l d]
theorem wayL_erase (l : List SpotD) : wayL (l.map eraseS) = wayL l := by unfold wayL; rw [List.length_map, goes_erase]
/-- The first offsets of a course of which each inner bend suits. -/
def wayS (l : List SpanD) (ok : Int → Bool) : Option (List Int) := wayL (askedL l .nilFunc ok)
theorem wayL_asked (l : List SpanD) (v : Value) (ok : Int → Bool) : wayL (askedL l v ok) = wayS l ok := by
  unfold wayS
  rw [← wayL_erase (askedL l v ok), ← wayL_erase (askedL l .nilFunc ok)]
  simp [askedL, eraseS, Function.comp_def]
def mostB (m : Int) : Int → Bool := fun x => decide (x ≤ m)
def leastB (m : Int) : Int → Bool := fun x => decide (m ≤ x)
theorem asked_ok {l : List SpanD} {v : Value} {ok : Int → Bool} {w : World} (hl : FineC l) (hv : PredAt w v ok InB) : ∀ s ∈ askedL l v ok, SpotOk w s := fun s hs => by
  obtain ⟨t, ht, rfl⟩ := List.mem_map.1 hs
  obtain ⟨h1, h2, h3, h4⟩ := hl t ht
  exact ⟨h1, h3, hv⟩
theorem hasWayN {n : Nat} (l : List SpotD) (hln : l.length = n) (sa : Option Addr) (sc : Nat) (w : World) (hl : ∀ s ∈ l, SpotOk w s) (hp : SpotsAt w sa l) (hn : n ≤ 100) : Gives Try.prog 80 [.slice sa n sc] w (.bool (wayL l).isSome) := by
  subst hln
  exact hasWayK l sa sc w hl hp hn
theorem wayN {n : Nat} (l : List SpotD) (hln : l.length = n) (sa : Option Addr) (sc : Nat) (w : World) (hl : ∀ s ∈ l, SpotOk w s) (hp : SpotsAt w sa l) (hn : n ≤ 100) :
    CallsF Try.prog 89 (([.slice sa n sc] : List Value)).toArray w fun e w' => ∃ s : Nat × List Int, (s.2.length = n ∧ ∀ t, wayL l = some t → s.2 = t) ∧ e = .returned (.tuple #[.slice (some ⟨s.1, 0, none⟩) n n, .bool (wayL l).isSome]) ∧ St w NoT [(s.1, Obj.cells (intsV s.2).toArray 3 (0, 0))] w' := by
  subst hln
  exact wayK l sa sc w hl hp hn
theorem askedC_length (l : List SpanD) (v : Value) (ok : Int → Bool) : (spotsC (askedL l v ok)).length = l.length * 3 := by rw [spotsC_length, askedL_length]
theorem inrow_asked {l : List SpanD} {v : Value} {ok : Int → Bool} (hn : l.length ≤ 100) : ∃ q : Nat × Nat × List Value, InRow 3 l.length q.2.1 q.2.2 (spotsC (askedL l v ok)) := inrow_some (askedC_length l v ok) (by unfold maxLen; omega)
/-- Can the furrow bend by so much at most? -/
def canMost (l : List SpanD) (m : Int) : Bool := (wayS l (mostB m)).isSome
def leastN (l : List SpanD) : Int := ((upL (boundsN l (l.length - 2)).lo (boundsN l (l.length - 2)).hi).find? (canMost l)).getD 0
def bendT (l : List SpanD) : SpanD := ⟨leastN l, (boundsN l (l.length - 2)).hi⟩
set_option maxRecDepth 100000 in
set_option maxHeartbeats 4000000 in
theorem bend1_nil (x : Int) (a : Option Addr) (c b1 : Nat) (w : World) (hc : w.cell? ⟨b1, 0, none⟩ = some (.slice a 0 c)) : Gives Try.prog 79 [.int .i64 x, ptrV b1] w (.bool true) := by
  refine .mk <| enter (n := 9) Try.func79 rfl rfl rfl (by repeat (first | exact Fill.nil | apply Fill.cons)) ?_
  refine cw_seq ?_
  refine cw_region ?_
  refine lstepB rfl rfl rfl (run_assign .const) ?_
  refine lnil ?_
  refine xw_then ?_
  refine cw_seq ?_
  refine cw_chain2 (σ := [0, 1, 2, 3, 4, 5]) [⟨0, [], [], [], 0⟩, ⟨0, [], [], [], 0⟩, ⟨1, [], [], [0], 2⟩, ⟨0, [], [], [], 7⟩, ⟨0, [], [], [], 15⟩, ⟨0, [], [], [], 31⟩] [] (by kernel_rfl) (by kernel_rfl) rfl ?_
  refine .det (B := []) rfl rfl (.inl rfl) .nil .nil rfl (RunB.lr (run_load1_at (.tmp rfl) kd69 (fun w' hS => hS.old_cell (fun h => h) hc))) ?_
  refine .det (B := []) rfl rfl (.inl rfl) .nil .nil rfl (RunB.lr (run_move (.tmp rfl))) ?_
  refine .ext (B := fun q => [(0, (q, _))]) rfl rfl (.inl rfl) .nil .nil (fun _ => rfl) ⟨0, trivial⟩ (lr_gives cb82 (.cons (.tmp rfl) .nil) (fun w2 hS => make101K _ w2)) ?_
  intro gM _
  refine .det (B := []) rfl rfl (.inl rfl) .nil .nil rfl (RunB.lr (run_call1 cb81 (.cons (.tmp rfl) (.cons (.tmp rfl) .nil)) (fun w2 _ => asked_nil _ _ _ w2))) ?_
  refine .det (B := []) rfl rfl (.inl rfl) .nil .nil rfl (RunB.lr (run_call1 cb80 (.cons (.tmp rfl) .nil) (fun w2 _ => hasWayN (n := 0) [] rfl none 0 w2 (fun s hs => by cases hs) (fun i r h => by simp at h) (by omega)))) ?_
  refine .det (B := []) rfl rfl (.inl rfl) .nil .nil rfl (RunB.lr (run_assign (.tmp rfl))) ?_
  refine chain_nil (ts := [0]) (.cons rfl .nil) (by decide) ?_
  refine xw_then ?_
  refine cw_ret ?_
  refine xw_ret1 Try.results79 rfl (fun w hS => ⟨rfl, hS.kept⟩)
set_option maxRecDepth 100000 in
set_option maxHeartbeats 4000000 in
theorem bend1_cons {l : List SpanD} (hl : FineC l) (hn1 : 1 ≤ l.length) (hn : l.length ≤ 100) (x : Int) (a : Option Addr) (c b1 : Nat) (w : World) (hc : w.cell? ⟨b1, 0, none⟩ = some (.slice a l.length c)) (hq : SpansAt w a l) : Gives Try.prog 79 [.int .i64 x, ptrV b1] w (.bool (canMost l x)) := by
  refine .mk <| enter (n := 9) Try.func79 rfl rfl rfl (by repeat (first | exact Fill.nil | apply Fill.cons)) ?_
  refine cw_seq ?_
  refine cw_region ?_
  refine lstepB rfl rfl rfl (run_assign .const) ?_
  refine lnil ?_
  refine xw_then ?_
  refine cw_seq ?_
  refine cw_chain2 (σ := [0, 1, 2, 3, 4, 5]) [⟨0, [], [], [], 0⟩, ⟨0, [], [], [], 0⟩, ⟨1, [], [], [0], 2⟩, ⟨1, [], [], [1], 7⟩, ⟨0, [1, 0], [], [], 15⟩, ⟨0, [], [], [], 31⟩] [] (by kernel_rfl) (by kernel_rfl) rfl ?_
  refine .det (B := []) rfl rfl (.inl rfl) .nil .nil rfl (RunB.lr (run_load1_at (.tmp rfl) kd69 (fun w' hS => hS.old_cell (fun h => h) hc))) ?_
  refine .det (B := []) rfl rfl (.inl rfl) .nil .nil rfl (RunB.lr (run_move (.tmp rfl))) ?_
  refine .ext (B := fun q => [(0, (q, _))]) rfl rfl (.inl rfl) .nil .nil (fun _ => rfl) ⟨0, trivial⟩ (lr_gives cb82 (.cons (.tmp rfl) .nil) (fun w2 hS => make101K _ w2)) ?_
  intro gM _
  refine .ext (B := fun q => [(1, (q.1, _))]) rfl rfl (.inl rfl) .nil .nil (fun _ => rfl) (inrow_asked hn) (lr_gives cb81 (.cons (.tmp rfl) (.cons (.tmp rfl) .nil)) (fun w2 hS => asked_cons l _ _ _ (mostB (x)) a c w2 hn1 hn (hq.kept hS.kept))) ?_
  rintro ⟨gS, cS, rS⟩ hS0
  refine .det (B := []) rfl rfl (.inl rfl) (.cons rfl (.cons rfl .nil)) .nil rfl (RunB.lr (run_call1 cb80 (.cons (.tmp rfl) .nil) (fun w2 hS => (hasWayN _ (askedL_length l _ _) _ _ w2 (asked_ok hl (pred_most (hS.cell (by repeat (first | exact List.Mem.head _ | apply List.Mem.tail)) rfl))) (spotsAt_row (hS.mem (by repeat (first | exact List.Mem.head _ | apply List.Mem.tail))) hS0) hn).as (by rw [wayL_asked])))) ?_
  refine .det (B := []) rfl rfl (.inl rfl) .nil .nil rfl (RunB.lr (run_assign (.tmp rfl))) ?_
  refine chain_nil (ts := [1, 0]) (.cons rfl (.cons rfl .nil)) (by decide) ?_
  refine xw_then ?_
  refine cw_ret ?_
  refine xw_ret1 Try.results79 rfl (fun w hS => ⟨rfl, hS.kept⟩)
theorem bend1K {l : List SpanD} (hl : FineC l) (hn : l.length ≤ 100) (x : Int) (a : Option Addr) (c b1 : Nat) (w : World) (hc : w.cell? ⟨b1, 0, none⟩ = some (.slice a l.length c)) (hq : SpansAt w a l) : Gives Try.prog 79 [.int .i64 x, ptrV b1] w (.bool (canMost l x)) := by
  cases l with
  | nil => exact bend1_nil x a c b1 w hc
  | cons s r => exact bend1_cons hl (by simp) hn x a c b1 w hc hq
theorem pred_bend {l : List SpanD} (hl : FineC l) (hn : l.length ≤ 100) {a : Option Addr} {c b1 : Nat} {w : World} (hc : w.cell? ⟨b1, 0, none⟩ = some (.slice a l.length c)) (hq : SpansAt w a l) (D : Int → Prop) : PredAt w (.func (.func 79) #[] [ptrV b1].toArray) (canMost l) D :=
  .inl ⟨79, _, rfl, cb79, fun w2 hb x _ => bend1K hl hn x a c b1 w2 (cell_kept' hc hb) (hq.kept hb)⟩
set_option maxRecDepth 100000 in
set_option maxHeartbeats 4000000 in
theorem bendK {l : List SpanD} (hl : FineC l) (a : Option Addr) (c : Nat) (w : World) (hn : l.length ≤ 100) (hp : SpansAt w a l) : Gives Try.prog 45 [.slice a l.length c] w (.agg (spanC (bendT l)).toArray) := by
  refine .mk <| enter (n := 20) Try.func45 rfl rfl rfl (by repeat (first | exact Fill.nil | apply Fill.cons)) ?_
  refine cw_seq ?_
  refine cw_region ?_
  refine lstep rfl rfl rfl (run_box1 (.tmp rfl) rfl) ?_
  intro b1 _
  refine lstep rfl rfl rfl (run_alloc zr67) ?_
  intro b2 _
  refine lnil ?_
  refine xw_then ?_
  refine cw_seq ?_
  refine cw_region ?_
  refine lstepB rfl rfl rfl (run_load1 (.tmp rfl) kd69 (by repeat (first | exact List.Mem.head _ | apply List.Mem.tail)) (by exact rfl)) ?_
  refine lstepB rfl rfl rfl (run_call1 cb77 (.cons (.tmp rfl) .nil) (fun w2 hS => boundsK hl a c w2 (by omega) (hp.kept hS.kept))) ?_
  have hbi := boundsN_in hl (k := l.length - 2) (by omega)
  unfold InB at hbi
  refine lstep rfl rfl rfl (run_alloc zr67) ?_
  intro b3 _
  refine lstep0 rfl rfl (run_storeN (.tmp rfl) (.tmp rfl) rfl sz67 rfl (by repeat (first | exact Upd.here | apply Upd.there)) (by repeat (first | exact Put.done | apply Put.put | apply Put.skip))) ?_
  refine lnil ?_
  refine xw_then ?_
  refine cw_seq ?_
  refine cw_region ?_
  refine lstepB rfl rfl rfl (run_loadN (.tmp rfl) kd67 sz67 (by repeat (first | exact List.Mem.head _ | apply List.Mem.tail)) (by repeat (first | exact Sub.done | apply Sub.take | apply Sub.skip))) ?_
  refine lcallN rfl cb78 (.cons (.tmp rfl) .nil) (F := fun (z0 : Nat) B0 w' => AllF ((boundsN l (l.length - 2)).lo) ((boundsN l (l.length - 2)).hi) z0 B0 w') (fun w _ => allK _ _ w) ?_
  rintro zx Bx wx hAx hlox hsx htx hx
  refine lstepB rfl rfl rfl (En.run_makeFunc .nil (.cons (.tmp rfl) .nil)) ?_
  refine lstepB rfl rfl rfl (run_call1 cb62 (.cons (.tmp rfl) (.cons (.tmp rfl) .nil)) (fun w2 hS => firstK (Cap := fun c => c = zx) cb100 (all_iter _ _ zx w2 (by omega) (hS.old_cell (fun h => absurd (hlox _ h) (by have := hAx.1; omega)) hAx.2.1) (hS.old_cell (fun h => absurd (hlox _ h) (by have := hAx.1; omega)) hAx.2.2)) (fun c hc => by subst hc; exact Nat.lt_of_lt_of_le (World.block_lt_of_cell? _ _ hAx.2.1) hS.size) (pred_bend hl hn (hS.cell (by repeat (first | exact List.Mem.head _ | apply List.Mem.tail)) rfl) (hp.kept (hx.join0 hS).kept) _))) ?_
  refine lstepB rfl rfl rfl (run_move (.tmp rfl)) ?_
  refine lstepB rfl rfl rfl (run_extract (.tmp rfl) rfl) ?_
  refine lstepB rfl rfl rfl (run_extract (.tmp rfl) rfl) ?_
  refine lstepB rfl rfl rfl (run_assign (.tmp rfl)) ?_
  refine lstepB rfl rfl rfl (run_assign (.tmp rfl)) ?_
  refine lnil ?_
  refine xw_then ?_
  refine cw_seq ?_
  refine cw_region ?_
  refine lstepB rfl rfl rfl (run_move (.tmp rfl)) ?_
  refine lstepB rfl rfl rfl (run_fieldAddr (.tmp rfl) fa67_0 (by first | exact Nat.zero_add _ | exact rfl)) ?_
  refine lstepB rfl rfl rfl (run_fieldAddr (.tmp rfl) fa28_1 (by first | exact Nat.zero_add _ | exact rfl)) ?_
  refine lstepB rfl rfl rfl (run_load1 (.tmp rfl) kd3 (by repeat (first | exact List.Mem.head _ | apply List.Mem.tail)) (by exact rfl)) ?_
  refine lstepB rfl rfl rfl (run_call1 cb83 (.cons (.tmp rfl) (.cons (.tmp rfl) .nil)) (fun w2 _ => betweenK _ _ w2)) ?_
  refine lstep0 rfl rfl (run_storeN (.tmp rfl) (.tmp rfl) rfl sz67 rfl (by repeat (first | exact Upd.here | apply Upd.there)) (by repeat (first | exact Put.done | apply Put.put | apply Put.skip))) ?_
  refine lnil ?_
  refine xw_then ?_
  refine cw_ret ?_
  refine xw_retC1 rfl rfl kd67 sz67 (by repeat (first | exact List.Mem.head _ | apply List.Mem.tail)) (by repeat (first | exact Sub.done | apply Sub.take | apply Sub.skip)) (fun w hS => ⟨rfl, (hx.join0 hS).kept⟩)
set_option maxRecDepth 100000 in
set_option maxHeartbeats 4000000 in
theorem straightest_nil (a : Option Addr) (c : Nat) (w : World) :
    CallsF Try.prog 55 (([.slice a 0 c] : List Value)).toArray w fun e w' => ∃ s : Nat × List Int, s.2.length = 0 ∧ e = .returned (.slice (some ⟨s.1, 0, none⟩) 0 0) ∧ St w NoT [(s.1, Obj.cells (intsV s.2).toArray 3 (0, 0))] w' := by
  refine enter (n := 17) Try.func55 rfl rfl rfl (by repeat (first | exact Fill.nil | apply Fill.cons)) ?_
  refine cw_seq ?_
  refine cw_region ?_
  refine lstepB rfl rfl rfl (run_assign .const) ?_
  refine lnil ?_
  refine xw_then ?_
  refine cw_seq ?_
  refine cw_region ?_
  refine lstepB rfl rfl rfl (run_move (.tmp rfl)) ?_
  refine lstepB rfl rfl rfl (run_move (.tmp rfl)) ?_
  refine lstepB rfl rfl rfl (run_call1 cb45 (.cons (.tmp rfl) .nil) (fun w2 hS => bendK (l := []) (fun s hs => by cases hs) a c w2 (by simp) (fun i r h => by simp at h))) ?_
  refine lstepB rfl rfl rfl (run_fieldN (.tmp rfl) ft67_0 kd28 sz28 (by repeat (first | exact Sub.done | apply Sub.take | apply Sub.skip))) ?_
  refine lstepB rfl rfl rfl (run_field1 (.tmp rfl) ft28_0 kd3 (by exact rfl)) ?_
  refine lstep rfl rfl rfl (LR.runs (R := []) (A := []) (lr_gives cb82 (.cons (.tmp rfl) .nil) (fun w2 hS => make101K _ w2)) (by repeat (first | exact Pick.nil | (apply Pick.cons; focus (repeat (first | exact Del.here | apply Del.there))))) (by repeat (first | exact Dels.nil | (apply Dels.cons; focus (repeat (first | exact Del.here | apply Del.there)))))) ?_
  intro gM _
  refine lstepB rfl rfl rfl (run_call1 cb81 (.cons (.tmp rfl) (.cons (.tmp rfl) .nil)) (fun w2 _ => asked_nil _ _ _ w2)) ?_
  refine lstep rfl rfl rfl (LR.runs (R := []) (A := []) (lr_gives cb89 (.cons (.tmp rfl) .nil) (fun w2 hS => wayN (n := 0) [] rfl none 0 w2 (fun s hs => by cases hs) (fun i r h => by simp at h) (by omega))) (by repeat (first | exact Pick.nil | (apply Pick.cons; focus (repeat (first | exact Del.here | apply Del.there))))) (by repeat (first | exact Dels.nil | (apply Dels.cons; focus (repeat (first | exact Del.here | apply Del.there)))))) ?_
  intro ⟨gO, o2⟩ hO
  refine lstepB rfl rfl rfl (run_move (.tmp rfl)) ?_
  refine lstepB rfl rfl rfl (run_extract (.tmp rfl) rfl) ?_
  refine lstepB rfl rfl rfl (run_extract (.tmp rfl) rfl) ?_
  refine lstepB rfl rfl rfl (run_assign (.tmp rfl)) ?_
  refine lstepB rfl rfl rfl (run_assign (.tmp rfl)) ?_
  refine lnil ?_
  refine xw_then ?_
  refine cw_seq ?_
  refine cw_region ?_
  refine lstepB rfl rfl rfl (run_move (.tmp rfl)) ?_
  refine lstepB rfl rfl rfl (run_assign (.tmp rfl)) ?_
  refine lnil ?_
  refine xw_then ?_
  refine cw_ret ?_
  refine xw_ret1 Try.results55 rfl (fun w hS => ⟨(gO, o2), hO.1, rfl, hS.pick (by repeat (first | exact Pick.nil | (apply Pick.cons; focus (repeat (first | exact Del.here | apply Del.there)))))⟩)
set_option maxRecDepth 100000 in
set_option maxHeartbeats 4000000 in
theorem straightest_cons {l : List SpanD} (hl : FineC l) (hn1 : 1 ≤ l.length) (hn : l.length ≤ 100) (a : Option Addr) (c : Nat) (w : World) (hq : SpansAt w a l) :
    CallsF Try.prog 55 (([.slice a l.length c] : List Value)).toArray w fun e w' => ∃ s : Nat × List Int, (s.2.length = l.length ∧ ∀ t, wayS l (mostB (bendT l).lo) = some t → s.2 = t) ∧ e = .returned (.slice (some ⟨s.1, 0, none⟩) l.length l.length) ∧ St w NoT [(s.1, Obj.cells (intsV s.2).toArray 3 (0, 0))] w' := by
  refine enter (n := 17) Try.func55 rfl rfl rfl (by repeat (first | exact Fill.nil | apply Fill.cons)) ?_
  refine cw_seq ?_
  refine cw_region ?_
  refine lstepB rfl rfl rfl (run_assign .const) ?_
  refine lnil ?_
  refine xw_then ?_
  refine cw_seq ?_
  refine cw_region ?_
  refine lstepB rfl rfl rfl (run_move (.tmp rfl)) ?_
  refine lstepB rfl rfl rfl (run_move (.tmp rfl)) ?_
  refine lstepB rfl rfl rfl (run_call1 cb45 (.cons (.tmp rfl) .nil) (fun w2 hS => bendK hl a c w2 hn (hq.kept hS.kept))) ?_
  refine lstepB rfl rfl rfl (run_fieldN (.tmp rfl) ft67_0 kd28 sz28 (by repeat (first | exact Sub.done | apply Sub.take | apply Sub.skip))) ?_
  refine lstepB rfl rfl rfl (run_field1 (.tmp rfl) ft28_0 kd3 (by exact rfl)) ?_
  refine lstep rfl rfl rfl (LR.runs (R := []) (A := []) (lr_gives cb82 (.cons (.tmp rfl) .nil) (fun w2 hS => make101K _ w2)) (by repeat (first | exact Pick.nil | (apply Pick.cons; focus (repeat (first | exact Del.here | apply Del.there))))) (by repeat (first | exact Dels.nil | (apply Dels.cons; focus (repeat (first | exact Del.here | apply Del.there)))))) ?_
  intro gM _
  refine lstep rfl rfl rfl (LR.runs (R := []) (A := []) (lr_gives cb81 (.cons (.tmp rfl) (.cons (.tmp rfl) .nil)) (fun w2 hS => asked_cons l _ _ _ (mostB (bendT l).lo) a c w2 hn1 hn (hq.kept hS.kept))) (by repeat (first | exact Pick.nil | (apply Pick.cons; focus (repeat (first | exact Del.here | apply Del.there))))) (by repeat (first | exact Dels.nil | (apply Dels.cons; focus (repeat (first | exact Del.here | apply Del.there)))))) ?_
  intro ⟨gS, cS, rS⟩ hS0
  refine lstep rfl rfl rfl (LR.runs (R := [(gS, Obj.cells rS.toArray 124 (0, 0)), (gM, Obj.cells [.int .i64 (bendT l).lo].toArray 3 (0, 0))]) (A := []) (lr_gives cb89 (.cons (.tmp rfl) .nil) (fun w2 hS => wayN _ (askedL_length l _ _) _ _ w2 (asked_ok hl (pred_most (hS.cell (by repeat (first | exact List.Mem.head _ | apply List.Mem.tail)) rfl))) (spotsAt_row (hS.mem (by repeat (first | exact List.Mem.head _ | apply List.Mem.tail))) hS0) hn)) (by repeat (first | exact Pick.nil | (apply Pick.cons; focus (repeat (first | exact Del.here | apply Del.there))))) (by repeat (first | exact Dels.nil | (apply Dels.cons; focus (repeat (first | exact Del.here | apply Del.there)))))) ?_
  intro ⟨gO, o2⟩ hO
  refine lstepB rfl rfl rfl (run_move (.tmp rfl)) ?_
  refine lstepB rfl rfl rfl (run_extract (.tmp rfl) rfl) ?_
  refine lstepB rfl rfl rfl (run_extract (.tmp rfl) rfl) ?_
  refine lstepB rfl rfl rfl (run_assign (.tmp rfl)) ?_
  refine lstepB rfl rfl rfl (run_assign (.tmp rfl)) ?_
  refine lnil ?_
  refine xw_then ?_
  refine cw_seq ?_
  refine cw_region ?_
  refine lstepB rfl rfl rfl (run_move (.tmp rfl)) ?_
  refine lstepB rfl rfl rfl (run_assign (.tmp rfl)) ?_
  refine lnil ?_
  refine xw_then ?_
  refine cw_ret ?_
  refine xw_ret1 Try.results55 rfl (fun w hS => ⟨(gO, o2), ⟨hO.1, fun t ht => hO.2 t (by rw [wayL_asked]; exact ht)⟩, rfl, hS.pick (by repeat (first | exact Pick.nil | (apply Pick.cons; focus (repeat (first | exact Del.here | apply Del.there)))))⟩)
theorem straightestK {l : List SpanD} (hl : FineC l) (hn : l.length ≤ 100) (a : Option Addr) (c : Nat) (w : World) (hq : SpansAt w a l) :
    CallsF Try.prog 55 (([.slice a l.length c] : List Value)).toArray w fun e w' => ∃ s : Nat × List Int, (s.2.length = l.length ∧ ∀ t, wayS l (mostB (bendT l).lo) = some t → s.2 = t) ∧ e = .returned (.slice (some ⟨s.1, 0, none⟩) l.length l.length) ∧ St w NoT [(s.1, Obj.cells (intsV s.2).toArray 3 (0, 0))] w' := by
  cases l with
  | nil => exact (straightest_nil a c w).mono fun e w' ⟨s, h1, h2, h3⟩ => ⟨s, ⟨h1, fun t ht => by cases ht; exact List.eq_nil_of_length_eq_zero h1⟩, h2, h3⟩
  | cons s r => exact straightest_cons hl (by simp) hn a c w hq
end Go.Proofs.Ytjdeplehhmhpcaa
