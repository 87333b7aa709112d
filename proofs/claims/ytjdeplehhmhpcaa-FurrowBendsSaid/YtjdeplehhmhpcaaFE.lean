/- Package furrow: spots, and whether a way can go on. -/
import Derived.Test.YtjdeplehhmhpcaaFB
namespace Go.Proofs.Ytjdeplehhmhpcaa
open Go.RowKit En

structure SpotD where
  lo : Int
  hi : Int
  fn : Value
  ok : Int → Bool
instance : Inhabited SpotD := ⟨⟨0, 0, .nilFunc, fun _ => false⟩⟩
abbrev spotC (s : SpotD) : List Value := [.int .i64 s.lo, .int .i64 s.hi, s.fn]
abbrev SpotsAt (w : World) (a : Option Addr) (l : List SpotD) : Prop := RowsAt w a 3 (l.map spotC)
theorem SpotsAt.spot {w : World} {a : Option Addr} {l : List SpotD} (h : SpotsAt w a l) (hn : 0 < l.length) : ∃ b o, a = some ⟨b, o, none⟩ ∧ b < w.heap.size ∧ ∀ i s, l[i]? = some s → ∀ j v, (spotC s)[j]? = some v → w.cell? ⟨b, o + i * 3 + j, none⟩ = some v := by
  obtain ⟨b, o, e, hlt, hc⟩ := RowsAt.at_ h (by simpa using hn)
  exact ⟨b, o, e, hlt, fun i p hi => hc i _ (by simp [hi])⟩
def InB (x : Int) : Prop := 0 ≤ x ∧ x ≤ 4000
structure SpotOk (w : World) (s : SpotD) : Prop where
  lo : -900 ≤ s.lo
  hi : s.hi ≤ 900
  fn : PredAt w s.fn s.ok InB
/-- May a way go on with an offset? -/
def letsB (l : List SpotD) (k : Nat) (a b o : Int) : Bool := if k < 2 then true else (l.getD (k - 1) default).ok (bendI a b o)
/-- The first offsets from a place on that suit. -/
def goes (l : List SpotD) : Nat → Nat → Int → Int → Option (List Int)
  | 0, _, _, _ => some []
  | d + 1, k, a, b => (upL (l.getD k default).lo (l.getD k default).hi).findSome? fun o => if letsB l k a b o then (goes l d (k + 1) b o).map (o :: ·) else none
theorem bendI_in {a b c : Int} (ha : -900 ≤ a ∧ a ≤ 900) (hb : -900 ≤ b ∧ b ≤ 900) (hc : -900 ≤ c ∧ c ≤ 900) : InB (bendI a b c) := by unfold InB bendI; omega
abbrev placeK (k : Nat) (a b : Int) : Value := .agg [.int .i64 (k : Int), .int .i64 a, .int .i64 b].toArray
set_option maxRecDepth 100000 in
set_option maxHeartbeats 4000000 in
theorem letsK (l : List SpotD) (k : Nat) (a b o : Int) (sa : Option Addr) (sc : Nat) (W0 w : World) (hB : Below W0.heap.size W0 w) (hp : SpotsAt W0 sa l) (hl : ∀ s ∈ l, SpotOk W0 s) (hk : k < l.length) (hn : l.length ≤ 1000) (ha : -900 ≤ a ∧ a ≤ 900) (hb : -900 ≤ b ∧ b ≤ 900) (ho : -900 ≤ o ∧ o ≤ 900) :
    Gives Try.prog 103 [placeK k a b, .slice sa l.length sc, .int .i64 o] w (.bool (letsB l k a b o)) := by
  unfold letsB
  refine .mk <| enter (n := 26) Try.func103 rfl rfl rfl (by repeat (first | exact Fill.nil | apply Fill.cons)) ?_
  refine cw_seq ?_
  refine cw_region ?_
  refine lstep rfl rfl rfl (run_boxN (.tmp rfl)) ?_
  intro b3 _
  refine lstepB rfl rfl rfl (run_assign .const) ?_
  refine lnil ?_
  refine xw_then ?_
  refine cw_seq ?_
  refine cw_seq ?_
  refine cw_region ?_
  refine lstepB rfl rfl rfl (run_fieldAddr (.tmp rfl) fa129_0 (by first | exact Nat.zero_add _ | exact rfl)) ?_
  refine lstepB rfl rfl rfl (run_load1 (.tmp rfl) kd3 (by repeat (first | exact List.Mem.head _ | apply List.Mem.tail)) (by exact rfl)) ?_
  refine lstepB rfl rfl rfl (run_lss (.tmp rfl) .const rfl) ?_
  refine lnil ?_
  refine xw_then ?_
  refine cw_cond_p (.tmp rfl) (fun hk2 => ?_) (fun hk2 => ?_)
  ·
    rw [if_pos (by omega : k < 2)]
    refine cw_seq ?_
    refine cw_region ?_
    refine lstepB rfl rfl rfl (run_assign .const) ?_
    refine lnil ?_
    refine xw_then ?_
    refine cw_ret ?_
    refine xw_then_ret ?_
    refine xw_ret1 Try.results103 rfl (fun w hS => ⟨rfl, hS.kept⟩)
  ·
    rw [if_neg (by omega : ¬ k < 2)]
    obtain ⟨b0, o0, rfl, hb0, hc0⟩ := hp.spot (by omega)
    obtain ⟨s, hs⟩ : ∃ s, l[k - 1]? = some s := ⟨_, List.getElem?_eq_getElem (by omega)⟩
    have hso := hl s (List.mem_of_getElem? hs)
    have hgd : l.getD (k - 1) default = s := by rw [List.getD_eq_getElem?_getD, hs]; rfl
    rw [hgd]
    refine cw_skip ?_
    refine xw_then ?_
    refine cw_seq ?_
    refine cw_chain2 (σ := [0, 1, 2, 3, 4, 5, 6, 7, 8, 9, 10, 11, 12, 13, 14, 15, 16]) [⟨0, [], [], [], 0⟩, ⟨0, [], [], [], 0⟩, ⟨0, [0], [], [], 2⟩, ⟨0, [], [], [], 6⟩, ⟨0, [], [], [], 15⟩, ⟨0, [], [], [], 31⟩, ⟨0, [], [], [], 63⟩, ⟨0, [], [], [], 0⟩, ⟨0, [], [], [], 128⟩, ⟨0, [0], [], [], 384⟩, ⟨0, [], [], [], 0⟩, ⟨0, [], [], [], 1024⟩, ⟨0, [0], [], [], 3072⟩, ⟨0, [], [], [], 0⟩, ⟨0, [], [], [], 16256⟩, ⟨0, [], [], [], 32767⟩, ⟨0, [], [], [], 65535⟩] [(0, _)] (by kernel_rfl) (by kernel_rfl) rfl ?_
    refine .det (B := []) rfl rfl (.inl rfl) .nil .nil rfl (RunB.lr (run_move (.tmp rfl))) ?_
    refine .det (B := []) rfl rfl (.inl rfl) .nil .nil rfl (RunB.lr (run_fieldAddr (.tmp rfl) fa129_0 (by first | exact Nat.zero_add _ | exact rfl))) ?_
    refine .det (B := []) rfl rfl (.inl rfl) (.cons rfl .nil) .nil rfl (RunB.lr (run_load1 (.tmp rfl) kd3 (by repeat (first | exact List.Mem.head _ | apply List.Mem.tail)) (by exact rfl))) ?_
    refine .det (B := []) rfl rfl (.inl rfl) .nil .nil rfl (RunB.lr (run_sub (c := ((k - 1 : Nat) : Int)) (.tmp rfl) .const (by rw [show ((k - 1 : Nat) : Int) = (k : Int) - 1 by omega]; exact IntWalk.i64_in _ (by omega)))) ?_
    refine .det (B := []) rfl rfl (.inl rfl) .nil .nil rfl (RunB.lr (run_indexAddr (i := k - 1) (off' := o0 + (k - 1) * 3) (.tmp rfl) (.tmp rfl) el108 (by omega) rfl)) ?_
    refine .det (B := []) rfl rfl (.inl rfl) .nil .nil rfl (RunB.lr (run_fieldAddr (.tmp rfl) fa124_1 (by first | exact Nat.zero_add _ | exact rfl))) ?_
    refine .det (B := []) rfl rfl (.inl rfl) .nil .nil rfl (RunB.lr (run_load1_at (.tmp rfl) kd76 (fun w' hS => hS.old_cell (fun h => h) ((cell_kept hB hb0).trans (hc0 _ _ hs 2 _ rfl))))) ?_
    refine .det (B := []) rfl rfl (.inl rfl) .nil .nil rfl (RunB.lr (run_fieldAddr (.tmp rfl) fa129_1 (by first | exact Nat.zero_add _ | exact rfl))) ?_
    refine .det (B := []) rfl rfl (.inl rfl) .nil .nil rfl (RunB.lr (run_indexAddr_arr (i := 0) (.tmp rfl) (.const (v := .int .i64 ((0 : Nat) : Int))) ar127 (by omega) rfl)) ?_
    refine .det (B := []) rfl rfl (.inl rfl) (.cons rfl .nil) .nil rfl (RunB.lr (run_load1 (.tmp rfl) kd3 (by repeat (first | exact List.Mem.head _ | apply List.Mem.tail)) (by exact rfl))) ?_
    refine .det (B := []) rfl rfl (.inl rfl) .nil .nil rfl (RunB.lr (run_fieldAddr (.tmp rfl) fa129_1 (by first | exact Nat.zero_add _ | exact rfl))) ?_
    refine .det (B := []) rfl rfl (.inl rfl) .nil .nil rfl (RunB.lr (run_indexAddr_arr (i := 1) (.tmp rfl) (.const (v := .int .i64 ((1 : Nat) : Int))) ar127 (by omega) rfl)) ?_
    refine .det (B := []) rfl rfl (.inl rfl) (.cons rfl .nil) .nil rfl (RunB.lr (run_load1 (.tmp rfl) kd3 (by repeat (first | exact List.Mem.head _ | apply List.Mem.tail)) (by exact rfl))) ?_
    refine .det (B := []) rfl rfl (.inl rfl) .nil .nil rfl (RunB.lr (run_move (.tmp rfl))) ?_
    refine .det (B := []) rfl rfl (.inl rfl) .nil .nil rfl (RunB.lr (run_call1 cb85 (.cons (.tmp rfl) (.cons (.tmp rfl) (.cons (.tmp rfl) .nil))) (fun w2 _ => bendOfK _ _ _ w2 (by omega) (by omega) (by omega)))) ?_
    refine .det (B := []) rfl rfl (.inl rfl) .nil .nil rfl (RunB.lr (run_pred hso.fn (.tmp rfl) (.tmp rfl) (bendI_in ha hb ho) (fun w2 hS => hB.trans (hS.kept.mono hB.size)))) ?_
    refine .det (B := []) rfl rfl (.inl rfl) .nil .nil rfl (RunB.lr (run_assign (.tmp rfl))) ?_
    refine chain_nil (ts := [0]) (.cons rfl .nil) (by decide) ?_
    refine xw_then ?_
    refine cw_ret ?_
    refine xw_ret1 Try.results103 rfl (fun w hS => ⟨rfl, hS.kept⟩)
end Go.Proofs.Ytjdeplehhmhpcaa
