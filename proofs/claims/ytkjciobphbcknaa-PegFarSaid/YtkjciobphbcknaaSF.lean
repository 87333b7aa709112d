/- The document's own answers: all truths. -/
import Derived.Test.YtkjciobphbcknaaSE
import Derived.Test.YtkjciobphbcknaaRC
import Derived.Test.YtkjciobphbcknaaEV
namespace Go.Proofs.Ytkjciobphbcknaa
open Go.RowKit En

theorem pegK (side i : Int) (pa la : Option Addr) (pl pc ll lc : Nat) (w : World) (hm : pl ≤ 9223372036854775807) : Gives Try.prog 36 [.agg [.int .i64 side, .slice pa pl pc, .slice la ll lc].toArray, .int .i64 i] w (.bool (isPegB pl i)) :=
  ⟨(rPeg_any side i pa la pl pc ll lc w hm).mono fun _ _ ⟨h, e⟩ => ⟨h, e⟩⟩
theorem validK (p : PegsD) (pa la : Option Addr) (pc lc : Nat) (w : World) (hm : p.ps.length ≤ 9223372036854775807) (hm2 : p.ls.length ≤ 9223372036854775807) (hp : PegsIn w p pa la) : Gives Try.prog 35 [.agg [.int .i64 p.side, .slice pa p.ps.length pc, .slice la p.ls.length lc].toArray] w (.bool (validB p)) :=
  ⟨(rvalid_any p pa la pc lc w hm hm2 hp).mono fun _ _ ⟨h, e⟩ => ⟨h, e⟩⟩
def QlsLo (lo : Nat) (w : World) (pa : Option Addr) (L : List Pl) : Prop := ∀ i s, L[i]? = some s → ∃ b o, pa = some ⟨b, o, none⟩ ∧ lo ≤ b ∧ w.cell? ⟨b, o + i * 2, none⟩ = some (.int .i64 s.x) ∧ w.cell? ⟨b, o + i * 2 + 1, none⟩ = some (.int .i64 s.y)
/-- Truths that lie in memory, not below a block. -/
def TruthsIn (lo : Nat) (w : World) (oa : Option Addr) (L : List (List Pl × Int)) : Prop :=
  ∀ i x, L[i]? = some x → ∃ b pa c, oa = some ⟨b, 0, none⟩ ∧ lo ≤ b ∧ w.cell? ⟨b, i * 2, none⟩ = some (.slice pa x.1.length c) ∧ w.cell? ⟨b, i * 2 + 1, none⟩ = some (.int .i64 x.2) ∧ QlsLo lo w pa x.1
theorem QlsLo.of {lo : Nat} {w : World} {o : Option RowO} {l : List Pl} (hr : rowIs o 2 l.length (qlCells l)) (h : ∀ z, z ∈ rowH o 52 → w.heap[z.1]? = some z.2 ∧ lo ≤ z.1) : QlsLo lo w (rowA o) l := fun i s hs => by
  obtain ⟨b, off, e, _, c1, c2⟩ := pls_of_rowO rfl (fun z hz => (h z hz).1) hr i s hs
  refine ⟨b, off, e, ?_, c1, c2⟩
  cases o with
  | none => cases e
  | some r =>
    simp only [rowA, Option.map_some, Option.some.injEq, Addr.mk.injEq] at e
    have := (h (r.g, Obj.cells r.r.toArray 52 (0, 0)) (by simp [rowH])).2
    simp only at this; omega
theorem TruthsIn.of {lo : Nat} {w : World} {K : Heap} {o : Option RowO} {n : Nat} {xs : List Value} {L : List (List Pl × Int)} (hb : ∀ z, z ∈ rowH o 84 → w.heap[z.1]? = some z.2 ∧ lo ≤ z.1) (hr : rowIs o 2 n xs) (h : Elems K xs L) (hK : ∀ z, z ∈ K → w.heap[z.1]? = some z.2 ∧ lo ≤ z.1) : TruthsIn lo w (rowA o) L := fun i x hx => by
  obtain ⟨v, h1, h2, q, rfl, h4, h5⟩ := h.get hx
  cases o with
  | none => obtain ⟨_, e⟩ := hr; rw [e] at h1; simp at h1
  | some r =>
    obtain ⟨hh, hl⟩ := hb (r.g, Obj.cells r.r.toArray 84 (0, 0)) (by simp [rowH])
    have d1 := InRow.get hr h1
    have d2 := InRow.get hr h2
    refine ⟨r.g, rowA q, rowC q, rfl, hl, ?_, ?_, QlsLo.of h4 fun z hz => hK z (h5 z hz)⟩
    · simp only [World.cell?, hh]; rw [rowV_eq h4] at d1; simpa using d1
    · simp only [World.cell?, hh]; simpa using d2
theorem old_of {lo : Nat} {w w2 : World} {Hs H : Heap} (hS : St w (blk Hs) H w2) (hlo : ∀ b, blk Hs b → b < lo) {b o : Nat} {v : Value} (hb : lo ≤ b) (hc : w.cell? ⟨b, o, none⟩ = some v) : w2.cell? ⟨b, o, none⟩ = some v :=
  hS.old_cell (fun h => by have := hlo b h; omega) hc
theorem QlsLo.st {lo : Nat} {w w2 : World} {Hs H : Heap} {pa : Option Addr} {L : List Pl} (h : QlsLo lo w pa L) (hS : St w (blk Hs) H w2) (hlo : ∀ b, blk Hs b → b < lo) {lo2 : Nat} (hle : lo2 ≤ lo) : QlsLo lo2 w2 pa L := fun i s hs => by
  obtain ⟨b, o, e, hb, c1, c2⟩ := h i s hs
  exact ⟨b, o, e, by omega, old_of hS hlo hb c1, old_of hS hlo hb c2⟩
theorem TruthsIn.st {lo : Nat} {w w2 : World} {Hs H : Heap} {oa : Option Addr} {L : List (List Pl × Int)} (h : TruthsIn lo w oa L) (hS : St w (blk Hs) H w2) (hlo : ∀ b, blk Hs b → b < lo) {lo2 : Nat} (hle : lo2 ≤ lo) : TruthsIn lo2 w2 oa L := fun i x hx => by
  obtain ⟨b, pa, c, e, hb, c1, c2, q⟩ := h i x hx
  exact ⟨b, pa, c, e, by omega, old_of hS hlo hb c1, old_of hS hlo hb c2, q.st hS hlo hle⟩
theorem blk_lt {w0 w : World} {T : Nat → Prop} {H : Heap} (h : St w0 T H w) : ∀ b, blk H b → b < w.heap.size := fun b ⟨x, hx, e⟩ => e ▸ h.lt hx
theorem tin_start {w : World} {p : PegsD} {pa la : Option Addr} (h : PegsIn w p pa la) : TIn w p pa la none none [] 0 [] :=
  ⟨⟨rfl, rfl⟩, ⟨rfl, rfl⟩, fun z hz => (List.not_mem_nil hz).elim, fun w' hS => ⟨h.kept ⟨hS.os, hS.tape, hS.output, hS.size, fun b hb => hS.old b hb (fun ⟨x, hx, _⟩ => (List.not_mem_nil hx).elim)⟩, fun z hz => (List.not_mem_nil hz).elim⟩⟩
theorem allS_len {p : PegsD} (hf : Fit p) (h8 : p.side ≤ 8) (h3 : p.ps.length ≤ 3) (set : Nat) : (allS p set).length ≤ 1000000 := by
  have h := truthsS_len p set hf.s0 h8 p.ps.length [] (-1)
  have : (81 : Nat) ^ p.ps.length ≤ 81 ^ 3 := Nat.pow_le_pow_right (by omega) h3
  unfold allS; omega
/-- What open tells. -/
def openR (p : PegsD) (v : Bool) : Except Int (List (List Pl × Int)) := if validB p = false then .error 1 else if v = false then .error 2 else if allF p = [] then .error 10 else .ok (allF p)

theorem all_own {w w' : World} {H : Heap} (h : St w NoT H w') (z : Nat × Obj) (hz : z ∈ H) : w'.heap[z.1]? = some z.2 ∧ w.heap.size ≤ z.1 := ⟨(h.own z hz).1, (h.own z hz).2.resolve_right fun q => q⟩
set_option maxRecDepth 100000 in
set_option maxHeartbeats 4000000 in
theorem allK {p : PegsD} {pa la : Option Addr} (hf : Fit p) (h8 : p.side ≤ 8) (h3 : p.ps.length ≤ 3) (pc lc set : Nat) (hset : set < 1000000) (w : World) (hp : PegsIn w p pa la) :
    Calls Try.prog 80 [.agg [.int .i64 p.side, .slice pa p.ps.length pc, .slice la p.ls.length lc].toArray, .int .i64 (set : Int)].toArray w fun e w' => ∃ s : Option Addr × Nat, TruthsIn w.heap.size w' s.1 (allS p set) ∧ e = .returned (.slice s.1 (allS p set).length s.2) ∧ Below w.heap.size w w'  := by
  refine enter (n := 9) Try.func80 rfl rfl rfl (by repeat (first | exact Fill.nil | apply Fill.cons)) ?_
  refine cw_seq ?_
  refine cw_region ?_
  refine lstep rfl rfl rfl (run_boxN (.tmp rfl)) ?_
  intro b2 _
  refine lstepB rfl rfl rfl (run_assign .const) ?_
  refine lnil ?_
  refine xw_then ?_
  refine cw_seq ?_
  refine cw_region ?_
  refine lstepB rfl rfl rfl (run_loadN (.tmp rfl) kd25 sz25 (by repeat (first | exact List.Mem.head _ | apply List.Mem.tail)) (by repeat (first | exact Sub.done | apply Sub.take | apply Sub.skip))) ?_
  refine lstepB rfl rfl rfl (run_move (.tmp rfl)) ?_
  refine lstepB rfl rfl rfl (run_build_at (.cons .const (.cons .const .nil)) (fun w => bd84_0_1 w)) ?_
  refine lstep rfl rfl rfl (LR.runsP (R := []) (A := []) (H2 := [(b2, Obj.cells [.int .i64 p.side, .slice pa p.ps.length pc, .slice la p.ls.length lc].toArray 25 (0, 0))]) (lr_call (X := TR) (F := fun s => rowIs s.o 2 (0 + (allS p set).length) ([] ++ s.xs) ∧ Elems ([] ++ s.R) s.xs (allS p set)) (r := fun s => .slice (rowA s.o) (0 + (allS p set).length) (rowC s.o)) (B := fun s => rowH s.o 84 ++ s.R) cb94 (.cons (.tmp rfl) (.cons (.tmp rfl) (.cons (.tmp rfl) (.cons .const .nil)))) (fun w' hR hA => truthsK hf h8 pc lc set hset p.ps.length none none [] 0 [] w' (-1) (tin_start (hp.kept hR.kept)) (Nat.zero_add _) (fun s hs => (List.not_mem_nil hs).elim) (by have := allS_len hf h8 h3 set; unfold allS at this; omega))) .nil (List.Perm.refl _)) ?_
  intro s hs
  refine lstepB rfl rfl rfl (run_assign (.tmp rfl)) ?_
  refine lnil ?_
  refine xw_then ?_
  refine cw_ret ?_
  refine xw_ret1 Try.results80 rfl (fun w' hS => ⟨(rowA s.o, rowC s.o), TruthsIn.of (fun z hz => all_own hS z (by simp only [List.mem_append]; exact .inl (.inl hz))) hs.1 hs.2 (fun z hz => all_own hS z (by simp only [List.mem_append]; exact .inl (.inr (by simpa using hz)))), by rw [Nat.zero_add], hS.kept⟩)
theorem openR_arg {p : PegsD} {v : Bool} {m : Int} (h : openR p v = .error m) : (validB p = false ∧ m = 1) ∨ (validB p = true ∧ v = false ∧ m = 2) ∨ (validB p = true ∧ v = true ∧ allF p = [] ∧ m = 10) := by
  unfold openR at h
  cases hv : validB p
  · rw [if_pos hv] at h; cases h; exact .inl ⟨rfl, rfl⟩
  · rw [if_neg (by simp [hv])] at h
    cases v
    · rw [if_pos rfl] at h; cases h; exact .inr (.inl ⟨rfl, rfl, rfl⟩)
    · rw [if_neg (by simp)] at h
      split at h
      · cases h; exact .inr (.inr ⟨rfl, rfl, by assumption, rfl⟩)
      · cases h
theorem openR_ok {p : PegsD} {v : Bool} {L : List (List Pl × Int)} (h : openR p v = .ok L) : validB p = true ∧ v = true ∧ L = allF p ∧ allF p ≠ [] := by
  unfold openR at h
  cases hv : validB p
  · rw [if_pos hv] at h; cases h
  · rw [if_neg (by simp [hv])] at h
    cases v
    · rw [if_pos rfl] at h; cases h
    · rw [if_neg (by simp)] at h
      split at h
      · cases h
      · cases h; exact ⟨rfl, rfl, rfl, by assumption⟩
set_option maxRecDepth 100000 in
set_option maxHeartbeats 4000000 in
theorem openErr {p : PegsD} {pa la : Option Addr} {v : Bool} {m : Int} (ho : openR p v = .error m) (pc lc : Nat) (hm : p.ps.length ≤ 9223372036854775807) (hm2 : p.ls.length ≤ 9223372036854775807) (h8 : validB p = true → p.side ≤ 8) (h3 : validB p = true → p.ps.length ≤ 3) (w : World) (hp : PegsIn w p pa la) :
    Gives Try.prog 47 [.agg [.int .i64 p.side, .slice pa p.ps.length pc, .slice la p.ls.length lc].toArray, .bool v] w (.tuple [.slice none 0 0, .int .i64 m].toArray) := by
  rcases openR_arg ho with ⟨hv, rfl⟩ | ⟨hv, rfl, rfl⟩ | ⟨hv, rfl, he, rfl⟩
  ·
    have hd : True := trivial
    refine .mk <| enter (n := 20) Try.func47 rfl rfl rfl (by repeat (first | exact Fill.nil | apply Fill.cons)) ?_
    refine cw_seq ?_
    refine cw_region ?_
    refine lstep rfl rfl rfl (run_boxN (.tmp rfl)) ?_
    intro b2 _
    refine lstepB rfl rfl rfl (run_assign .const) ?_
    refine lstepB rfl rfl rfl (run_assign .const) ?_
    refine lnil ?_
    refine xw_then ?_
    refine cw_seq ?_
    refine cw_seq ?_
    refine cw_region ?_
    refine lstepB rfl rfl rfl (run_loadN (.tmp rfl) kd25 sz25 (by repeat (first | exact List.Mem.head _ | apply List.Mem.tail)) (by repeat (first | exact Sub.done | apply Sub.take | apply Sub.skip))) ?_
    refine lstepB rfl rfl rfl (run_call1 cb35 (.cons (.tmp rfl) .nil) (fun w' hS => (validK p pa la pc lc w' hm hm2 (hp.kept hS.kept)).as (congrArg Value.bool hv))) ?_
    refine lstepB rfl rfl rfl (run_not (.tmp rfl) (by first | exact Bool.not_true | exact Bool.not_false | exact rfl)) ?_
    refine lnil ?_
    refine xw_then ?_
    refine cw_cond_true (.tmp rfl) ?_
    refine cw_seq ?_
    refine cw_region ?_
    refine lstepB rfl rfl rfl (run_assign .const) ?_
    refine lstepB rfl rfl rfl (run_assign .const) ?_
    refine lnil ?_
    refine xw_then ?_
    refine cw_ret ?_
    refine xw_then_ret ?_
    refine xw_ret2 Try.results47 rfl rfl (fun w' hS => ⟨rfl, hS.kept⟩)
  ·
    have hd : True := trivial
    refine .mk <| enter (n := 20) Try.func47 rfl rfl rfl (by repeat (first | exact Fill.nil | apply Fill.cons)) ?_
    refine cw_seq ?_
    refine cw_region ?_
    refine lstep rfl rfl rfl (run_boxN (.tmp rfl)) ?_
    intro b2 _
    refine lstepB rfl rfl rfl (run_assign .const) ?_
    refine lstepB rfl rfl rfl (run_assign .const) ?_
    refine lnil ?_
    refine xw_then ?_
    refine cw_seq ?_
    refine cw_seq ?_
    refine cw_region ?_
    refine lstepB rfl rfl rfl (run_loadN (.tmp rfl) kd25 sz25 (by repeat (first | exact List.Mem.head _ | apply List.Mem.tail)) (by repeat (first | exact Sub.done | apply Sub.take | apply Sub.skip))) ?_
    refine lstepB rfl rfl rfl (run_call1 cb35 (.cons (.tmp rfl) .nil) (fun w' hS => (validK p pa la pc lc w' hm hm2 (hp.kept hS.kept)).as (congrArg Value.bool hv))) ?_
    refine lstepB rfl rfl rfl (run_not (.tmp rfl) (by first | exact Bool.not_true | exact Bool.not_false | exact rfl)) ?_
    refine lnil ?_
    refine xw_then ?_
    refine cw_cond_false (.tmp rfl) ?_
    refine cw_skip ?_
    refine xw_then ?_
    refine cw_seq ?_
    refine cw_seq ?_
    refine cw_region ?_
    refine lstepB rfl rfl rfl (run_move (.tmp rfl)) ?_
    refine lstepB rfl rfl rfl (run_not (.tmp rfl) (by first | exact Bool.not_true | exact Bool.not_false | exact rfl)) ?_
    refine lnil ?_
    refine xw_then ?_
    refine cw_cond_true (.tmp rfl) ?_
    refine cw_seq ?_
    refine cw_region ?_
    refine lstepB rfl rfl rfl (run_assign .const) ?_
    refine lstepB rfl rfl rfl (run_assign .const) ?_
    refine lnil ?_
    refine xw_then ?_
    refine cw_ret ?_
    refine xw_then_ret ?_
    refine xw_ret2 Try.results47 rfl rfl (fun w' hS => ⟨rfl, hS.kept⟩)
  ·
    have hd : True := trivial
    have hf := fit_of_valid hv
    refine .mk <| enter (n := 20) Try.func47 rfl rfl rfl (by repeat (first | exact Fill.nil | apply Fill.cons)) ?_
    refine cw_seq ?_
    refine cw_region ?_
    refine lstep rfl rfl rfl (run_boxN (.tmp rfl)) ?_
    intro b2 _
    refine lstepB rfl rfl rfl (run_assign .const) ?_
    refine lstepB rfl rfl rfl (run_assign .const) ?_
    refine lnil ?_
    refine xw_then ?_
    refine cw_seq ?_
    refine cw_seq ?_
    refine cw_region ?_
    refine lstepB rfl rfl rfl (run_loadN (.tmp rfl) kd25 sz25 (by repeat (first | exact List.Mem.head _ | apply List.Mem.tail)) (by repeat (first | exact Sub.done | apply Sub.take | apply Sub.skip))) ?_
    refine lstepB rfl rfl rfl (run_call1 cb35 (.cons (.tmp rfl) .nil) (fun w' hS => (validK p pa la pc lc w' hm hm2 (hp.kept hS.kept)).as (congrArg Value.bool hv))) ?_
    refine lstepB rfl rfl rfl (run_not (.tmp rfl) (by first | exact Bool.not_true | exact Bool.not_false | exact rfl)) ?_
    refine lnil ?_
    refine xw_then ?_
    refine cw_cond_false (.tmp rfl) ?_
    refine cw_skip ?_
    refine xw_then ?_
    refine cw_seq ?_
    refine cw_seq ?_
    refine cw_region ?_
    refine lstepB rfl rfl rfl (run_move (.tmp rfl)) ?_
    refine lstepB rfl rfl rfl (run_not (.tmp rfl) (by first | exact Bool.not_true | exact Bool.not_false | exact rfl)) ?_
    refine lnil ?_
    refine xw_then ?_
    refine cw_cond_false (.tmp rfl) ?_
    refine cw_skip ?_
    refine xw_then ?_
    refine cw_seq ?_
    refine cw_pivot (j := 3) (σ1 := [0, 1, 2]) (σ2 := [4]) [⟨0, [0], [], [], 0⟩, ⟨0, [0], [], [], 0⟩, ⟨0, [], [], [], 2⟩, ⟨0, [], [], [], 7⟩, ⟨0, [], [], [], 15⟩] [(0, _)] (by kernel_rfl) (by kernel_rfl) rfl ?_
    refine .det (B := []) rfl rfl (.inl rfl) (.cons rfl .nil) .nil rfl (RunB.lr (run_loadN (.tmp rfl) kd25 sz25 (by repeat (first | exact List.Mem.head _ | apply List.Mem.tail)) (by repeat (first | exact Sub.done | apply Sub.take | apply Sub.skip)))) ?_
    refine .det (B := []) rfl rfl (.inl rfl) (.cons rfl .nil) .nil rfl (RunB.lr (run_loadN (.tmp rfl) kd25 sz25 (by repeat (first | exact List.Mem.head _ | apply List.Mem.tail)) (by repeat (first | exact Sub.done | apply Sub.take | apply Sub.skip)))) ?_
    refine .det (B := []) rfl rfl (.inl rfl) .nil .nil rfl (RunB.lr (run_call1 cb67 (.cons (.tmp rfl) .nil) (fun w' _ => everyK p.ls.length (by have := hf.l6; omega) _ _ _ _ _ _ w'))) ?_
    refine .nil ?_
    refine pv_call (F := fun (s : Option Addr × Nat) w' => ∃ lo, (∀ b, blk [(b2, Obj.cells [.int .i64 p.side, .slice pa p.ps.length pc, .slice la p.ls.length lc].toArray 25 (0, 0))] b → b < lo) ∧ w.heap.size ≤ lo ∧ TruthsIn lo w' s.1 (allF p)) (r := fun s => .slice s.1 (allF p).length s.2) (ts2 := [0]) rfl cb80 (.cons (.tmp rfl) (.cons (.tmp rfl) .nil)) (.cons rfl .nil) (by decide) (fun w' hS => (allK hf (h8 hv) (h3 hv) pc lc (fullN p) (by have := pow64 p.ls.length (by have := hf.l6; omega); unfold fullN; omega) w' (hp.kept hS.kept)).mono fun e w2 ⟨s, h1, h2, h3⟩ => ⟨s, ⟨w'.heap.size, blk_lt hS, hS.size, h1⟩, h2, h3⟩) ?_
    rintro ⟨oa, oc⟩ w1 ⟨lo, hlo, hle, ht⟩ hB
    refine .det (B := []) rfl rfl (.inl rfl) .nil .nil rfl (RunB.lr (run_assign (.tmp rfl))) ?_
    refine chain_nil (ts := [0]) (.cons rfl .nil) (by decide) ?_
    rw [he]
    refine xw_then ?_
    refine cw_seq ?_
    refine cw_seq ?_
    refine cw_region ?_
    refine lstepB rfl rfl rfl (run_move (.tmp rfl)) ?_
    refine lstepB rfl rfl rfl (run_len (.tmp rfl) sl80) ?_
    refine lstepB rfl rfl rfl (run_eql (.tmp rfl) .const (by first | exact decide_eq_true (by omega) | exact decide_eq_false (by omega) | exact rfl)) ?_
    refine lnil ?_
    refine xw_then ?_
    refine cw_cond_true (.tmp rfl) ?_
    refine cw_seq ?_
    refine cw_region ?_
    refine lstepB rfl rfl rfl (run_assign .const) ?_
    refine lstepB rfl rfl rfl (run_assign .const) ?_
    refine lnil ?_
    refine xw_then ?_
    refine cw_ret ?_
    refine xw_then_ret ?_
    refine xw_ret2 Try.results47 rfl rfl (fun w' hS => ⟨rfl, hB _ w' hS⟩)
set_option maxRecDepth 100000 in
set_option maxHeartbeats 4000000 in
theorem openOk {p : PegsD} {pa la : Option Addr} {v : Bool} {L : List (List Pl × Int)} (ho : openR p v = .ok L) (pc lc : Nat) (hm : p.ps.length ≤ 9223372036854775807) (hm2 : p.ls.length ≤ 9223372036854775807) (h8 : validB p = true → p.side ≤ 8) (h3 : validB p = true → p.ps.length ≤ 3) (w : World) (hp : PegsIn w p pa la) :
    Calls Try.prog 47 [.agg [.int .i64 p.side, .slice pa p.ps.length pc, .slice la p.ls.length lc].toArray, .bool v].toArray w fun e w' => ∃ s : Option Addr × Nat, TruthsIn w.heap.size w' s.1 L ∧ e = .returned (.tuple #[.slice s.1 L.length s.2, .int .i64 0]) ∧ Below w.heap.size w w'  := by
  obtain ⟨hv, rfl, rfl, he⟩ := openR_ok ho
  have hf := fit_of_valid hv
  have hd : True := trivial
  refine enter (n := 20) Try.func47 rfl rfl rfl (by repeat (first | exact Fill.nil | apply Fill.cons)) ?_
  refine cw_seq ?_
  refine cw_region ?_
  refine lstep rfl rfl rfl (run_boxN (.tmp rfl)) ?_
  intro b2 _
  refine lstepB rfl rfl rfl (run_assign .const) ?_
  refine lstepB rfl rfl rfl (run_assign .const) ?_
  refine lnil ?_
  refine xw_then ?_
  refine cw_seq ?_
  refine cw_seq ?_
  refine cw_region ?_
  refine lstepB rfl rfl rfl (run_loadN (.tmp rfl) kd25 sz25 (by repeat (first | exact List.Mem.head _ | apply List.Mem.tail)) (by repeat (first | exact Sub.done | apply Sub.take | apply Sub.skip))) ?_
  refine lstepB rfl rfl rfl (run_call1 cb35 (.cons (.tmp rfl) .nil) (fun w' hS => (validK p pa la pc lc w' hm hm2 (hp.kept hS.kept)).as (congrArg Value.bool hv))) ?_
  refine lstepB rfl rfl rfl (run_not (.tmp rfl) (by first | exact Bool.not_true | exact Bool.not_false | exact rfl)) ?_
  refine lnil ?_
  refine xw_then ?_
  refine cw_cond_false (.tmp rfl) ?_
  refine cw_skip ?_
  refine xw_then ?_
  refine cw_seq ?_
  refine cw_seq ?_
  refine cw_region ?_
  refine lstepB rfl rfl rfl (run_move (.tmp rfl)) ?_
  refine lstepB rfl rfl rfl (run_not (.tmp rfl) (by first | exact Bool.not_true | exact Bool.not_false | exact rfl)) ?_
  refine lnil ?_
  refine xw_then ?_
  refine cw_cond_false (.tmp rfl) ?_
  refine cw_skip ?_
  refine xw_then ?_
  refine cw_seq ?_
  refine cw_pivot (j := 3) (σ1 := [0, 1, 2]) (σ2 := [4]) [⟨0, [0], [], [], 0⟩, ⟨0, [0], [], [], 0⟩, ⟨0, [], [], [], 2⟩, ⟨0, [], [], [], 7⟩, ⟨0, [], [], [], 15⟩] [(0, _)] (by kernel_rfl) (by kernel_rfl) rfl ?_
  refine .det (B := []) rfl rfl (.inl rfl) (.cons rfl .nil) .nil rfl (RunB.lr (run_loadN (.tmp rfl) kd25 sz25 (by repeat (first | exact List.Mem.head _ | apply List.Mem.tail)) (by repeat (first | exact Sub.done | apply Sub.take | apply Sub.skip)))) ?_
  refine .det (B := []) rfl rfl (.inl rfl) (.cons rfl .nil) .nil rfl (RunB.lr (run_loadN (.tmp rfl) kd25 sz25 (by repeat (first | exact List.Mem.head _ | apply List.Mem.tail)) (by repeat (first | exact Sub.done | apply Sub.take | apply Sub.skip)))) ?_
  refine .det (B := []) rfl rfl (.inl rfl) .nil .nil rfl (RunB.lr (run_call1 cb67 (.cons (.tmp rfl) .nil) (fun w' _ => everyK p.ls.length (by have := hf.l6; omega) _ _ _ _ _ _ w'))) ?_
  refine .nil ?_
  refine pv_call (F := fun (s : Option Addr × Nat) w' => ∃ lo, (∀ b, blk [(b2, Obj.cells [.int .i64 p.side, .slice pa p.ps.length pc, .slice la p.ls.length lc].toArray 25 (0, 0))] b → b < lo) ∧ w.heap.size ≤ lo ∧ TruthsIn lo w' s.1 (allF p)) (r := fun s => .slice s.1 (allF p).length s.2) (ts2 := [0]) rfl cb80 (.cons (.tmp rfl) (.cons (.tmp rfl) .nil)) (.cons rfl .nil) (by decide) (fun w' hS => (allK hf (h8 hv) (h3 hv) pc lc (fullN p) (by have := pow64 p.ls.length (by have := hf.l6; omega); unfold fullN; omega) w' (hp.kept hS.kept)).mono fun e w2 ⟨s, h1, h2, h3⟩ => ⟨s, ⟨w'.heap.size, blk_lt hS, hS.size, h1⟩, h2, h3⟩) ?_
  rintro ⟨oa, oc⟩ w1 ⟨lo, hlo, hle, ht⟩ hB
  refine .det (B := []) rfl rfl (.inl rfl) .nil .nil rfl (RunB.lr (run_assign (.tmp rfl))) ?_
  refine chain_nil (ts := [0]) (.cons rfl .nil) (by decide) ?_
  have hl0 : 0 < (allF p).length := List.length_pos_iff.2 he
  refine xw_then ?_
  refine cw_seq ?_
  refine cw_seq ?_
  refine cw_region ?_
  refine lstepB rfl rfl rfl (run_move (.tmp rfl)) ?_
  refine lstepB rfl rfl rfl (run_len (.tmp rfl) sl80) ?_
  refine lstepB rfl rfl rfl (run_eql (.tmp rfl) .const (by first | exact decide_eq_true (by omega) | exact decide_eq_false (by omega) | exact rfl)) ?_
  refine lnil ?_
  refine xw_then ?_
  refine cw_cond_false (.tmp rfl) ?_
  refine cw_skip ?_
  refine xw_then ?_
  refine cw_seq ?_
  refine cw_region ?_
  refine lstepB rfl rfl rfl (run_move (.tmp rfl)) ?_
  refine lstepB rfl rfl rfl (run_assign (.tmp rfl)) ?_
  refine lstepB rfl rfl rfl (run_assign .const) ?_
  refine lnil ?_
  refine xw_then ?_
  refine cw_ret ?_
  refine xw_ret2 Try.results47 rfl rfl (fun w' hS => ⟨(oa, oc), ht.st hS hlo hle, rfl, hB _ w' hS⟩)
end Go.Proofs.Ytkjciobphbcknaa
