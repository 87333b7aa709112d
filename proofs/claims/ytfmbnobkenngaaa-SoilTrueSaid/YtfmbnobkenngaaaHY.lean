/- Soil: SoilTrue's walk. -/
import Derived.Test.YtfmbnobkenngaaaHX
import Derived.Test.YtfmbnobkenngaaaHI
namespace Go.Proofs.Ytfmbnobkenngaaa
open Go.RowKit En

set_option maxRecDepth 100000 in
set_option maxHeartbeats 4000000 in
theorem soilTrue_any (pa : Option Addr) (n cap : Nat) (x y : Int) (w : World) (hx : 0 ≤ x ∧ x ≤ 255) (hy : -32768 ≤ y ∧ y ≤ 32767) (hu : 0 < n → ∃ pb po l, pa = some ⟨pb, po, none⟩ ∧ n = l.length ∧ U16At w pb po l) : Gives Try.prog 5 [.slice pa n cap, .int .u8 x, .int .i16 y] w (.bool true) := by
  rcases Nat.eq_zero_or_pos n with hn0 | hn0
  ·
    subst hn0
    refine .mk <| enter (n := 244) Try.func5 rfl rfl rfl (by repeat (first | exact Fill.nil | apply Fill.cons)) ?_
    refine cw_seq ?_
    refine cw_region ?_
    refine lstepB rfl rfl rfl (run_assign .const) ?_
    refine lnil ?_
    refine xw_then ?_
    refine cw_seq ?_
    refine cw_seq ?_
    refine cw_region ?_
    refine lstepB rfl rfl rfl (run_move (.tmp rfl)) ?_
    refine lstepB rfl rfl rfl (run_len (.tmp rfl) sl42) ?_
    refine lstepB rfl rfl rfl (run_eql (.tmp rfl) .const (by first | exact decide_eq_true (by omega) | exact decide_eq_false (by omega) | exact rfl)) ?_
    refine lnil ?_
    refine xw_then ?_
    refine cw_cond_true (.tmp rfl) ?_
    refine cw_seq ?_
    refine cw_region ?_
    refine lstepB rfl rfl rfl (run_call1 cb12 .nil (fun w _ => awakeK w)) ?_
    refine lstepB rfl rfl rfl (run_assign (.tmp rfl)) ?_
    refine lnil ?_
    refine xw_then ?_
    refine cw_ret ?_
    refine xw_then_ret ?_
    refine xw_ret1 Try.results5 rfl (fun w hS => ⟨rfl, hS.kept⟩)
  ·
    obtain ⟨pb, po, l, rfl, rfl, hU⟩ := hu hn0
    have hlpos := hU.pos
    have hllen := hU.len
    refine .mk <| enter (n := 244) Try.func5 rfl rfl rfl (by repeat (first | exact Fill.nil | apply Fill.cons)) ?_
    refine cw_seq ?_
    refine cw_region ?_
    refine lstepB rfl rfl rfl (run_assign .const) ?_
    refine lnil ?_
    refine xw_then ?_
    refine cw_seq ?_
    refine cw_seq ?_
    refine cw_region ?_
    refine lstepB rfl rfl rfl (run_move (.tmp rfl)) ?_
    refine lstepB rfl rfl rfl (run_len (.tmp rfl) sl42) ?_
    refine lstepB rfl rfl rfl (run_eql (.tmp rfl) .const (by first | exact decide_eq_true (by omega) | exact decide_eq_false (by omega) | exact rfl)) ?_
    refine lnil ?_
    refine xw_then ?_
    refine cw_cond_false (.tmp rfl) ?_
    refine cw_skip ?_
    refine xw_then ?_
    refine cw_seq ?_
    refine cw_region ?_
    refine lstepB rfl rfl rfl (run_move (.tmp rfl)) ?_
    refine lstep rfl rfl rfl (LR.runs (R := []) (A := []) (lr_gives cb28 (.cons (.tmp rfl) .nil) (fun w2 hS => drawsK (some ⟨pb, po, none⟩) l.length cap w2)) (by repeat (first | exact Pick.nil | (apply Pick.cons; focus (repeat (first | exact Del.here | apply Del.there))))) (by repeat (first | exact Dels.nil | (apply Dels.cons; focus (repeat (first | exact Del.here | apply Del.there)))))) ?_
    intro ⟨dC, bx⟩ _
    dsimp only
    refine lstep rfl rfl rfl (LR.runs (R := [(bx, _)]) (A := [(dC, _)]) (lr_call cb27 (.cons (.tmp rfl) .nil) (fun w2 hS hA => madeK bx dC pb po cap l w2 (hA (dC, cntO 0) (by simp)) (hU.draws hS (hA (dC, cntO 0) (by simp))))) (by repeat (first | exact Pick.nil | (apply Pick.cons; focus (repeat (first | exact Del.here | apply Del.there))))) (by repeat (first | exact Dels.nil | (apply Dels.cons; focus (repeat (first | exact Del.here | apply Del.there)))))) ?_
    intro ⟨g, L, kc, ⟨gL, cL, rL⟩, o⟩ ⟨tr, hL, ho⟩
    cases o
    case none =>
      dsimp only at tr hL ho ⊢
      have e0 : g.pits.length = 0 := by rw [ho]; rfl
      have vg := tr.vg
      have hv := vg.valid
      have ho' := tr.look
      have hlong := tr.long
      have hlen := tr.len
      have hpits := vg.v.len
      have hm2 : g.pits.length ≤ 1000000 := by omega
      refine lstepB rfl rfl rfl (run_move (.tmp rfl)) ?_
      refine lstepB rfl rfl rfl (run_extract (.tmp rfl) rfl) ?_
      refine lstepB rfl rfl rfl (run_extract (.tmp rfl) rfl) ?_
      refine lstep rfl rfl rfl (run_alloc zr24) ?_
      intro b7 _
      refine lstep0 rfl rfl (run_storeN (.tmp rfl) (.tmp rfl) rfl sz24 rfl (by repeat (first | exact Upd.here | apply Upd.there)) (by repeat (first | exact Put.done | apply Put.put | apply Put.skip))) ?_
      refine lstepB rfl rfl rfl (run_assign (.tmp rfl)) ?_
      refine lnil ?_
      refine xw_then ?_
      refine cw_seq ?_
      refine cw_region ?_
      refine lstepB rfl rfl rfl (run_assign .const) ?_
      refine lnil ?_
      refine xw_then ?_
      refine cw_seq ?_
      refine cw_seq ?_
      refine cw_region ?_
      refine lstepB rfl rfl rfl (run_move (.tmp rfl)) ?_
      refine lstepB rfl rfl rfl (run_len (.tmp rfl) sl44) ?_
      refine lstepB rfl rfl rfl (run_move .const) ?_
      refine lnil ?_
      refine xw_then ?_
      refine cw_block ?_
      refine cw_loop (S := Nat) (fun i => [(46, .int .i64 ((i : Nat) : Int)), (9, .int .i64 (Truly.sumH L i))]) [(1, _), (2, _), (6, _), (7, _), (8, _), (44, _), (45, _)] (fun i => [(b7, Obj.cells [.int .i64 g.long, .int .i64 g.rise, .int .i64 g.change, .slice none 0 0].toArray 24 (0, 0)), (gL, Obj.cells rL.toArray 50 (0, 0))]) (fun i => i ≤ L.length) (fun i => L.length - i) 0 (Nat.zero_le _) (by repeat (first | exact Less.nil | refine Less.cons rfl ?_)) (by repeat (first | exact Pick.nil | (apply Pick.cons; focus (repeat (first | exact Del.here | apply Del.there))))) ?_
      intro i hi
      refine cw_seq ?_
      refine cw_region ?_
      refine lstepB rfl rfl rfl (run_lss (.tmp rfl) (.tmp rfl) rfl) ?_
      refine lnil ?_
      refine xw_then ?_
      refine cw_seq ?_
      refine cw_cond_p (.tmp rfl) (fun hl => ?_) (fun hl => ?_)
      ·
        have hiL : i < L.length := by omega
        obtain ⟨p, hpe⟩ : ∃ p, L.getD i Truly.no = p := ⟨_, rfl⟩
        have hpi : L[i]? = some p := by rw [← hpe]; exact Truly.some_ hiL
        have hok := tr.ok_ hiL
        have f1 := tr.hard_in hiL
        have f2 := tr.soil_in hiL
        have f3 := Truly.bit_one (tr.class_in hiL)
        have f4 := tr.work_in i hiL
        have hsb := tr.sumH_bound i (by omega)
        have hsc := Truly.sumH_succ (L := L) hiL
        have hcN : classN p.a p.b p.c < 4 := by unfold classN; split <;> (try split) <;> (try split) <;> omega
        simp only [Truly.S, InM] at f2
        rw [hpe] at hok f1 f2 f3 hsc
        have hok2 := hok
        simp only [okP] at hok2
        have hcl := classes_lt ((soilsL g).getD i noMix)
        have hd1 : classesM ((soilsL g).getD i noMix) / 2 ^ classN p.a p.b p.c < 2 ^ 32 := Nat.lt_of_le_of_lt (Nat.div_le_self _ _) (by omega)
        refine cw_skip ?_
        refine xw_then ?_
        refine cw_seq ?_
        refine cw_block ?_
        refine cw_seq ?_
        refine cw_region ?_
        refine lstepB rfl rfl rfl (run_move (.tmp rfl)) ?_
        refine lstepB rfl rfl rfl (run_indexAddr (i := i) (off' := 0 + i * 4) (.tmp rfl) (.tmp rfl) el44 (by omega) rfl) ?_
        refine lstepB rfl rfl rfl (run_loadN_at (l := plC p) (.tmp rfl) kd50 sz50 rfl (fun w' hS j v hj => by have hm : w'.heap[gL]? = some (Obj.cells rL.toArray 50 (0, 0)) := hS.mem (by repeat (first | exact List.Mem.head _ | apply List.Mem.tail)); have := hL.get (plsC_at L i p hpi j v hj); rw [Nat.zero_add]; simp only [World.cell?, hm]; simpa using this)) ?_
        refine lstep rfl rfl rfl (run_alloc zr50) ?_
        intro b11 _
        refine lstepB rfl rfl rfl (run_assign (.tmp rfl)) ?_
        refine lstep0 rfl rfl (run_storeN (.tmp rfl) (.tmp rfl) rfl sz50 rfl (by repeat (first | exact Upd.here | apply Upd.there)) (by repeat (first | exact Put.done | apply Put.put | apply Put.skip))) ?_
        refine lnil ?_
        refine xw_then ?_
        refine cw_seq ?_
        refine cw_region ?_
        refine lstepB rfl rfl rfl (run_loadN (.tmp rfl) kd24 sz24 (by repeat (first | exact List.Mem.head _ | apply List.Mem.tail)) (by repeat (first | exact Sub.done | apply Sub.take | apply Sub.skip))) ?_
        refine lstepB rfl rfl rfl (run_move (.tmp rfl)) ?_
        refine lstepB rfl rfl rfl (run_call1 cb13 (.cons (.tmp rfl) (.cons (.tmp rfl) .nil)) (fun w hS => by have := hard_ok (w := w) (pa := none) (pc := 0) hv hm2 (by rw [ho]; exact fun i r h => by simp at h) ho' (k := (i : Int)) (by omega) (by omega); rw [e0] at this; exact this)) ?_
        refine lstepB rfl rfl rfl (run_move (.tmp rfl)) ?_
        refine lstepB rfl rfl rfl (run_extract (.tmp rfl) rfl) ?_
        refine lstepB rfl rfl rfl (run_extract (.tmp rfl) rfl) ?_
        refine lstep rfl rfl rfl (run_alloc zr28) ?_
        intro b12 _
        refine lstep0 rfl rfl (run_storeN (.tmp rfl) (.tmp rfl) rfl sz28 rfl (by repeat (first | exact Upd.here | apply Upd.there)) (by repeat (first | exact Put.done | apply Put.put | apply Put.skip))) ?_
        refine lstepB rfl rfl rfl (run_assign (.tmp rfl)) ?_
        refine lnil ?_
        refine xw_then ?_
        refine cw_seq ?_
        refine cw_region ?_
        refine lstepB rfl rfl rfl (run_loadN (.tmp rfl) kd24 sz24 (by repeat (first | exact List.Mem.head _ | apply List.Mem.tail)) (by repeat (first | exact Sub.done | apply Sub.take | apply Sub.skip))) ?_
        refine lstepB rfl rfl rfl (run_move (.tmp rfl)) ?_
        refine lstepB rfl rfl rfl (run_call1 cb15 (.cons (.tmp rfl) (.cons (.tmp rfl) .nil)) (fun w hS => by have := parts_ok (w := w) (pa := none) (pc := 0) hv hm2 (by rw [ho]; exact fun i r h => by simp at h) ho' (k := (i : Int)) (by omega) (by omega); rw [e0] at this; exact this)) ?_
        refine lstepB rfl rfl rfl (run_move (.tmp rfl)) ?_
        refine lstepB rfl rfl rfl (run_extract (.tmp rfl) rfl) ?_
        refine lstepB rfl rfl rfl (run_extract (.tmp rfl) rfl) ?_
        refine lstepB rfl rfl rfl (run_extract (.tmp rfl) rfl) ?_
        refine lstepB rfl rfl rfl (run_extract (.tmp rfl) rfl) ?_
        refine lstep rfl rfl rfl (run_alloc zr28) ?_
        intro b14 _
        refine lstep rfl rfl rfl (run_alloc zr28) ?_
        intro b15 _
        refine lstep rfl rfl rfl (run_alloc zr28) ?_
        intro b16 _
        refine lstep0 rfl rfl (run_storeN (.tmp rfl) (.tmp rfl) rfl sz28 rfl (by repeat (first | exact Upd.here | apply Upd.there)) (by repeat (first | exact Put.done | apply Put.put | apply Put.skip))) ?_
        refine lstep0 rfl rfl (run_storeN (.tmp rfl) (.tmp rfl) rfl sz28 rfl (by repeat (first | exact Upd.here | apply Upd.there)) (by repeat (first | exact Put.done | apply Put.put | apply Put.skip))) ?_
        refine lstep0 rfl rfl (run_storeN (.tmp rfl) (.tmp rfl) rfl sz28 rfl (by repeat (first | exact Upd.here | apply Upd.there)) (by repeat (first | exact Put.done | apply Put.put | apply Put.skip))) ?_
        refine lstepB rfl rfl rfl (run_assign (.tmp rfl)) ?_
        refine lnil ?_
        refine xw_then ?_
        refine cw_seq ?_
        refine cw_region ?_
        refine lstepB rfl rfl rfl (run_loadN (.tmp rfl) kd24 sz24 (by repeat (first | exact List.Mem.head _ | apply List.Mem.tail)) (by repeat (first | exact Sub.done | apply Sub.take | apply Sub.skip))) ?_
        refine lstepB rfl rfl rfl (run_move (.tmp rfl)) ?_
        refine lstepB rfl rfl rfl (run_call1 cb17 (.cons (.tmp rfl) (.cons (.tmp rfl) .nil)) (fun w hS => by have := class_ok (w := w) (pa := none) (pc := 0) hv hm2 (by rw [ho]; exact fun i r h => by simp at h) ho' (k := (i : Int)) (by omega) (by omega); rw [e0] at this; exact this)) ?_
        refine lstepB rfl rfl rfl (run_move (.tmp rfl)) ?_
        refine lstepB rfl rfl rfl (run_extract (.tmp rfl) rfl) ?_
        refine lstepB rfl rfl rfl (run_extract (.tmp rfl) rfl) ?_
        refine lstepB rfl rfl rfl (run_assign (.tmp rfl)) ?_
        refine lstepB rfl rfl rfl (run_assign (.tmp rfl)) ?_
        refine lnil ?_
        refine xw_then ?_
        refine cw_seq ?_
        refine cw_region ?_
        refine lstepB rfl rfl rfl (run_move (.tmp rfl)) ?_
        refine lstepB rfl rfl rfl (run_fieldAddr (.tmp rfl) fa50_0 (by first | exact Nat.zero_add _ | exact rfl)) ?_
        refine lstepB rfl rfl rfl (run_load1 (.tmp rfl) kd3 (by repeat (first | exact List.Mem.head _ | apply List.Mem.tail)) (by exact rfl)) ?_
        refine lstepB rfl rfl rfl (run_add (c := Truly.sumH L (i + 1)) (.tmp rfl) (.tmp rfl) (by rw [IntWalk.i64_in _ (by omega)]; omega)) ?_
        refine lstepB rfl rfl rfl (run_assign (.tmp rfl)) ?_
        refine lnil ?_
        refine xw_then ?_
        refine cw_seq ?_
        refine cw_region ?_
        refine lstepB rfl rfl rfl (run_loadN (.tmp rfl) kd24 sz24 (by repeat (first | exact List.Mem.head _ | apply List.Mem.tail)) (by repeat (first | exact Sub.done | apply Sub.take | apply Sub.skip))) ?_
        refine lstepB rfl rfl rfl (run_move (.tmp rfl)) ?_
        refine lstepB rfl rfl rfl (run_call1 cb19 (.cons (.tmp rfl) (.cons .const (.cons (.tmp rfl) .nil))) (fun w hS => by have := work_ok (w := w) (pa := none) (pc := 0) hv hm2 (by rw [ho]; exact fun i r h => by simp at h) ho' (x := 0) (y := (i : Int)) (by omega) (by omega) (by omega); rw [e0] at this; exact this)) ?_
        refine lstepB rfl rfl rfl (run_move (.tmp rfl)) ?_
        refine lstepB rfl rfl rfl (run_extract (.tmp rfl) rfl) ?_
        refine lstepB rfl rfl rfl (run_extract (.tmp rfl) rfl) ?_
        refine lstep rfl rfl rfl (run_alloc zr28) ?_
        intro b20 _
        refine lstep0 rfl rfl (run_storeN (.tmp rfl) (.tmp rfl) rfl sz28 rfl (by repeat (first | exact Upd.here | apply Upd.there)) (by repeat (first | exact Put.done | apply Put.put | apply Put.skip))) ?_
        refine lstepB rfl rfl rfl (run_assign (.tmp rfl)) ?_
        refine lnil ?_
        refine xw_then ?_
        refine cw_seq ?_
        refine cw_region ?_
        refine lstepB rfl rfl rfl (run_move (.tmp rfl)) ?_
        refine lstepB rfl rfl rfl (run_neq (.tmp rfl) .const (by first | exact decide_eq_true (by omega) | exact decide_eq_false (by omega) | exact rfl)) ?_
        refine lstepB rfl rfl rfl (run_move (.tmp rfl)) ?_
        refine lyes rfl rfl rfl rfl ?_
        refine gstepB rfl rfl (run_loadN (.tmp rfl) kd28 sz28 (by repeat (first | exact List.Mem.head _ | apply List.Mem.tail)) (by repeat (first | exact Sub.done | apply Sub.take | apply Sub.skip))) ?_
        refine lyes rfl rfl rfl rfl ?_
        refine gstepB rfl rfl (run_fieldAddr (.tmp rfl) fa50_0 (by first | exact Nat.zero_add _ | exact rfl)) ?_
        refine lyes rfl rfl rfl rfl ?_
        refine gstepB rfl rfl (run_load1 (.tmp rfl) kd3 (by repeat (first | exact List.Mem.head _ | apply List.Mem.tail)) (by exact rfl)) ?_
        refine lyes rfl rfl rfl rfl ?_
        refine gstepB rfl rfl (run_call1 cb29 (.cons (.tmp rfl) (.cons (.tmp rfl) .nil)) (fun w _ => insideK ⟨_, _⟩ _ f1 w)) ?_
        refine lyes rfl rfl rfl rfl ?_
        refine gstepB rfl rfl (run_not (.tmp rfl) (by first | exact Bool.not_true | exact Bool.not_false | exact rfl)) ?_
        refine lstepB rfl rfl rfl (by first | exact run_pick_true (.tmp rfl) .const | exact run_pick_false (.tmp rfl) (.tmp rfl)) ?_
        refine lstepB rfl rfl rfl (run_move (.tmp rfl)) ?_
        refine lyes rfl rfl rfl rfl ?_
        refine gstepB rfl rfl (run_move (.tmp rfl)) ?_
        refine lyes rfl rfl rfl rfl ?_
        refine gstepB rfl rfl (run_neq (.tmp rfl) .const (by first | exact decide_eq_true (by omega) | exact decide_eq_false (by omega) | exact rfl)) ?_
        refine lstepB rfl rfl rfl (by first | exact run_pick_true (.tmp rfl) .const | exact run_pick_false (.tmp rfl) (.tmp rfl)) ?_
        refine lstepB rfl rfl rfl (run_move (.tmp rfl)) ?_
        refine lyes rfl rfl rfl rfl ?_
        refine gstepB rfl rfl (run_loadN (.tmp rfl) kd28 sz28 (by repeat (first | exact List.Mem.head _ | apply List.Mem.tail)) (by repeat (first | exact Sub.done | apply Sub.take | apply Sub.skip))) ?_
        refine lyes rfl rfl rfl rfl ?_
        refine gstepB rfl rfl (run_fieldAddr (.tmp rfl) fa50_1 (by first | exact Nat.zero_add _ | exact rfl)) ?_
        refine lyes rfl rfl rfl rfl ?_
        refine gstepB rfl rfl (run_load1 (.tmp rfl) kd3 (by repeat (first | exact List.Mem.head _ | apply List.Mem.tail)) (by exact rfl)) ?_
        refine lyes rfl rfl rfl rfl ?_
        refine gstepB rfl rfl (run_call1 cb29 (.cons (.tmp rfl) (.cons (.tmp rfl) .nil)) (fun w _ => insideK ⟨_, _⟩ _ ⟨f2.1, f2.2.1⟩ w)) ?_
        refine lyes rfl rfl rfl rfl ?_
        refine gstepB rfl rfl (run_not (.tmp rfl) (by first | exact Bool.not_true | exact Bool.not_false | exact rfl)) ?_
        refine lstepB rfl rfl rfl (by first | exact run_pick_true (.tmp rfl) .const | exact run_pick_false (.tmp rfl) (.tmp rfl)) ?_
        refine lstepB rfl rfl rfl (run_move (.tmp rfl)) ?_
        refine lyes rfl rfl rfl rfl ?_
        refine gstepB rfl rfl (run_loadN (.tmp rfl) kd28 sz28 (by repeat (first | exact List.Mem.head _ | apply List.Mem.tail)) (by repeat (first | exact Sub.done | apply Sub.take | apply Sub.skip))) ?_
        refine lyes rfl rfl rfl rfl ?_
        refine gstepB rfl rfl (run_fieldAddr (.tmp rfl) fa50_2 (by first | exact Nat.zero_add _ | exact rfl)) ?_
        refine lyes rfl rfl rfl rfl ?_
        refine gstepB rfl rfl (run_load1 (.tmp rfl) kd3 (by repeat (first | exact List.Mem.head _ | apply List.Mem.tail)) (by exact rfl)) ?_
        refine lyes rfl rfl rfl rfl ?_
        refine gstepB rfl rfl (run_call1 cb29 (.cons (.tmp rfl) (.cons (.tmp rfl) .nil)) (fun w _ => insideK ⟨_, _⟩ _ ⟨f2.2.2.1, f2.2.2.2.1⟩ w)) ?_
        refine lyes rfl rfl rfl rfl ?_
        refine gstepB rfl rfl (run_not (.tmp rfl) (by first | exact Bool.not_true | exact Bool.not_false | exact rfl)) ?_
        refine lstepB rfl rfl rfl (by first | exact run_pick_true (.tmp rfl) .const | exact run_pick_false (.tmp rfl) (.tmp rfl)) ?_
        refine lstepB rfl rfl rfl (run_move (.tmp rfl)) ?_
        refine lyes rfl rfl rfl rfl ?_
        refine gstepB rfl rfl (run_loadN (.tmp rfl) kd28 sz28 (by repeat (first | exact List.Mem.head _ | apply List.Mem.tail)) (by repeat (first | exact Sub.done | apply Sub.take | apply Sub.skip))) ?_
        refine lyes rfl rfl rfl rfl ?_
        refine gstepB rfl rfl (run_fieldAddr (.tmp rfl) fa50_3 (by first | exact Nat.zero_add _ | exact rfl)) ?_
        refine lyes rfl rfl rfl rfl ?_
        refine gstepB rfl rfl (run_load1 (.tmp rfl) kd3 (by repeat (first | exact List.Mem.head _ | apply List.Mem.tail)) (by exact rfl)) ?_
        refine lyes rfl rfl rfl rfl ?_
        refine gstepB rfl rfl (run_call1 cb29 (.cons (.tmp rfl) (.cons (.tmp rfl) .nil)) (fun w _ => insideK ⟨_, _⟩ _ f2.2.2.2.2 w)) ?_
        refine lyes rfl rfl rfl rfl ?_
        refine gstepB rfl rfl (run_not (.tmp rfl) (by first | exact Bool.not_true | exact Bool.not_false | exact rfl)) ?_
        refine lstepB rfl rfl rfl (by first | exact run_pick_true (.tmp rfl) .const | exact run_pick_false (.tmp rfl) (.tmp rfl)) ?_
        refine lstepB rfl rfl rfl (run_move (.tmp rfl)) ?_
        refine lyes rfl rfl rfl rfl ?_
        refine gstepB rfl rfl (run_move (.tmp rfl)) ?_
        refine lyes rfl rfl rfl rfl ?_
        refine gstepB rfl rfl (run_neq (.tmp rfl) .const (by first | exact decide_eq_true (by omega) | exact decide_eq_false (by omega) | exact rfl)) ?_
        refine lstepB rfl rfl rfl (by first | exact run_pick_true (.tmp rfl) .const | exact run_pick_false (.tmp rfl) (.tmp rfl)) ?_
        refine lstepB rfl rfl rfl (run_move (.tmp rfl)) ?_
        refine lyes rfl rfl rfl rfl ?_
        refine gstepB rfl rfl (run_move (.tmp rfl)) ?_
        refine lyes rfl rfl rfl rfl ?_
        refine gstepB rfl rfl (run_loadN (.tmp rfl) kd50 sz50 (by repeat (first | exact List.Mem.head _ | apply List.Mem.tail)) (by repeat (first | exact Sub.done | apply Sub.take | apply Sub.skip))) ?_
        refine lyes rfl rfl rfl rfl ?_
        refine gstepB rfl rfl (run_call1 cb30 (.cons (.tmp rfl) .nil) (fun w _ => placeK p hok w)) ?_
        refine lyes rfl rfl rfl rfl ?_
        refine gstepB rfl rfl (run_shr (a := classesM ((soilsL g).getD i noMix)) (z := classN p.a p.b p.c) (.tmp rfl) (.tmp rfl) (by omega)) ?_
        refine lyes rfl rfl rfl rfl ?_
        refine gstepB rfl rfl (run_and (.tmp rfl) .const (and_one hd1)) ?_
        refine lyes rfl rfl rfl rfl ?_
        refine gstepB rfl rfl (run_eql (p := false) (.tmp rfl) .const (decide_eq_false (by omega))) ?_
        refine lstepB rfl rfl rfl (by first | exact run_pick_true (.tmp rfl) .const | exact run_pick_false (.tmp rfl) (.tmp rfl)) ?_
        refine lstepB rfl rfl rfl (run_move (.tmp rfl)) ?_
        refine lyes rfl rfl rfl rfl ?_
        refine gstepB rfl rfl (run_move (.tmp rfl)) ?_
        refine lyes rfl rfl rfl rfl ?_
        refine gstepB rfl rfl (run_neq (.tmp rfl) .const (by first | exact decide_eq_true (by omega) | exact decide_eq_false (by omega) | exact rfl)) ?_
        refine lstepB rfl rfl rfl (by first | exact run_pick_true (.tmp rfl) .const | exact run_pick_false (.tmp rfl) (.tmp rfl)) ?_
        refine lstepB rfl rfl rfl (run_move (.tmp rfl)) ?_
        refine lyes rfl rfl rfl rfl ?_
        refine gstepB rfl rfl (run_loadN (.tmp rfl) kd28 sz28 (by repeat (first | exact List.Mem.head _ | apply List.Mem.tail)) (by repeat (first | exact Sub.done | apply Sub.take | apply Sub.skip))) ?_
        refine lyes rfl rfl rfl rfl ?_
        refine gstepB rfl rfl (run_move (.tmp rfl)) ?_
        refine lyes rfl rfl rfl rfl ?_
        refine gstepB rfl rfl (run_call1 cb29 (.cons (.tmp rfl) (.cons (.tmp rfl) .nil)) (fun w _ => insideK ⟨_, _⟩ _ f4 w)) ?_
        refine lyes rfl rfl rfl rfl ?_
        refine gstepB rfl rfl (run_not (.tmp rfl) (by first | exact Bool.not_true | exact Bool.not_false | exact rfl)) ?_
        refine lstepB rfl rfl rfl (by first | exact run_pick_true (.tmp rfl) .const | exact run_pick_false (.tmp rfl) (.tmp rfl)) ?_
        refine lnil ?_
        refine xw_then ?_
        refine cw_cond_false (.tmp rfl) ?_
        refine cw_skip ?_
        refine xw_in ?_
        refine xw_then ?_
        refine cw_region ?_
        refine lstepB rfl rfl rfl (run_add (.tmp rfl) .const (by first | exact IntWalk.i64_in _ (by omega) | exact rfl)) ?_
        refine lstepB rfl rfl rfl (run_move (.tmp rfl)) ?_
        refine lnil ?_
        exact xw_round (i + 1) (by show i + 1 ≤ _; omega) (by show L.length - (i + 1) < L.length - i; omega) (by repeat (first | exact Less.nil | refine Less.cons rfl ?_)) (by repeat (first | exact Pick.nil | (apply Pick.cons; focus (repeat (first | exact Del.here | apply Del.there)))))
      ·
        clear hi hl
        refine cw_exit ?_
        refine xw_then_exit ?_
        refine xw_then_exit ?_
        refine xw_in_exit ?_
        refine xw_then ?_
        refine cw_seq ?_
        refine cw_seq ?_
        refine cw_region ?_
        refine lstepB rfl rfl rfl (run_move .const) ?_
        refine lnil ?_
        refine xw_then ?_
        refine cw_block ?_
        refine cw_loop (S := Nat) (fun c => [(138, .int .i64 ((c : Nat) : Int))]) [(1, _), (2, _), (6, _), (7, _), (8, _)] (fun c => [(b7, Obj.cells [.int .i64 g.long, .int .i64 g.rise, .int .i64 g.change, .slice none 0 0].toArray 24 (0, 0)), (gL, Obj.cells rL.toArray 50 (0, 0))]) (fun c => c ≤ 4) (fun c => 4 - c) 0 (Nat.zero_le _) (by repeat (first | exact Less.nil | refine Less.cons rfl ?_)) (by repeat (first | exact Pick.nil | (apply Pick.cons; focus (repeat (first | exact Del.here | apply Del.there))))) ?_
        intro c hc
        refine cw_seq ?_
        refine cw_region ?_
        refine lstepB rfl rfl rfl (run_lss (.tmp rfl) .const rfl) ?_
        refine lnil ?_
        refine xw_then ?_
        refine cw_seq ?_
        refine cw_cond_p (.tmp rfl) (fun hcl => ?_) (fun hcl => ?_)
        ·
          have hc4 : 0 ≤ (c : Int) ∧ (c : Int) < 4 := by omega
          have hct : ((c : Int)).toNat = c := Int.toNat_natCast c
          have hpl := tr.places
          obtain ⟨A, B, e, hst, hcase⟩ : ∃ A B e : Int, (∀ w2 pa pc, PitsAt w2 pa g.pits → Gives Try.prog 21 [.agg [.int .i64 g.long, .int .i64 g.rise, .int .i64 g.change, .slice pa g.pits.length pc].toArray, .int .i64 ((c : Nat) : Int)] w2 (.tuple #[.int .i64 A, .int .i64 B, .int .i64 e])) ∧
              ((e = 4 ∧ A = 0 ∧ B = 0) ∨ (e = 0 ∧ ∃ a b : Nat, A = (a : Int) ∧ B = (b : Int) ∧ a ≤ b ∧ b < L.length ∧ (∀ i, a ≤ i → i ≤ b → sureB (soilsL g) c i = true))) := by
            have hL2 : longG g c = longF (sureB (soilsL g) c) (placesN g) := rfl
            rcases long_spec (sureB (soilsL g) c) (placesN g) with ⟨h1, h2, h3⟩ | ⟨h1, a, b, h2, h3, h4, h5, h6, _⟩
            · refine ⟨0, 0, 4, fun w2 pa pc hp2 => ?_, .inl ⟨rfl, rfl, rfl⟩⟩
              exact stretch_none (c := (c : Int)) hv hm2 hp2 ho' hc4 (by rw [Int.toNat_natCast, hL2]; omega)
            · refine ⟨(a : Int), (b : Int), 0, fun w2 pa pc hp2 => ?_, .inr ⟨rfl, a, b, rfl, rfl, h4, by omega, h6⟩⟩
              have := stretch_ok (c := (c : Int)) (pc := pc) hv hm2 hp2 ho' hc4 (by rw [Int.toNat_natCast, hL2]; omega)
              rw [Int.toNat_natCast, hL2, h2, h3] at this
              exact this
          refine cw_skip ?_
          refine xw_then ?_
          refine cw_seq ?_
          refine cw_block ?_
          refine cw_seq ?_
          refine cw_region ?_
          refine lstepB rfl rfl rfl (run_move (.tmp rfl)) ?_
          refine lstepB rfl rfl rfl (run_assign (.tmp rfl)) ?_
          refine lnil ?_
          refine xw_then ?_
          refine cw_seq ?_
          refine cw_region ?_
          refine lstepB rfl rfl rfl (run_loadN (.tmp rfl) kd24 sz24 (by repeat (first | exact List.Mem.head _ | apply List.Mem.tail)) (by repeat (first | exact Sub.done | apply Sub.take | apply Sub.skip))) ?_
          refine lstepB rfl rfl rfl (run_move (.tmp rfl)) ?_
          refine lstepB rfl rfl rfl (run_call1 cb21 (.cons (.tmp rfl) (.cons (.tmp rfl) .nil)) (fun w hS => by have := hst w none 0 (by rw [ho]; exact fun i r h => by simp at h); rw [e0] at this; exact this)) ?_
          rcases hcase with ⟨rfl, rfl, rfl⟩ | ⟨rfl, a, b, rfl, rfl, hab, hbl, hsure⟩
          ·
            refine lstepB rfl rfl rfl (run_move (.tmp rfl)) ?_
            refine lstepB rfl rfl rfl (run_extract (.tmp rfl) rfl) ?_
            refine lstepB rfl rfl rfl (run_extract (.tmp rfl) rfl) ?_
            refine lstepB rfl rfl rfl (run_extract (.tmp rfl) rfl) ?_
            refine lstepB rfl rfl rfl (run_assign (.tmp rfl)) ?_
            refine lstepB rfl rfl rfl (run_assign (.tmp rfl)) ?_
            refine lstepB rfl rfl rfl (run_assign (.tmp rfl)) ?_
            refine lnil ?_
            refine xw_then ?_
            refine cw_seq ?_
            refine cw_seq ?_
            refine cw_region ?_
            refine lstepB rfl rfl rfl (run_move (.tmp rfl)) ?_
            refine lstepB rfl rfl rfl (run_neq (.tmp rfl) .const (by first | exact decide_eq_true (by omega) | exact decide_eq_false (by omega) | exact rfl)) ?_
            refine lstepB rfl rfl rfl (run_move (.tmp rfl)) ?_
            first | (refine lyes rfl rfl rfl rfl ?_; refine gstepB rfl rfl (run_move (.tmp rfl)) ?_) | refine lskip rfl rfl rfl rfl rfl rfl rfl ?_
            first | (refine lyes rfl rfl rfl rfl ?_; refine gstepB rfl rfl (run_neq (.tmp rfl) .const (by first | exact decide_eq_true (by omega) | exact decide_eq_false (by omega) | exact rfl)) ?_) | refine lskip rfl rfl rfl rfl rfl rfl rfl ?_
            refine lstepB rfl rfl rfl (by first | exact run_pick_true (.tmp rfl) (.tmp rfl) | exact run_pick_false (.tmp rfl) .const) ?_
            refine lstepB rfl rfl rfl (run_move (.tmp rfl)) ?_
            first | (refine lyes rfl rfl rfl rfl ?_; refine gstepB rfl rfl (run_move (.tmp rfl)) ?_) | refine lskip rfl rfl rfl rfl rfl rfl rfl ?_
            first | (refine lyes rfl rfl rfl rfl ?_; refine gstepB rfl rfl (run_lss (.tmp rfl) .const (by first | exact decide_eq_true (by omega) | exact decide_eq_false (by omega) | exact rfl)) ?_) | refine lskip rfl rfl rfl rfl rfl rfl rfl ?_
            refine lstepB rfl rfl rfl (by first | exact run_pick_true (.tmp rfl) .const | exact run_pick_false (.tmp rfl) (.tmp rfl)) ?_
            refine lstepB rfl rfl rfl (run_move (.tmp rfl)) ?_
            first | (refine lyes rfl rfl rfl rfl ?_; refine gstepB rfl rfl (run_move (.tmp rfl)) ?_) | refine lskip rfl rfl rfl rfl rfl rfl rfl ?_
            first | (refine lyes rfl rfl rfl rfl ?_; refine gstepB rfl rfl (run_move (.tmp rfl)) ?_) | refine lskip rfl rfl rfl rfl rfl rfl rfl ?_
            first | (refine lyes rfl rfl rfl rfl ?_; refine gstepB rfl rfl (run_len (.tmp rfl) sl44) ?_) | refine lskip rfl rfl rfl rfl rfl rfl rfl ?_
            first | (refine lyes rfl rfl rfl rfl ?_; refine gstepB rfl rfl (run_geq (.tmp rfl) (.tmp rfl) (by first | exact decide_eq_true (by omega) | exact decide_eq_false (by omega) | exact rfl)) ?_) | refine lskip rfl rfl rfl rfl rfl rfl rfl ?_
            refine lstepB rfl rfl rfl (by first | exact run_pick_true (.tmp rfl) .const | exact run_pick_false (.tmp rfl) (.tmp rfl)) ?_
            refine lnil ?_
            refine xw_then ?_
            refine cw_cond_false (.tmp rfl) ?_
            refine cw_skip ?_
            refine xw_then ?_
            refine cw_seq ?_
            refine cw_region ?_
            refine lstepB rfl rfl rfl (run_move (.tmp rfl)) ?_
            refine lstepB rfl rfl rfl (run_assign (.tmp rfl)) ?_
            refine lnil ?_
            refine xw_then ?_
            refine cw_block ?_
            refine cw_loop (S := Nat) (fun t => [(26, .int .i64 ((t : Nat) : Int))]) [(1, _), (2, _), (6, _), (7, _), (8, _), (22, _), (24, _), (25, _), (138, _)] (fun t => [(b7, Obj.cells [.int .i64 g.long, .int .i64 g.rise, .int .i64 g.change, .slice none 0 0].toArray 24 (0, 0)), (gL, Obj.cells rL.toArray 50 (0, 0))]) (fun t => t = 0) (fun t => 0 - t) 0 rfl (by repeat (first | exact Less.nil | refine Less.cons rfl ?_)) (by repeat (first | exact Pick.nil | (apply Pick.cons; focus (repeat (first | exact Del.here | apply Del.there))))) ?_
            intro t ht
            subst ht
            refine cw_seq ?_
            refine cw_seq ?_
            refine cw_region ?_
            refine lstepB rfl rfl rfl (run_move (.tmp rfl)) ?_
            refine lstepB rfl rfl rfl (run_eql (.tmp rfl) .const (by first | exact decide_eq_true (by omega) | exact decide_eq_false (by omega) | exact rfl)) ?_
            refine lstepB rfl rfl rfl (run_move (.tmp rfl)) ?_
            first | (refine lyes rfl rfl rfl rfl ?_; refine gstepB rfl rfl (run_move (.tmp rfl)) ?_) | refine lskip rfl rfl rfl rfl rfl rfl rfl ?_
            first | (refine lyes rfl rfl rfl rfl ?_; refine gstepB rfl rfl (run_move (.tmp rfl)) ?_) | refine lskip rfl rfl rfl rfl rfl rfl rfl ?_
            first | (refine lyes rfl rfl rfl rfl ?_; refine gstepB rfl rfl (run_leq (.tmp rfl) (.tmp rfl) (by first | exact decide_eq_true (by omega) | exact decide_eq_false (by omega) | exact rfl)) ?_) | refine lskip rfl rfl rfl rfl rfl rfl rfl ?_
            refine lstepB rfl rfl rfl (by first | exact run_pick_true (.tmp rfl) (.tmp rfl) | exact run_pick_false (.tmp rfl) .const) ?_
            refine lnil ?_
            refine xw_then ?_
            refine cw_cond_false (.tmp rfl) ?_
            refine cw_exit ?_
            refine xw_then_exit ?_
            refine xw_then_exit ?_
            refine xw_in_exit ?_
            refine xw_in ?_
            refine xw_then ?_
            refine cw_region ?_
            refine lstepB rfl rfl rfl (run_add (.tmp rfl) .const (by first | exact IntWalk.i64_in _ (by omega) | exact rfl)) ?_
            refine lstepB rfl rfl rfl (run_move (.tmp rfl)) ?_
            refine lnil ?_
            exact xw_round (c + 1) (by show c + 1 ≤ 4; omega) (by show 4 - (c + 1) < 4 - c; omega) (by repeat (first | exact Less.nil | refine Less.cons rfl ?_)) (by repeat (first | exact Pick.nil | (apply Pick.cons; focus (repeat (first | exact Del.here | apply Del.there)))))
          ·
            refine lstepB rfl rfl rfl (run_move (.tmp rfl)) ?_
            refine lstepB rfl rfl rfl (run_extract (.tmp rfl) rfl) ?_
            refine lstepB rfl rfl rfl (run_extract (.tmp rfl) rfl) ?_
            refine lstepB rfl rfl rfl (run_extract (.tmp rfl) rfl) ?_
            refine lstepB rfl rfl rfl (run_assign (.tmp rfl)) ?_
            refine lstepB rfl rfl rfl (run_assign (.tmp rfl)) ?_
            refine lstepB rfl rfl rfl (run_assign (.tmp rfl)) ?_
            refine lnil ?_
            refine xw_then ?_
            refine cw_seq ?_
            refine cw_seq ?_
            refine cw_region ?_
            refine lstepB rfl rfl rfl (run_move (.tmp rfl)) ?_
            refine lstepB rfl rfl rfl (run_neq (.tmp rfl) .const (by first | exact decide_eq_true (by omega) | exact decide_eq_false (by omega) | exact rfl)) ?_
            refine lstepB rfl rfl rfl (run_move (.tmp rfl)) ?_
            first | (refine lyes rfl rfl rfl rfl ?_; refine gstepB rfl rfl (run_move (.tmp rfl)) ?_) | refine lskip rfl rfl rfl rfl rfl rfl rfl ?_
            first | (refine lyes rfl rfl rfl rfl ?_; refine gstepB rfl rfl (run_neq (.tmp rfl) .const (by first | exact decide_eq_true (by omega) | exact decide_eq_false (by omega) | exact rfl)) ?_) | refine lskip rfl rfl rfl rfl rfl rfl rfl ?_
            refine lstepB rfl rfl rfl (by first | exact run_pick_true (.tmp rfl) (.tmp rfl) | exact run_pick_false (.tmp rfl) .const) ?_
            refine lstepB rfl rfl rfl (run_move (.tmp rfl)) ?_
            first | (refine lyes rfl rfl rfl rfl ?_; refine gstepB rfl rfl (run_move (.tmp rfl)) ?_) | refine lskip rfl rfl rfl rfl rfl rfl rfl ?_
            first | (refine lyes rfl rfl rfl rfl ?_; refine gstepB rfl rfl (run_lss (.tmp rfl) .const (by first | exact decide_eq_true (by omega) | exact decide_eq_false (by omega) | exact rfl)) ?_) | refine lskip rfl rfl rfl rfl rfl rfl rfl ?_
            refine lstepB rfl rfl rfl (by first | exact run_pick_true (.tmp rfl) .const | exact run_pick_false (.tmp rfl) (.tmp rfl)) ?_
            refine lstepB rfl rfl rfl (run_move (.tmp rfl)) ?_
            first | (refine lyes rfl rfl rfl rfl ?_; refine gstepB rfl rfl (run_move (.tmp rfl)) ?_) | refine lskip rfl rfl rfl rfl rfl rfl rfl ?_
            first | (refine lyes rfl rfl rfl rfl ?_; refine gstepB rfl rfl (run_move (.tmp rfl)) ?_) | refine lskip rfl rfl rfl rfl rfl rfl rfl ?_
            first | (refine lyes rfl rfl rfl rfl ?_; refine gstepB rfl rfl (run_len (.tmp rfl) sl44) ?_) | refine lskip rfl rfl rfl rfl rfl rfl rfl ?_
            first | (refine lyes rfl rfl rfl rfl ?_; refine gstepB rfl rfl (run_geq (.tmp rfl) (.tmp rfl) (by first | exact decide_eq_true (by omega) | exact decide_eq_false (by omega) | exact rfl)) ?_) | refine lskip rfl rfl rfl rfl rfl rfl rfl ?_
            refine lstepB rfl rfl rfl (by first | exact run_pick_true (.tmp rfl) .const | exact run_pick_false (.tmp rfl) (.tmp rfl)) ?_
            refine lnil ?_
            refine xw_then ?_
            refine cw_cond_false (.tmp rfl) ?_
            refine cw_skip ?_
            refine xw_then ?_
            refine cw_seq ?_
            refine cw_region ?_
            refine lstepB rfl rfl rfl (run_move (.tmp rfl)) ?_
            refine lstepB rfl rfl rfl (run_assign (.tmp rfl)) ?_
            refine lnil ?_
            refine xw_then ?_
            refine cw_block ?_
            refine cw_loop (S := Nat) (fun t => [(26, .int .i64 ((t : Nat) : Int))]) [(1, _), (2, _), (6, _), (7, _), (8, _), (22, _), (24, _), (25, _), (138, _)] (fun t => [(b7, Obj.cells [.int .i64 g.long, .int .i64 g.rise, .int .i64 g.change, .slice none 0 0].toArray 24 (0, 0)), (gL, Obj.cells rL.toArray 50 (0, 0))]) (fun t => a ≤ t ∧ t ≤ b + 1) (fun t => b + 1 - t) a ⟨Nat.le_refl _, by omega⟩ (by repeat (first | exact Less.nil | refine Less.cons rfl ?_)) (by repeat (first | exact Pick.nil | (apply Pick.cons; focus (repeat (first | exact Del.here | apply Del.there))))) ?_
            intro t ht
            obtain ⟨t1, t2⟩ := ht
            refine cw_seq ?_
            refine cw_seq ?_
            refine cw_region ?_
            refine lstepB rfl rfl rfl (run_move (.tmp rfl)) ?_
            refine lstepB rfl rfl rfl (run_eql (.tmp rfl) .const (by first | exact decide_eq_true (by omega) | exact decide_eq_false (by omega) | exact rfl)) ?_
            refine lstepB rfl rfl rfl (run_move (.tmp rfl)) ?_
            refine lyes rfl rfl rfl rfl ?_
            refine gstepB rfl rfl (run_move (.tmp rfl)) ?_
            refine lyes rfl rfl rfl rfl ?_
            refine gstepB rfl rfl (run_move (.tmp rfl)) ?_
            refine lyes rfl rfl rfl rfl ?_
            refine gstepB rfl rfl (run_leq (.tmp rfl) (.tmp rfl) rfl) ?_
            refine lstepB rfl rfl rfl (run_pick_true (.tmp rfl) (.tmp rfl)) ?_
            refine lnil ?_
            refine xw_then ?_
            refine cw_cond_p (.tmp rfl) (fun htb => ?_) (fun htb => ?_)
            ·
              have hiL : t < L.length := by omega
              obtain ⟨p, hpe⟩ : ∃ p, L.getD t Truly.no = p := ⟨_, rfl⟩
              have hpi : L[t]? = some p := by rw [← hpe]; exact Truly.some_ hiL
              have hok := tr.ok_ hiL
              have f3 := tr.sure_in hiL (hsure t t1 (by omega))
              rw [hpe] at hok f3
              refine cw_skip ?_
              refine xw_then ?_
              refine cw_seq ?_
              refine cw_block ?_
              refine cw_seq ?_
              refine cw_region ?_
              refine lstepB rfl rfl rfl (run_move (.tmp rfl)) ?_
              refine lstepB rfl rfl rfl (run_move (.tmp rfl)) ?_
              refine lstepB rfl rfl rfl (run_indexAddr (i := t) (off' := 0 + t * 4) (.tmp rfl) (.tmp rfl) el44 (by omega) rfl) ?_
              refine lstepB rfl rfl rfl (run_loadN_at (l := plC p) (.tmp rfl) kd50 sz50 rfl (fun w' hS j v hj => by have hm : w'.heap[gL]? = some (Obj.cells rL.toArray 50 (0, 0)) := hS.mem (by repeat (first | exact List.Mem.head _ | apply List.Mem.tail)); have := hL.get (plsC_at L t p hpi j v hj); rw [Nat.zero_add]; simp only [World.cell?, hm]; simpa using this)) ?_
              refine lstepB rfl rfl rfl (run_call1 cb30 (.cons (.tmp rfl) .nil) (fun w _ => placeK p hok w)) ?_
              refine lstepB rfl rfl rfl (run_move (.tmp rfl)) ?_
              refine lstepB rfl rfl rfl (run_neq (p := false) (.tmp rfl) (.tmp rfl) (by rw [f3]; exact (by simp))) ?_
              refine lnil ?_
              refine xw_then ?_
              refine cw_cond_false (.tmp rfl) ?_
              refine cw_skip ?_
              refine xw_in ?_
              refine xw_then ?_
              refine cw_region ?_
              refine lstepB rfl rfl rfl (run_move (.tmp rfl)) ?_
              refine lstepB rfl rfl rfl (run_add (.tmp rfl) .const (by first | exact IntWalk.i64_in _ (by omega) | exact rfl)) ?_
              refine lstepB rfl rfl rfl (run_assign (.tmp rfl)) ?_
              refine lnil ?_
              exact xw_round (t + 1) ⟨by omega, by omega⟩ (by show b + 1 - (t + 1) < b + 1 - t; omega) (by repeat (first | exact Less.nil | refine Less.cons rfl ?_)) (by repeat (first | exact Pick.nil | (apply Pick.cons; focus (repeat (first | exact Del.here | apply Del.there)))))
            ·
              refine cw_exit ?_
              refine xw_then_exit ?_
              refine xw_then_exit ?_
              refine xw_in_exit ?_
              refine xw_in ?_
              refine xw_then ?_
              refine cw_region ?_
              refine lstepB rfl rfl rfl (run_add (.tmp rfl) .const (by first | exact IntWalk.i64_in _ (by omega) | exact rfl)) ?_
              refine lstepB rfl rfl rfl (run_move (.tmp rfl)) ?_
              refine lnil ?_
              exact xw_round (c + 1) (by show c + 1 ≤ 4; omega) (by show 4 - (c + 1) < 4 - c; omega) (by repeat (first | exact Less.nil | refine Less.cons rfl ?_)) (by repeat (first | exact Pick.nil | (apply Pick.cons; focus (repeat (first | exact Del.here | apply Del.there)))))
        ·
          clear hc hcl
          refine cw_exit ?_
          refine xw_then_exit ?_
          refine xw_then_exit ?_
          refine xw_in_exit ?_
          refine xw_then ?_
          refine cw_seq ?_
          refine cw_seq ?_
          refine cw_region ?_
          refine lstepB rfl rfl rfl (run_loadN (.tmp rfl) kd24 sz24 (by repeat (first | exact List.Mem.head _ | apply List.Mem.tail)) (by repeat (first | exact Sub.done | apply Sub.take | apply Sub.skip))) ?_
          refine lstepB rfl rfl rfl (run_call1 cb25 (.cons (.tmp rfl) .nil) (fun w hS => by have := odd_none (w := w) (pa := none) (pc := 0) hv hm2 (by rw [ho]; exact fun i r h => by simp at h) (Nat.le_of_eq e0) ho'; rw [e0] at this; exact this)) ?_
          refine lstepB rfl rfl rfl (run_move (.tmp rfl)) ?_
          refine lstepB rfl rfl rfl (run_extract (.tmp rfl) rfl) ?_
          refine lstepB rfl rfl rfl (run_extract (.tmp rfl) rfl) ?_
          refine lstepB rfl rfl rfl (run_assign (.tmp rfl)) ?_
          refine lstepB rfl rfl rfl (run_assign (.tmp rfl)) ?_
          refine lnil ?_
          refine xw_then ?_
          refine cw_seq ?_
          refine cw_region ?_
          refine lstepB rfl rfl rfl (run_move (.tmp rfl)) ?_
          refine lstepB rfl rfl rfl (run_neq (.tmp rfl) .const (by first | exact decide_eq_true (by omega) | exact decide_eq_false (by omega) | exact rfl)) ?_
          refine lnil ?_
          refine xw_then ?_
          refine cw_cond_false (.tmp rfl) ?_
          refine cw_skip ?_
          refine xw_then ?_
          refine cw_seq ?_
          refine cw_seq ?_
          refine cw_region ?_
          refine lstepB rfl rfl rfl (run_fieldAddr (.tmp rfl) fa24_3 (by first | exact Nat.zero_add _ | exact rfl)) ?_
          refine lstepB rfl rfl rfl (run_load1 (.tmp rfl) kd22 (by repeat (first | exact List.Mem.head _ | apply List.Mem.tail)) (by exact rfl)) ?_
          refine lstepB rfl rfl rfl (run_len (.tmp rfl) sl22) ?_
          refine lstepB rfl rfl rfl (run_eql (.tmp rfl) .const (by first | exact decide_eq_true (by omega) | exact decide_eq_false (by omega) | exact rfl)) ?_
          refine lnil ?_
          refine xw_then ?_
          refine cw_cond_true (.tmp rfl) ?_
          refine cw_seq ?_
          refine cw_region ?_
          refine lstepB rfl rfl rfl (run_call1 cb12 .nil (fun w _ => awakeK w)) ?_
          refine lstepB rfl rfl rfl (run_assign (.tmp rfl)) ?_
          refine lnil ?_
          refine xw_then ?_
          refine cw_ret ?_
          refine xw_then_ret ?_
          refine xw_ret1 Try.results5 rfl (fun w hS => ⟨rfl, hS.kept⟩)
    case some u =>
      obtain ⟨gP, cP, rP⟩ := u
      dsimp only at tr hL ho ⊢
      obtain ⟨ppos, hP⟩ := ho
      have vg := tr.vg
      have hv := vg.valid
      have ho' := tr.look
      have hlong := tr.long
      have hlen := tr.len
      have hpits := vg.v.len
      have hm2 : g.pits.length ≤ 1000000 := by omega
      refine lstepB rfl rfl rfl (run_move (.tmp rfl)) ?_
      refine lstepB rfl rfl rfl (run_extract (.tmp rfl) rfl) ?_
      refine lstepB rfl rfl rfl (run_extract (.tmp rfl) rfl) ?_
      refine lstep rfl rfl rfl (run_alloc zr24) ?_
      intro b7 _
      refine lstep0 rfl rfl (run_storeN (.tmp rfl) (.tmp rfl) rfl sz24 rfl (by repeat (first | exact Upd.here | apply Upd.there)) (by repeat (first | exact Put.done | apply Put.put | apply Put.skip))) ?_
      refine lstepB rfl rfl rfl (run_assign (.tmp rfl)) ?_
      refine lnil ?_
      refine xw_then ?_
      refine cw_seq ?_
      refine cw_region ?_
      refine lstepB rfl rfl rfl (run_assign .const) ?_
      refine lnil ?_
      refine xw_then ?_
      refine cw_seq ?_
      refine cw_seq ?_
      refine cw_region ?_
      refine lstepB rfl rfl rfl (run_move (.tmp rfl)) ?_
      refine lstepB rfl rfl rfl (run_len (.tmp rfl) sl44) ?_
      refine lstepB rfl rfl rfl (run_move .const) ?_
      refine lnil ?_
      refine xw_then ?_
      refine cw_block ?_
      refine cw_loop (S := Nat) (fun i => [(46, .int .i64 ((i : Nat) : Int)), (9, .int .i64 (Truly.sumH L i))]) [(1, _), (2, _), (6, _), (7, _), (8, _), (44, _), (45, _)] (fun i => [(b7, Obj.cells [.int .i64 g.long, .int .i64 g.rise, .int .i64 g.change, .slice (some ⟨gP, 0, none⟩) g.pits.length cP].toArray 24 (0, 0)), (gL, Obj.cells rL.toArray 50 (0, 0)), (gP, Obj.cells rP.toArray 55 (0, 0))]) (fun i => i ≤ L.length) (fun i => L.length - i) 0 (Nat.zero_le _) (by repeat (first | exact Less.nil | refine Less.cons rfl ?_)) (by repeat (first | exact Pick.nil | (apply Pick.cons; focus (repeat (first | exact Del.here | apply Del.there))))) ?_
      intro i hi
      refine cw_seq ?_
      refine cw_region ?_
      refine lstepB rfl rfl rfl (run_lss (.tmp rfl) (.tmp rfl) rfl) ?_
      refine lnil ?_
      refine xw_then ?_
      refine cw_seq ?_
      refine cw_cond_p (.tmp rfl) (fun hl => ?_) (fun hl => ?_)
      ·
        have hiL : i < L.length := by omega
        obtain ⟨p, hpe⟩ : ∃ p, L.getD i Truly.no = p := ⟨_, rfl⟩
        have hpi : L[i]? = some p := by rw [← hpe]; exact Truly.some_ hiL
        have hok := tr.ok_ hiL
        have f1 := tr.hard_in hiL
        have f2 := tr.soil_in hiL
        have f3 := Truly.bit_one (tr.class_in hiL)
        have f4 := tr.work_in i hiL
        have hsb := tr.sumH_bound i (by omega)
        have hsc := Truly.sumH_succ (L := L) hiL
        have hcN : classN p.a p.b p.c < 4 := by unfold classN; split <;> (try split) <;> (try split) <;> omega
        simp only [Truly.S, InM] at f2
        rw [hpe] at hok f1 f2 f3 hsc
        have hok2 := hok
        simp only [okP] at hok2
        have hcl := classes_lt ((soilsL g).getD i noMix)
        have hd1 : classesM ((soilsL g).getD i noMix) / 2 ^ classN p.a p.b p.c < 2 ^ 32 := Nat.lt_of_le_of_lt (Nat.div_le_self _ _) (by omega)
        refine cw_skip ?_
        refine xw_then ?_
        refine cw_seq ?_
        refine cw_block ?_
        refine cw_seq ?_
        refine cw_region ?_
        refine lstepB rfl rfl rfl (run_move (.tmp rfl)) ?_
        refine lstepB rfl rfl rfl (run_indexAddr (i := i) (off' := 0 + i * 4) (.tmp rfl) (.tmp rfl) el44 (by omega) rfl) ?_
        refine lstepB rfl rfl rfl (run_loadN_at (l := plC p) (.tmp rfl) kd50 sz50 rfl (fun w' hS j v hj => by have hm : w'.heap[gL]? = some (Obj.cells rL.toArray 50 (0, 0)) := hS.mem (by repeat (first | exact List.Mem.head _ | apply List.Mem.tail)); have := hL.get (plsC_at L i p hpi j v hj); rw [Nat.zero_add]; simp only [World.cell?, hm]; simpa using this)) ?_
        refine lstep rfl rfl rfl (run_alloc zr50) ?_
        intro b11 _
        refine lstepB rfl rfl rfl (run_assign (.tmp rfl)) ?_
        refine lstep0 rfl rfl (run_storeN (.tmp rfl) (.tmp rfl) rfl sz50 rfl (by repeat (first | exact Upd.here | apply Upd.there)) (by repeat (first | exact Put.done | apply Put.put | apply Put.skip))) ?_
        refine lnil ?_
        refine xw_then ?_
        refine cw_seq ?_
        refine cw_region ?_
        refine lstepB rfl rfl rfl (run_loadN (.tmp rfl) kd24 sz24 (by repeat (first | exact List.Mem.head _ | apply List.Mem.tail)) (by repeat (first | exact Sub.done | apply Sub.take | apply Sub.skip))) ?_
        refine lstepB rfl rfl rfl (run_move (.tmp rfl)) ?_
        refine lstepB rfl rfl rfl (run_call1 cb13 (.cons (.tmp rfl) (.cons (.tmp rfl) .nil)) (fun w hS => hard_ok (pc := cP) hv hm2 (pitsAt_row (hS.mem (by repeat (first | exact List.Mem.head _ | apply List.Mem.tail))) hP) ho' (k := (i : Int)) (by omega) (by omega))) ?_
        refine lstepB rfl rfl rfl (run_move (.tmp rfl)) ?_
        refine lstepB rfl rfl rfl (run_extract (.tmp rfl) rfl) ?_
        refine lstepB rfl rfl rfl (run_extract (.tmp rfl) rfl) ?_
        refine lstep rfl rfl rfl (run_alloc zr28) ?_
        intro b12 _
        refine lstep0 rfl rfl (run_storeN (.tmp rfl) (.tmp rfl) rfl sz28 rfl (by repeat (first | exact Upd.here | apply Upd.there)) (by repeat (first | exact Put.done | apply Put.put | apply Put.skip))) ?_
        refine lstepB rfl rfl rfl (run_assign (.tmp rfl)) ?_
        refine lnil ?_
        refine xw_then ?_
        refine cw_seq ?_
        refine cw_region ?_
        refine lstepB rfl rfl rfl (run_loadN (.tmp rfl) kd24 sz24 (by repeat (first | exact List.Mem.head _ | apply List.Mem.tail)) (by repeat (first | exact Sub.done | apply Sub.take | apply Sub.skip))) ?_
        refine lstepB rfl rfl rfl (run_move (.tmp rfl)) ?_
        refine lstepB rfl rfl rfl (run_call1 cb15 (.cons (.tmp rfl) (.cons (.tmp rfl) .nil)) (fun w hS => parts_ok (pc := cP) hv hm2 (pitsAt_row (hS.mem (by repeat (first | exact List.Mem.head _ | apply List.Mem.tail))) hP) ho' (k := (i : Int)) (by omega) (by omega))) ?_
        refine lstepB rfl rfl rfl (run_move (.tmp rfl)) ?_
        refine lstepB rfl rfl rfl (run_extract (.tmp rfl) rfl) ?_
        refine lstepB rfl rfl rfl (run_extract (.tmp rfl) rfl) ?_
        refine lstepB rfl rfl rfl (run_extract (.tmp rfl) rfl) ?_
        refine lstepB rfl rfl rfl (run_extract (.tmp rfl) rfl) ?_
        refine lstep rfl rfl rfl (run_alloc zr28) ?_
        intro b14 _
        refine lstep rfl rfl rfl (run_alloc zr28) ?_
        intro b15 _
        refine lstep rfl rfl rfl (run_alloc zr28) ?_
        intro b16 _
        refine lstep0 rfl rfl (run_storeN (.tmp rfl) (.tmp rfl) rfl sz28 rfl (by repeat (first | exact Upd.here | apply Upd.there)) (by repeat (first | exact Put.done | apply Put.put | apply Put.skip))) ?_
        refine lstep0 rfl rfl (run_storeN (.tmp rfl) (.tmp rfl) rfl sz28 rfl (by repeat (first | exact Upd.here | apply Upd.there)) (by repeat (first | exact Put.done | apply Put.put | apply Put.skip))) ?_
        refine lstep0 rfl rfl (run_storeN (.tmp rfl) (.tmp rfl) rfl sz28 rfl (by repeat (first | exact Upd.here | apply Upd.there)) (by repeat (first | exact Put.done | apply Put.put | apply Put.skip))) ?_
        refine lstepB rfl rfl rfl (run_assign (.tmp rfl)) ?_
        refine lnil ?_
        refine xw_then ?_
        refine cw_seq ?_
        refine cw_region ?_
        refine lstepB rfl rfl rfl (run_loadN (.tmp rfl) kd24 sz24 (by repeat (first | exact List.Mem.head _ | apply List.Mem.tail)) (by repeat (first | exact Sub.done | apply Sub.take | apply Sub.skip))) ?_
        refine lstepB rfl rfl rfl (run_move (.tmp rfl)) ?_
        refine lstepB rfl rfl rfl (run_call1 cb17 (.cons (.tmp rfl) (.cons (.tmp rfl) .nil)) (fun w hS => class_ok (pc := cP) hv hm2 (pitsAt_row (hS.mem (by repeat (first | exact List.Mem.head _ | apply List.Mem.tail))) hP) ho' (k := (i : Int)) (by omega) (by omega))) ?_
        refine lstepB rfl rfl rfl (run_move (.tmp rfl)) ?_
        refine lstepB rfl rfl rfl (run_extract (.tmp rfl) rfl) ?_
        refine lstepB rfl rfl rfl (run_extract (.tmp rfl) rfl) ?_
        refine lstepB rfl rfl rfl (run_assign (.tmp rfl)) ?_
        refine lstepB rfl rfl rfl (run_assign (.tmp rfl)) ?_
        refine lnil ?_
        refine xw_then ?_
        refine cw_seq ?_
        refine cw_region ?_
        refine lstepB rfl rfl rfl (run_move (.tmp rfl)) ?_
        refine lstepB rfl rfl rfl (run_fieldAddr (.tmp rfl) fa50_0 (by first | exact Nat.zero_add _ | exact rfl)) ?_
        refine lstepB rfl rfl rfl (run_load1 (.tmp rfl) kd3 (by repeat (first | exact List.Mem.head _ | apply List.Mem.tail)) (by exact rfl)) ?_
        refine lstepB rfl rfl rfl (run_add (c := Truly.sumH L (i + 1)) (.tmp rfl) (.tmp rfl) (by rw [IntWalk.i64_in _ (by omega)]; omega)) ?_
        refine lstepB rfl rfl rfl (run_assign (.tmp rfl)) ?_
        refine lnil ?_
        refine xw_then ?_
        refine cw_seq ?_
        refine cw_region ?_
        refine lstepB rfl rfl rfl (run_loadN (.tmp rfl) kd24 sz24 (by repeat (first | exact List.Mem.head _ | apply List.Mem.tail)) (by repeat (first | exact Sub.done | apply Sub.take | apply Sub.skip))) ?_
        refine lstepB rfl rfl rfl (run_move (.tmp rfl)) ?_
        refine lstepB rfl rfl rfl (run_call1 cb19 (.cons (.tmp rfl) (.cons .const (.cons (.tmp rfl) .nil))) (fun w hS => work_ok (pc := cP) hv hm2 (pitsAt_row (hS.mem (by repeat (first | exact List.Mem.head _ | apply List.Mem.tail))) hP) ho' (x := 0) (y := (i : Int)) (by omega) (by omega) (by omega))) ?_
        refine lstepB rfl rfl rfl (run_move (.tmp rfl)) ?_
        refine lstepB rfl rfl rfl (run_extract (.tmp rfl) rfl) ?_
        refine lstepB rfl rfl rfl (run_extract (.tmp rfl) rfl) ?_
        refine lstep rfl rfl rfl (run_alloc zr28) ?_
        intro b20 _
        refine lstep0 rfl rfl (run_storeN (.tmp rfl) (.tmp rfl) rfl sz28 rfl (by repeat (first | exact Upd.here | apply Upd.there)) (by repeat (first | exact Put.done | apply Put.put | apply Put.skip))) ?_
        refine lstepB rfl rfl rfl (run_assign (.tmp rfl)) ?_
        refine lnil ?_
        refine xw_then ?_
        refine cw_seq ?_
        refine cw_region ?_
        refine lstepB rfl rfl rfl (run_move (.tmp rfl)) ?_
        refine lstepB rfl rfl rfl (run_neq (.tmp rfl) .const (by first | exact decide_eq_true (by omega) | exact decide_eq_false (by omega) | exact rfl)) ?_
        refine lstepB rfl rfl rfl (run_move (.tmp rfl)) ?_
        refine lyes rfl rfl rfl rfl ?_
        refine gstepB rfl rfl (run_loadN (.tmp rfl) kd28 sz28 (by repeat (first | exact List.Mem.head _ | apply List.Mem.tail)) (by repeat (first | exact Sub.done | apply Sub.take | apply Sub.skip))) ?_
        refine lyes rfl rfl rfl rfl ?_
        refine gstepB rfl rfl (run_fieldAddr (.tmp rfl) fa50_0 (by first | exact Nat.zero_add _ | exact rfl)) ?_
        refine lyes rfl rfl rfl rfl ?_
        refine gstepB rfl rfl (run_load1 (.tmp rfl) kd3 (by repeat (first | exact List.Mem.head _ | apply List.Mem.tail)) (by exact rfl)) ?_
        refine lyes rfl rfl rfl rfl ?_
        refine gstepB rfl rfl (run_call1 cb29 (.cons (.tmp rfl) (.cons (.tmp rfl) .nil)) (fun w _ => insideK ⟨_, _⟩ _ f1 w)) ?_
        refine lyes rfl rfl rfl rfl ?_
        refine gstepB rfl rfl (run_not (.tmp rfl) (by first | exact Bool.not_true | exact Bool.not_false | exact rfl)) ?_
        refine lstepB rfl rfl rfl (by first | exact run_pick_true (.tmp rfl) .const | exact run_pick_false (.tmp rfl) (.tmp rfl)) ?_
        refine lstepB rfl rfl rfl (run_move (.tmp rfl)) ?_
        refine lyes rfl rfl rfl rfl ?_
        refine gstepB rfl rfl (run_move (.tmp rfl)) ?_
        refine lyes rfl rfl rfl rfl ?_
        refine gstepB rfl rfl (run_neq (.tmp rfl) .const (by first | exact decide_eq_true (by omega) | exact decide_eq_false (by omega) | exact rfl)) ?_
        refine lstepB rfl rfl rfl (by first | exact run_pick_true (.tmp rfl) .const | exact run_pick_false (.tmp rfl) (.tmp rfl)) ?_
        refine lstepB rfl rfl rfl (run_move (.tmp rfl)) ?_
        refine lyes rfl rfl rfl rfl ?_
        refine gstepB rfl rfl (run_loadN (.tmp rfl) kd28 sz28 (by repeat (first | exact List.Mem.head _ | apply List.Mem.tail)) (by repeat (first | exact Sub.done | apply Sub.take | apply Sub.skip))) ?_
        refine lyes rfl rfl rfl rfl ?_
        refine gstepB rfl rfl (run_fieldAddr (.tmp rfl) fa50_1 (by first | exact Nat.zero_add _ | exact rfl)) ?_
        refine lyes rfl rfl rfl rfl ?_
        refine gstepB rfl rfl (run_load1 (.tmp rfl) kd3 (by repeat (first | exact List.Mem.head _ | apply List.Mem.tail)) (by exact rfl)) ?_
        refine lyes rfl rfl rfl rfl ?_
        refine gstepB rfl rfl (run_call1 cb29 (.cons (.tmp rfl) (.cons (.tmp rfl) .nil)) (fun w _ => insideK ⟨_, _⟩ _ ⟨f2.1, f2.2.1⟩ w)) ?_
        refine lyes rfl rfl rfl rfl ?_
        refine gstepB rfl rfl (run_not (.tmp rfl) (by first | exact Bool.not_true | exact Bool.not_false | exact rfl)) ?_
        refine lstepB rfl rfl rfl (by first | exact run_pick_true (.tmp rfl) .const | exact run_pick_false (.tmp rfl) (.tmp rfl)) ?_
        refine lstepB rfl rfl rfl (run_move (.tmp rfl)) ?_
        refine lyes rfl rfl rfl rfl ?_
        refine gstepB rfl rfl (run_loadN (.tmp rfl) kd28 sz28 (by repeat (first | exact List.Mem.head _ | apply List.Mem.tail)) (by repeat (first | exact Sub.done | apply Sub.take | apply Sub.skip))) ?_
        refine lyes rfl rfl rfl rfl ?_
        refine gstepB rfl rfl (run_fieldAddr (.tmp rfl) fa50_2 (by first | exact Nat.zero_add _ | exact rfl)) ?_
        refine lyes rfl rfl rfl rfl ?_
        refine gstepB rfl rfl (run_load1 (.tmp rfl) kd3 (by repeat (first | exact List.Mem.head _ | apply List.Mem.tail)) (by exact rfl)) ?_
        refine lyes rfl rfl rfl rfl ?_
        refine gstepB rfl rfl (run_call1 cb29 (.cons (.tmp rfl) (.cons (.tmp rfl) .nil)) (fun w _ => insideK ⟨_, _⟩ _ ⟨f2.2.2.1, f2.2.2.2.1⟩ w)) ?_
        refine lyes rfl rfl rfl rfl ?_
        refine gstepB rfl rfl (run_not (.tmp rfl) (by first | exact Bool.not_true | exact Bool.not_false | exact rfl)) ?_
        refine lstepB rfl rfl rfl (by first | exact run_pick_true (.tmp rfl) .const | exact run_pick_false (.tmp rfl) (.tmp rfl)) ?_
        refine lstepB rfl rfl rfl (run_move (.tmp rfl)) ?_
        refine lyes rfl rfl rfl rfl ?_
        refine gstepB rfl rfl (run_loadN (.tmp rfl) kd28 sz28 (by repeat (first | exact List.Mem.head _ | apply List.Mem.tail)) (by repeat (first | exact Sub.done | apply Sub.take | apply Sub.skip))) ?_
        refine lyes rfl rfl rfl rfl ?_
        refine gstepB rfl rfl (run_fieldAddr (.tmp rfl) fa50_3 (by first | exact Nat.zero_add _ | exact rfl)) ?_
        refine lyes rfl rfl rfl rfl ?_
        refine gstepB rfl rfl (run_load1 (.tmp rfl) kd3 (by repeat (first | exact List.Mem.head _ | apply List.Mem.tail)) (by exact rfl)) ?_
        refine lyes rfl rfl rfl rfl ?_
        refine gstepB rfl rfl (run_call1 cb29 (.cons (.tmp rfl) (.cons (.tmp rfl) .nil)) (fun w _ => insideK ⟨_, _⟩ _ f2.2.2.2.2 w)) ?_
        refine lyes rfl rfl rfl rfl ?_
        refine gstepB rfl rfl (run_not (.tmp rfl) (by first | exact Bool.not_true | exact Bool.not_false | exact rfl)) ?_
        refine lstepB rfl rfl rfl (by first | exact run_pick_true (.tmp rfl) .const | exact run_pick_false (.tmp rfl) (.tmp rfl)) ?_
        refine lstepB rfl rfl rfl (run_move (.tmp rfl)) ?_
        refine lyes rfl rfl rfl rfl ?_
        refine gstepB rfl rfl (run_move (.tmp rfl)) ?_
        refine lyes rfl rfl rfl rfl ?_
        refine gstepB rfl rfl (run_neq (.tmp rfl) .const (by first | exact decide_eq_true (by omega) | exact decide_eq_false (by omega) | exact rfl)) ?_
        refine lstepB rfl rfl rfl (by first | exact run_pick_true (.tmp rfl) .const | exact run_pick_false (.tmp rfl) (.tmp rfl)) ?_
        refine lstepB rfl rfl rfl (run_move (.tmp rfl)) ?_
        refine lyes rfl rfl rfl rfl ?_
        refine gstepB rfl rfl (run_move (.tmp rfl)) ?_
        refine lyes rfl rfl rfl rfl ?_
        refine gstepB rfl rfl (run_loadN (.tmp rfl) kd50 sz50 (by repeat (first | exact List.Mem.head _ | apply List.Mem.tail)) (by repeat (first | exact Sub.done | apply Sub.take | apply Sub.skip))) ?_
        refine lyes rfl rfl rfl rfl ?_
        refine gstepB rfl rfl (run_call1 cb30 (.cons (.tmp rfl) .nil) (fun w _ => placeK p hok w)) ?_
        refine lyes rfl rfl rfl rfl ?_
        refine gstepB rfl rfl (run_shr (a := classesM ((soilsL g).getD i noMix)) (z := classN p.a p.b p.c) (.tmp rfl) (.tmp rfl) (by omega)) ?_
        refine lyes rfl rfl rfl rfl ?_
        refine gstepB rfl rfl (run_and (.tmp rfl) .const (and_one hd1)) ?_
        refine lyes rfl rfl rfl rfl ?_
        refine gstepB rfl rfl (run_eql (p := false) (.tmp rfl) .const (decide_eq_false (by omega))) ?_
        refine lstepB rfl rfl rfl (by first | exact run_pick_true (.tmp rfl) .const | exact run_pick_false (.tmp rfl) (.tmp rfl)) ?_
        refine lstepB rfl rfl rfl (run_move (.tmp rfl)) ?_
        refine lyes rfl rfl rfl rfl ?_
        refine gstepB rfl rfl (run_move (.tmp rfl)) ?_
        refine lyes rfl rfl rfl rfl ?_
        refine gstepB rfl rfl (run_neq (.tmp rfl) .const (by first | exact decide_eq_true (by omega) | exact decide_eq_false (by omega) | exact rfl)) ?_
        refine lstepB rfl rfl rfl (by first | exact run_pick_true (.tmp rfl) .const | exact run_pick_false (.tmp rfl) (.tmp rfl)) ?_
        refine lstepB rfl rfl rfl (run_move (.tmp rfl)) ?_
        refine lyes rfl rfl rfl rfl ?_
        refine gstepB rfl rfl (run_loadN (.tmp rfl) kd28 sz28 (by repeat (first | exact List.Mem.head _ | apply List.Mem.tail)) (by repeat (first | exact Sub.done | apply Sub.take | apply Sub.skip))) ?_
        refine lyes rfl rfl rfl rfl ?_
        refine gstepB rfl rfl (run_move (.tmp rfl)) ?_
        refine lyes rfl rfl rfl rfl ?_
        refine gstepB rfl rfl (run_call1 cb29 (.cons (.tmp rfl) (.cons (.tmp rfl) .nil)) (fun w _ => insideK ⟨_, _⟩ _ f4 w)) ?_
        refine lyes rfl rfl rfl rfl ?_
        refine gstepB rfl rfl (run_not (.tmp rfl) (by first | exact Bool.not_true | exact Bool.not_false | exact rfl)) ?_
        refine lstepB rfl rfl rfl (by first | exact run_pick_true (.tmp rfl) .const | exact run_pick_false (.tmp rfl) (.tmp rfl)) ?_
        refine lnil ?_
        refine xw_then ?_
        refine cw_cond_false (.tmp rfl) ?_
        refine cw_skip ?_
        refine xw_in ?_
        refine xw_then ?_
        refine cw_region ?_
        refine lstepB rfl rfl rfl (run_add (.tmp rfl) .const (by first | exact IntWalk.i64_in _ (by omega) | exact rfl)) ?_
        refine lstepB rfl rfl rfl (run_move (.tmp rfl)) ?_
        refine lnil ?_
        exact xw_round (i + 1) (by show i + 1 ≤ _; omega) (by show L.length - (i + 1) < L.length - i; omega) (by repeat (first | exact Less.nil | refine Less.cons rfl ?_)) (by repeat (first | exact Pick.nil | (apply Pick.cons; focus (repeat (first | exact Del.here | apply Del.there)))))
      ·
        clear hi hl
        refine cw_exit ?_
        refine xw_then_exit ?_
        refine xw_then_exit ?_
        refine xw_in_exit ?_
        refine xw_then ?_
        refine cw_seq ?_
        refine cw_seq ?_
        refine cw_region ?_
        refine lstepB rfl rfl rfl (run_move .const) ?_
        refine lnil ?_
        refine xw_then ?_
        refine cw_block ?_
        refine cw_loop (S := Nat) (fun c => [(138, .int .i64 ((c : Nat) : Int))]) [(1, _), (2, _), (6, _), (7, _), (8, _)] (fun c => [(b7, Obj.cells [.int .i64 g.long, .int .i64 g.rise, .int .i64 g.change, .slice (some ⟨gP, 0, none⟩) g.pits.length cP].toArray 24 (0, 0)), (gL, Obj.cells rL.toArray 50 (0, 0)), (gP, Obj.cells rP.toArray 55 (0, 0))]) (fun c => c ≤ 4) (fun c => 4 - c) 0 (Nat.zero_le _) (by repeat (first | exact Less.nil | refine Less.cons rfl ?_)) (by repeat (first | exact Pick.nil | (apply Pick.cons; focus (repeat (first | exact Del.here | apply Del.there))))) ?_
        intro c hc
        refine cw_seq ?_
        refine cw_region ?_
        refine lstepB rfl rfl rfl (run_lss (.tmp rfl) .const rfl) ?_
        refine lnil ?_
        refine xw_then ?_
        refine cw_seq ?_
        refine cw_cond_p (.tmp rfl) (fun hcl => ?_) (fun hcl => ?_)
        ·
          have hc4 : 0 ≤ (c : Int) ∧ (c : Int) < 4 := by omega
          have hct : ((c : Int)).toNat = c := Int.toNat_natCast c
          have hpl := tr.places
          obtain ⟨A, B, e, hst, hcase⟩ : ∃ A B e : Int, (∀ w2 pa pc, PitsAt w2 pa g.pits → Gives Try.prog 21 [.agg [.int .i64 g.long, .int .i64 g.rise, .int .i64 g.change, .slice pa g.pits.length pc].toArray, .int .i64 ((c : Nat) : Int)] w2 (.tuple #[.int .i64 A, .int .i64 B, .int .i64 e])) ∧
              ((e = 4 ∧ A = 0 ∧ B = 0) ∨ (e = 0 ∧ ∃ a b : Nat, A = (a : Int) ∧ B = (b : Int) ∧ a ≤ b ∧ b < L.length ∧ (∀ i, a ≤ i → i ≤ b → sureB (soilsL g) c i = true))) := by
            have hL2 : longG g c = longF (sureB (soilsL g) c) (placesN g) := rfl
            rcases long_spec (sureB (soilsL g) c) (placesN g) with ⟨h1, h2, h3⟩ | ⟨h1, a, b, h2, h3, h4, h5, h6, _⟩
            · refine ⟨0, 0, 4, fun w2 pa pc hp2 => ?_, .inl ⟨rfl, rfl, rfl⟩⟩
              exact stretch_none (c := (c : Int)) hv hm2 hp2 ho' hc4 (by rw [Int.toNat_natCast, hL2]; omega)
            · refine ⟨(a : Int), (b : Int), 0, fun w2 pa pc hp2 => ?_, .inr ⟨rfl, a, b, rfl, rfl, h4, by omega, h6⟩⟩
              have := stretch_ok (c := (c : Int)) (pc := pc) hv hm2 hp2 ho' hc4 (by rw [Int.toNat_natCast, hL2]; omega)
              rw [Int.toNat_natCast, hL2, h2, h3] at this
              exact this
          refine cw_skip ?_
          refine xw_then ?_
          refine cw_seq ?_
          refine cw_block ?_
          refine cw_seq ?_
          refine cw_region ?_
          refine lstepB rfl rfl rfl (run_move (.tmp rfl)) ?_
          refine lstepB rfl rfl rfl (run_assign (.tmp rfl)) ?_
          refine lnil ?_
          refine xw_then ?_
          refine cw_seq ?_
          refine cw_region ?_
          refine lstepB rfl rfl rfl (run_loadN (.tmp rfl) kd24 sz24 (by repeat (first | exact List.Mem.head _ | apply List.Mem.tail)) (by repeat (first | exact Sub.done | apply Sub.take | apply Sub.skip))) ?_
          refine lstepB rfl rfl rfl (run_move (.tmp rfl)) ?_
          refine lstepB rfl rfl rfl (run_call1 cb21 (.cons (.tmp rfl) (.cons (.tmp rfl) .nil)) (fun w hS => hst w _ _ (pitsAt_row (hS.mem (by repeat (first | exact List.Mem.head _ | apply List.Mem.tail))) hP))) ?_
          rcases hcase with ⟨rfl, rfl, rfl⟩ | ⟨rfl, a, b, rfl, rfl, hab, hbl, hsure⟩
          ·
            refine lstepB rfl rfl rfl (run_move (.tmp rfl)) ?_
            refine lstepB rfl rfl rfl (run_extract (.tmp rfl) rfl) ?_
            refine lstepB rfl rfl rfl (run_extract (.tmp rfl) rfl) ?_
            refine lstepB rfl rfl rfl (run_extract (.tmp rfl) rfl) ?_
            refine lstepB rfl rfl rfl (run_assign (.tmp rfl)) ?_
            refine lstepB rfl rfl rfl (run_assign (.tmp rfl)) ?_
            refine lstepB rfl rfl rfl (run_assign (.tmp rfl)) ?_
            refine lnil ?_
            refine xw_then ?_
            refine cw_seq ?_
            refine cw_seq ?_
            refine cw_region ?_
            refine lstepB rfl rfl rfl (run_move (.tmp rfl)) ?_
            refine lstepB rfl rfl rfl (run_neq (.tmp rfl) .const (by first | exact decide_eq_true (by omega) | exact decide_eq_false (by omega) | exact rfl)) ?_
            refine lstepB rfl rfl rfl (run_move (.tmp rfl)) ?_
            first | (refine lyes rfl rfl rfl rfl ?_; refine gstepB rfl rfl (run_move (.tmp rfl)) ?_) | refine lskip rfl rfl rfl rfl rfl rfl rfl ?_
            first | (refine lyes rfl rfl rfl rfl ?_; refine gstepB rfl rfl (run_neq (.tmp rfl) .const (by first | exact decide_eq_true (by omega) | exact decide_eq_false (by omega) | exact rfl)) ?_) | refine lskip rfl rfl rfl rfl rfl rfl rfl ?_
            refine lstepB rfl rfl rfl (by first | exact run_pick_true (.tmp rfl) (.tmp rfl) | exact run_pick_false (.tmp rfl) .const) ?_
            refine lstepB rfl rfl rfl (run_move (.tmp rfl)) ?_
            first | (refine lyes rfl rfl rfl rfl ?_; refine gstepB rfl rfl (run_move (.tmp rfl)) ?_) | refine lskip rfl rfl rfl rfl rfl rfl rfl ?_
            first | (refine lyes rfl rfl rfl rfl ?_; refine gstepB rfl rfl (run_lss (.tmp rfl) .const (by first | exact decide_eq_true (by omega) | exact decide_eq_false (by omega) | exact rfl)) ?_) | refine lskip rfl rfl rfl rfl rfl rfl rfl ?_
            refine lstepB rfl rfl rfl (by first | exact run_pick_true (.tmp rfl) .const | exact run_pick_false (.tmp rfl) (.tmp rfl)) ?_
            refine lstepB rfl rfl rfl (run_move (.tmp rfl)) ?_
            first | (refine lyes rfl rfl rfl rfl ?_; refine gstepB rfl rfl (run_move (.tmp rfl)) ?_) | refine lskip rfl rfl rfl rfl rfl rfl rfl ?_
            first | (refine lyes rfl rfl rfl rfl ?_; refine gstepB rfl rfl (run_move (.tmp rfl)) ?_) | refine lskip rfl rfl rfl rfl rfl rfl rfl ?_
            first | (refine lyes rfl rfl rfl rfl ?_; refine gstepB rfl rfl (run_len (.tmp rfl) sl44) ?_) | refine lskip rfl rfl rfl rfl rfl rfl rfl ?_
            first | (refine lyes rfl rfl rfl rfl ?_; refine gstepB rfl rfl (run_geq (.tmp rfl) (.tmp rfl) (by first | exact decide_eq_true (by omega) | exact decide_eq_false (by omega) | exact rfl)) ?_) | refine lskip rfl rfl rfl rfl rfl rfl rfl ?_
            refine lstepB rfl rfl rfl (by first | exact run_pick_true (.tmp rfl) .const | exact run_pick_false (.tmp rfl) (.tmp rfl)) ?_
            refine lnil ?_
            refine xw_then ?_
            refine cw_cond_false (.tmp rfl) ?_
            refine cw_skip ?_
            refine xw_then ?_
            refine cw_seq ?_
            refine cw_region ?_
            refine lstepB rfl rfl rfl (run_move (.tmp rfl)) ?_
            refine lstepB rfl rfl rfl (run_assign (.tmp rfl)) ?_
            refine lnil ?_
            refine xw_then ?_
            refine cw_block ?_
            refine cw_loop (S := Nat) (fun t => [(26, .int .i64 ((t : Nat) : Int))]) [(1, _), (2, _), (6, _), (7, _), (8, _), (22, _), (24, _), (25, _), (138, _)] (fun t => [(b7, Obj.cells [.int .i64 g.long, .int .i64 g.rise, .int .i64 g.change, .slice (some ⟨gP, 0, none⟩) g.pits.length cP].toArray 24 (0, 0)), (gL, Obj.cells rL.toArray 50 (0, 0)), (gP, Obj.cells rP.toArray 55 (0, 0))]) (fun t => t = 0) (fun t => 0 - t) 0 rfl (by repeat (first | exact Less.nil | refine Less.cons rfl ?_)) (by repeat (first | exact Pick.nil | (apply Pick.cons; focus (repeat (first | exact Del.here | apply Del.there))))) ?_
            intro t ht
            subst ht
            refine cw_seq ?_
            refine cw_seq ?_
            refine cw_region ?_
            refine lstepB rfl rfl rfl (run_move (.tmp rfl)) ?_
            refine lstepB rfl rfl rfl (run_eql (.tmp rfl) .const (by first | exact decide_eq_true (by omega) | exact decide_eq_false (by omega) | exact rfl)) ?_
            refine lstepB rfl rfl rfl (run_move (.tmp rfl)) ?_
            first | (refine lyes rfl rfl rfl rfl ?_; refine gstepB rfl rfl (run_move (.tmp rfl)) ?_) | refine lskip rfl rfl rfl rfl rfl rfl rfl ?_
            first | (refine lyes rfl rfl rfl rfl ?_; refine gstepB rfl rfl (run_move (.tmp rfl)) ?_) | refine lskip rfl rfl rfl rfl rfl rfl rfl ?_
            first | (refine lyes rfl rfl rfl rfl ?_; refine gstepB rfl rfl (run_leq (.tmp rfl) (.tmp rfl) rfl) ?_) | refine lskip rfl rfl rfl rfl rfl rfl rfl ?_
            refine lstepB rfl rfl rfl (by first | exact run_pick_true (.tmp rfl) (.tmp rfl) | exact run_pick_false (.tmp rfl) .const) ?_
            refine lnil ?_
            refine xw_then ?_
            refine cw_cond_false (.tmp rfl) ?_
            refine cw_exit ?_
            refine xw_then_exit ?_
            refine xw_then_exit ?_
            refine xw_in_exit ?_
            refine xw_in ?_
            refine xw_then ?_
            refine cw_region ?_
            refine lstepB rfl rfl rfl (run_add (.tmp rfl) .const (by first | exact IntWalk.i64_in _ (by omega) | exact rfl)) ?_
            refine lstepB rfl rfl rfl (run_move (.tmp rfl)) ?_
            refine lnil ?_
            exact xw_round (c + 1) (by show c + 1 ≤ 4; omega) (by show 4 - (c + 1) < 4 - c; omega) (by repeat (first | exact Less.nil | refine Less.cons rfl ?_)) (by repeat (first | exact Pick.nil | (apply Pick.cons; focus (repeat (first | exact Del.here | apply Del.there)))))
          ·
            refine lstepB rfl rfl rfl (run_move (.tmp rfl)) ?_
            refine lstepB rfl rfl rfl (run_extract (.tmp rfl) rfl) ?_
            refine lstepB rfl rfl rfl (run_extract (.tmp rfl) rfl) ?_
            refine lstepB rfl rfl rfl (run_extract (.tmp rfl) rfl) ?_
            refine lstepB rfl rfl rfl (run_assign (.tmp rfl)) ?_
            refine lstepB rfl rfl rfl (run_assign (.tmp rfl)) ?_
            refine lstepB rfl rfl rfl (run_assign (.tmp rfl)) ?_
            refine lnil ?_
            refine xw_then ?_
            refine cw_seq ?_
            refine cw_seq ?_
            refine cw_region ?_
            refine lstepB rfl rfl rfl (run_move (.tmp rfl)) ?_
            refine lstepB rfl rfl rfl (run_neq (.tmp rfl) .const (by first | exact decide_eq_true (by omega) | exact decide_eq_false (by omega) | exact rfl)) ?_
            refine lstepB rfl rfl rfl (run_move (.tmp rfl)) ?_
            first | (refine lyes rfl rfl rfl rfl ?_; refine gstepB rfl rfl (run_move (.tmp rfl)) ?_) | refine lskip rfl rfl rfl rfl rfl rfl rfl ?_
            first | (refine lyes rfl rfl rfl rfl ?_; refine gstepB rfl rfl (run_neq (.tmp rfl) .const (by first | exact decide_eq_true (by omega) | exact decide_eq_false (by omega) | exact rfl)) ?_) | refine lskip rfl rfl rfl rfl rfl rfl rfl ?_
            refine lstepB rfl rfl rfl (by first | exact run_pick_true (.tmp rfl) (.tmp rfl) | exact run_pick_false (.tmp rfl) .const) ?_
            refine lstepB rfl rfl rfl (run_move (.tmp rfl)) ?_
            first | (refine lyes rfl rfl rfl rfl ?_; refine gstepB rfl rfl (run_move (.tmp rfl)) ?_) | refine lskip rfl rfl rfl rfl rfl rfl rfl ?_
            first | (refine lyes rfl rfl rfl rfl ?_; refine gstepB rfl rfl (run_lss (.tmp rfl) .const (by first | exact decide_eq_true (by omega) | exact decide_eq_false (by omega) | exact rfl)) ?_) | refine lskip rfl rfl rfl rfl rfl rfl rfl ?_
            refine lstepB rfl rfl rfl (by first | exact run_pick_true (.tmp rfl) .const | exact run_pick_false (.tmp rfl) (.tmp rfl)) ?_
            refine lstepB rfl rfl rfl (run_move (.tmp rfl)) ?_
            first | (refine lyes rfl rfl rfl rfl ?_; refine gstepB rfl rfl (run_move (.tmp rfl)) ?_) | refine lskip rfl rfl rfl rfl rfl rfl rfl ?_
            first | (refine lyes rfl rfl rfl rfl ?_; refine gstepB rfl rfl (run_move (.tmp rfl)) ?_) | refine lskip rfl rfl rfl rfl rfl rfl rfl ?_
            first | (refine lyes rfl rfl rfl rfl ?_; refine gstepB rfl rfl (run_len (.tmp rfl) sl44) ?_) | refine lskip rfl rfl rfl rfl rfl rfl rfl ?_
            first | (refine lyes rfl rfl rfl rfl ?_; refine gstepB rfl rfl (run_geq (.tmp rfl) (.tmp rfl) (by first | exact decide_eq_true (by omega) | exact decide_eq_false (by omega) | exact rfl)) ?_) | refine lskip rfl rfl rfl rfl rfl rfl rfl ?_
            refine lstepB rfl rfl rfl (by first | exact run_pick_true (.tmp rfl) .const | exact run_pick_false (.tmp rfl) (.tmp rfl)) ?_
            refine lnil ?_
            refine xw_then ?_
            refine cw_cond_false (.tmp rfl) ?_
            refine cw_skip ?_
            refine xw_then ?_
            refine cw_seq ?_
            refine cw_region ?_
            refine lstepB rfl rfl rfl (run_move (.tmp rfl)) ?_
            refine lstepB rfl rfl rfl (run_assign (.tmp rfl)) ?_
            refine lnil ?_
            refine xw_then ?_
            refine cw_block ?_
            refine cw_loop (S := Nat) (fun t => [(26, .int .i64 ((t : Nat) : Int))]) [(1, _), (2, _), (6, _), (7, _), (8, _), (22, _), (24, _), (25, _), (138, _)] (fun t => [(b7, Obj.cells [.int .i64 g.long, .int .i64 g.rise, .int .i64 g.change, .slice (some ⟨gP, 0, none⟩) g.pits.length cP].toArray 24 (0, 0)), (gL, Obj.cells rL.toArray 50 (0, 0)), (gP, Obj.cells rP.toArray 55 (0, 0))]) (fun t => a ≤ t ∧ t ≤ b + 1) (fun t => b + 1 - t) a ⟨Nat.le_refl _, by omega⟩ (by repeat (first | exact Less.nil | refine Less.cons rfl ?_)) (by repeat (first | exact Pick.nil | (apply Pick.cons; focus (repeat (first | exact Del.here | apply Del.there))))) ?_
            intro t ht
            obtain ⟨t1, t2⟩ := ht
            refine cw_seq ?_
            refine cw_seq ?_
            refine cw_region ?_
            refine lstepB rfl rfl rfl (run_move (.tmp rfl)) ?_
            refine lstepB rfl rfl rfl (run_eql (.tmp rfl) .const (by first | exact decide_eq_true (by omega) | exact decide_eq_false (by omega) | exact rfl)) ?_
            refine lstepB rfl rfl rfl (run_move (.tmp rfl)) ?_
            refine lyes rfl rfl rfl rfl ?_
            refine gstepB rfl rfl (run_move (.tmp rfl)) ?_
            refine lyes rfl rfl rfl rfl ?_
            refine gstepB rfl rfl (run_move (.tmp rfl)) ?_
            refine lyes rfl rfl rfl rfl ?_
            refine gstepB rfl rfl (run_leq (.tmp rfl) (.tmp rfl) rfl) ?_
            refine lstepB rfl rfl rfl (run_pick_true (.tmp rfl) (.tmp rfl)) ?_
            refine lnil ?_
            refine xw_then ?_
            refine cw_cond_p (.tmp rfl) (fun htb => ?_) (fun htb => ?_)
            ·
              have hiL : t < L.length := by omega
              obtain ⟨p, hpe⟩ : ∃ p, L.getD t Truly.no = p := ⟨_, rfl⟩
              have hpi : L[t]? = some p := by rw [← hpe]; exact Truly.some_ hiL
              have hok := tr.ok_ hiL
              have f3 := tr.sure_in hiL (hsure t t1 (by omega))
              rw [hpe] at hok f3
              refine cw_skip ?_
              refine xw_then ?_
              refine cw_seq ?_
              refine cw_block ?_
              refine cw_seq ?_
              refine cw_region ?_
              refine lstepB rfl rfl rfl (run_move (.tmp rfl)) ?_
              refine lstepB rfl rfl rfl (run_move (.tmp rfl)) ?_
              refine lstepB rfl rfl rfl (run_indexAddr (i := t) (off' := 0 + t * 4) (.tmp rfl) (.tmp rfl) el44 (by omega) rfl) ?_
              refine lstepB rfl rfl rfl (run_loadN_at (l := plC p) (.tmp rfl) kd50 sz50 rfl (fun w' hS j v hj => by have hm : w'.heap[gL]? = some (Obj.cells rL.toArray 50 (0, 0)) := hS.mem (by repeat (first | exact List.Mem.head _ | apply List.Mem.tail)); have := hL.get (plsC_at L t p hpi j v hj); rw [Nat.zero_add]; simp only [World.cell?, hm]; simpa using this)) ?_
              refine lstepB rfl rfl rfl (run_call1 cb30 (.cons (.tmp rfl) .nil) (fun w _ => placeK p hok w)) ?_
              refine lstepB rfl rfl rfl (run_move (.tmp rfl)) ?_
              refine lstepB rfl rfl rfl (run_neq (p := false) (.tmp rfl) (.tmp rfl) (by rw [f3]; exact (by simp))) ?_
              refine lnil ?_
              refine xw_then ?_
              refine cw_cond_false (.tmp rfl) ?_
              refine cw_skip ?_
              refine xw_in ?_
              refine xw_then ?_
              refine cw_region ?_
              refine lstepB rfl rfl rfl (run_move (.tmp rfl)) ?_
              refine lstepB rfl rfl rfl (run_add (.tmp rfl) .const (by first | exact IntWalk.i64_in _ (by omega) | exact rfl)) ?_
              refine lstepB rfl rfl rfl (run_assign (.tmp rfl)) ?_
              refine lnil ?_
              exact xw_round (t + 1) ⟨by omega, by omega⟩ (by show b + 1 - (t + 1) < b + 1 - t; omega) (by repeat (first | exact Less.nil | refine Less.cons rfl ?_)) (by repeat (first | exact Pick.nil | (apply Pick.cons; focus (repeat (first | exact Del.here | apply Del.there)))))
            ·
              refine cw_exit ?_
              refine xw_then_exit ?_
              refine xw_then_exit ?_
              refine xw_in_exit ?_
              refine xw_in ?_
              refine xw_then ?_
              refine cw_region ?_
              refine lstepB rfl rfl rfl (run_add (.tmp rfl) .const (by first | exact IntWalk.i64_in _ (by omega) | exact rfl)) ?_
              refine lstepB rfl rfl rfl (run_move (.tmp rfl)) ?_
              refine lnil ?_
              exact xw_round (c + 1) (by show c + 1 ≤ 4; omega) (by show 4 - (c + 1) < 4 - c; omega) (by repeat (first | exact Less.nil | refine Less.cons rfl ?_)) (by repeat (first | exact Pick.nil | (apply Pick.cons; focus (repeat (first | exact Del.here | apply Del.there)))))
        ·
          clear hc hcl
          refine cw_exit ?_
          refine xw_then_exit ?_
          refine xw_then_exit ?_
          refine xw_in_exit ?_
          refine xw_then ?_
          refine cw_seq ?_
          refine cw_seq ?_
          refine cw_region ?_
          refine lstepB rfl rfl rfl (run_loadN (.tmp rfl) kd24 sz24 (by repeat (first | exact List.Mem.head _ | apply List.Mem.tail)) (by repeat (first | exact Sub.done | apply Sub.take | apply Sub.skip))) ?_
          refine lstepB rfl rfl rfl (run_call1 cb25 (.cons (.tmp rfl) .nil) (fun w hS => odd_none (pc := cP) hv hm2 (pitsAt_row (hS.mem (by repeat (first | exact List.Mem.head _ | apply List.Mem.tail))) hP) hP.1 ho')) ?_
          refine lstepB rfl rfl rfl (run_move (.tmp rfl)) ?_
          refine lstepB rfl rfl rfl (run_extract (.tmp rfl) rfl) ?_
          refine lstepB rfl rfl rfl (run_extract (.tmp rfl) rfl) ?_
          refine lstepB rfl rfl rfl (run_assign (.tmp rfl)) ?_
          refine lstepB rfl rfl rfl (run_assign (.tmp rfl)) ?_
          refine lnil ?_
          refine xw_then ?_
          refine cw_seq ?_
          refine cw_region ?_
          refine lstepB rfl rfl rfl (run_move (.tmp rfl)) ?_
          refine lstepB rfl rfl rfl (run_neq (.tmp rfl) .const (by first | exact decide_eq_true (by omega) | exact decide_eq_false (by omega) | exact rfl)) ?_
          refine lnil ?_
          refine xw_then ?_
          refine cw_cond_false (.tmp rfl) ?_
          refine cw_skip ?_
          refine xw_then ?_
          refine cw_seq ?_
          refine cw_seq ?_
          refine cw_region ?_
          refine lstepB rfl rfl rfl (run_fieldAddr (.tmp rfl) fa24_3 (by first | exact Nat.zero_add _ | exact rfl)) ?_
          refine lstepB rfl rfl rfl (run_load1 (.tmp rfl) kd22 (by repeat (first | exact List.Mem.head _ | apply List.Mem.tail)) (by exact rfl)) ?_
          refine lstepB rfl rfl rfl (run_len (.tmp rfl) sl22) ?_
          refine lstepB rfl rfl rfl (run_eql (.tmp rfl) .const (by first | exact decide_eq_true (by omega) | exact decide_eq_false (by omega) | exact rfl)) ?_
          refine lnil ?_
          refine xw_then ?_
          refine cw_cond_false (.tmp rfl) ?_
          refine cw_skip ?_
          refine xw_then ?_
          refine cw_seq ?_
          refine cw_region ?_
          refine lstepB rfl rfl rfl (run_loadN (.tmp rfl) kd24 sz24 (by repeat (first | exact List.Mem.head _ | apply List.Mem.tail)) (by repeat (first | exact Sub.done | apply Sub.take | apply Sub.skip))) ?_
          refine lstep rfl rfl rfl (run_alloc zr24) ?_
          intro b29 _
          refine lstep0 rfl rfl (run_storeN (.tmp rfl) (.tmp rfl) rfl sz24 rfl (by repeat (first | exact Upd.here | apply Upd.there)) (by repeat (first | exact Put.done | apply Put.put | apply Put.skip))) ?_
          refine lnil ?_
          refine xw_then ?_
          refine cw_seq ?_
          refine cw_region ?_
          refine lstep rfl rfl rfl (LR.runs (lr_buildSlice_at .nil (fun w => bs22_0_ w)) (by repeat (first | exact Pick.nil | (apply Pick.cons; focus (repeat (first | exact Del.here | apply Del.there))))) (by repeat (first | exact Dels.nil | (apply Dels.cons; focus (repeat (first | exact Del.here | apply Del.there)))))) ?_
          intro b195 _
          refine lstepB rfl rfl rfl (run_fieldAddr (.tmp rfl) fa24_3 (by first | exact Nat.zero_add _ | exact rfl)) ?_
          refine lstepB rfl rfl rfl (run_load1 (.tmp rfl) kd22 (by repeat (first | exact List.Mem.head _ | apply List.Mem.tail)) (by exact rfl)) ?_
          refine lstep rfl rfl rfl (LR.runs (R := [(gP, _)]) (A := [(b195, _)]) (lr_append_row ap22 (.tmp rfl) (xs := []) ⟨Nat.le_refl _, Nat.zero_le _, rfl, rfl⟩ (.tmp rfl) (news := pitsC g.pits) (pitsC_length _) (pits_plain _) (by omega) (by unfold maxLen; omega) (fun w' hS j u hj => by have hm : w'.heap[gP]? = some (Obj.cells rP.toArray 55 (0, 0)) := hS.mem (by repeat (first | exact List.Mem.head _ | apply List.Mem.tail)); rw [Nat.zero_add]; simp only [World.cell?, hm]; simpa using hP.get hj)) (by repeat (first | exact Pick.nil | (apply Pick.cons; focus (repeat (first | exact Del.here | apply Del.there))))) (by repeat (first | exact Dels.nil | (apply Dels.cons; focus (repeat (first | exact Del.here | apply Del.there)))))) ?_
          intro ⟨gK, cK, rK⟩ hKK
          dsimp only at hKK
          rw [List.nil_append, Nat.zero_add] at hKK
          rw [Nat.zero_add]
          obtain ⟨K, hKl, hKm⟩ := idx_nat (c := x) (m := g.pits.length) hx.1 ppos
          obtain ⟨p, hpk⟩ : ∃ p, g.pits[K]? = some p := ⟨_, List.getElem?_eq_getElem hKl⟩
          obtain ⟨W, hWd⟩ : ∃ W, min 1000 (max 0 (y.tmod 1000)) = W := ⟨_, rfl⟩
          have hW : 0 ≤ W ∧ W ≤ 1000 := by omega
          have hr := row_wrong (W := W) hKK hpk
          have hrl := hKK.2.2.1
          have hKc := hKK.1
          have vx := vg.wrong hpk hW
          have hvx := vx.valid
          have hlx := wrong_len g K p W
          have hmx : (wrongG g K p W).pits.length ≤ 1000000 := by omega
          refine lstepB rfl rfl rfl (run_fieldAddr (.tmp rfl) fa24_3 (by first | exact Nat.zero_add _ | exact rfl)) ?_
          refine lstep0 rfl rfl (run_store1 (.tmp rfl) (.tmp rfl) rfl sz22 (by repeat (first | exact Upd.here | apply Upd.there)) (by repeat (first | exact Put.done | apply Put.put | apply Put.skip))) ?_
          refine lnil ?_
          refine xw_then ?_
          refine cw_seq ?_
          refine cw_region ?_
          refine lstepB rfl rfl rfl (run_move (.tmp rfl)) ?_
          refine lstepB rfl rfl rfl (run_convert_at (.tmp rfl) (fun w => cv5_3 (by first | exact IntWalk.i64_in _ (by omega) | exact rfl) w)) ?_
          refine lstepB rfl rfl rfl (run_fieldAddr (.tmp rfl) fa24_3 (by first | exact Nat.zero_add _ | exact rfl)) ?_
          refine lstepB rfl rfl rfl (run_load1 (.tmp rfl) kd22 (by repeat (first | exact List.Mem.head _ | apply List.Mem.tail)) (by exact rfl)) ?_
          refine lstepB rfl rfl rfl (run_len (.tmp rfl) sl22) ?_
          refine lstepB rfl rfl rfl (runB_to (run_rem (.tmp rfl) (.tmp rfl) (by omega) (by omega)) (congrArg (Value.int .i64) hKm)) ?_
          refine lstepB rfl rfl rfl (run_assign (.tmp rfl)) ?_
          refine lnil ?_
          refine xw_then ?_
          refine cw_seq ?_
          refine cw_region ?_
          refine lstepB rfl rfl rfl (run_move (.tmp rfl)) ?_
          refine lstepB rfl rfl rfl (run_convert_at (.tmp rfl) (fun w => cv43_3 (by first | exact IntWalk.i64_in _ (by omega) | exact rfl) w)) ?_
          refine lstepB rfl rfl rfl (run_remT (.tmp rfl) .const (by decide)) ?_
          refine lstepB rfl rfl rfl (run_max2 .const (.tmp rfl)) ?_
          refine lstepB rfl rfl rfl (runB_to (run_min2 .const (.tmp rfl)) (congrArg (Value.int .i64) hWd)) ?_
          refine lstepB rfl rfl rfl (run_assign (.tmp rfl)) ?_
          refine lnil ?_
          refine xw_then ?_
          refine cw_seq ?_
          refine cw_chain2 (σ := [0, 1, 2, 3, 4, 5, 6, 7, 8]) [⟨0, [], [], [], 0⟩, ⟨0, [1], [], [], 1⟩, ⟨0, [], [], [], 0⟩, ⟨0, [], [], [], 0⟩, ⟨0, [], [], [], 0⟩, ⟨0, [], [], [], 24⟩, ⟨0, [], [], [], 63⟩, ⟨0, [], [], [], 127⟩, ⟨0, [], [0], [0], 255⟩] [(0, _), (1, _), (2, _), (3, _), (4, _)] (by kernel_rfl) (by kernel_rfl) rfl ?_
          refine .det (B := []) rfl rfl (.inl rfl) .nil .nil rfl (RunB.lr (run_fieldAddr (.tmp rfl) fa24_3 (by first | exact Nat.zero_add _ | exact rfl))) ?_
          refine .det (B := []) rfl rfl (.inl rfl) (.cons rfl .nil) .nil rfl (RunB.lr (run_load1 (.tmp rfl) kd22 (by repeat (first | exact List.Mem.head _ | apply List.Mem.tail)) (by exact rfl))) ?_
          refine .det (B := []) rfl rfl (.inl rfl) .nil .nil rfl (RunB.lr (run_move (.tmp rfl))) ?_
          refine .det (B := []) rfl rfl (.inl rfl) .nil .nil rfl (RunB.lr (run_move (.tmp rfl))) ?_
          refine .det (B := []) rfl rfl (.inl rfl) .nil .nil rfl (RunB.lr (run_move (.tmp rfl))) ?_
          refine .det (B := []) rfl rfl (.inl rfl) .nil .nil rfl (RunB.lr (run_call1 cb31 (.cons (.tmp rfl) (.cons (.tmp rfl) .nil)) (fun w _ => spanLK W W w))) ?_
          refine .det (B := []) rfl rfl (.inl rfl) .nil .nil rfl (RunB.lr (run_indexAddr (i := K) (off' := 0 + K * 9) (.tmp rfl) (.tmp rfl) el22 hKl rfl)) ?_
          refine .det (B := []) rfl rfl (.inl rfl) .nil .nil rfl (RunB.lr (run_fieldAddr (.tmp rfl) fa55_1 (show 0 + K * 9 + 1 = K * 9 + 1 by omega))) ?_
          refine .det (B := [(0, (_, _))]) rfl rfl (.inl rfl) .nil (.cons rfl .nil) rfl (lr_storeR (.tmp rfl) (.tmp rfl) rfl sz28 rfl (by rw [hrl]; simp only [List.length_cons, List.length_nil]; omega)) ?_
          refine chain_nil (ts := [0, 1, 2, 3, 4]) (.cons rfl (.cons rfl (.cons rfl (.cons rfl (.cons rfl .nil))))) (by decide) ?_
          cases hox : lookOk (wrongG g K p W)
          ·
            have hb := Truly.bit_one (tr.odd_in hKl (p := p) (W := W))
            have hob : oddF (wrongG g K p W) (wrongG g K p W).pits.length < 2 ^ 32 := oddF_small vx
            rw [hlx] at hb hob
            have hd2 : oddF (wrongG g K p W) g.pits.length / 2 ^ K < 2 ^ 32 := Nat.lt_of_le_of_lt (Nat.div_le_self _ _) hob
            refine xw_then ?_
            refine cw_seq ?_
            refine cw_region ?_
            refine lstepB rfl rfl rfl (run_loadN (.tmp rfl) kd24 sz24 (by repeat (first | exact List.Mem.head _ | apply List.Mem.tail)) (by repeat (first | exact Sub.done | apply Sub.take | apply Sub.skip))) ?_
            refine lstepB rfl rfl rfl (run_call1 cb25 (.cons (.tmp rfl) .nil) (fun w hS => by have := odd_ok (w := w) (pa := some ⟨gK, 0, none⟩) (pc := cK) hvx hmx (pitsAt_row (hS.mem (by repeat (first | exact List.Mem.head _ | apply List.Mem.tail))) hr) (by rw [hlx]; exact hKc) hox; rw [hlx] at this; exact this)) ?_
            refine lstepB rfl rfl rfl (run_move (.tmp rfl)) ?_
            refine lstepB rfl rfl rfl (run_extract (.tmp rfl) rfl) ?_
            refine lstepB rfl rfl rfl (run_extract (.tmp rfl) rfl) ?_
            refine lstepB rfl rfl rfl (run_assign (.tmp rfl)) ?_
            refine lstepB rfl rfl rfl (run_assign (.tmp rfl)) ?_
            refine lnil ?_
            refine xw_then ?_
            refine cw_seq ?_
            refine cw_region ?_
            refine lstepB rfl rfl rfl (run_move (.tmp rfl)) ?_
            refine lstepB rfl rfl rfl (run_eql (.tmp rfl) .const (by first | exact decide_eq_true (by omega) | exact decide_eq_false (by omega) | exact rfl)) ?_
            refine lstepB rfl rfl rfl (run_move (.tmp rfl)) ?_
            refine lskip rfl rfl rfl rfl rfl rfl rfl ?_
            refine lskip rfl rfl rfl rfl rfl rfl rfl ?_
            refine lstepB rfl rfl rfl (by first | exact run_pick_true (.tmp rfl) (.tmp rfl) | exact run_pick_false (.tmp rfl) .const) ?_
            refine lstepB rfl rfl rfl (run_move (.tmp rfl)) ?_
            refine lyes rfl rfl rfl rfl ?_
            refine gstepB rfl rfl (run_move (.tmp rfl)) ?_
            refine lyes rfl rfl rfl rfl ?_
            refine gstepB rfl rfl (run_eql (.tmp rfl) .const (by first | exact decide_eq_true (by omega) | exact decide_eq_false (by omega) | exact rfl)) ?_
            refine lyes rfl rfl rfl rfl ?_
            refine gstepB rfl rfl (run_move (.tmp rfl)) ?_
            refine lyes rfl rfl rfl rfl ?_
            refine gstepB rfl rfl (run_move (.tmp rfl)) ?_
            refine lyes rfl rfl rfl rfl ?_
            refine gstepB rfl rfl (run_move (.tmp rfl)) ?_
            refine lyes rfl rfl rfl rfl ?_
            refine gstepB rfl rfl (run_shr (a := oddF (wrongG g K p W) g.pits.length) (z := K) (.tmp rfl) (.tmp rfl) (by omega)) ?_
            refine lyes rfl rfl rfl rfl ?_
            refine gstepB rfl rfl (run_and (.tmp rfl) .const (and_one hd2)) ?_
            refine lyes rfl rfl rfl rfl ?_
            refine gstepB rfl rfl (run_eql (p := true) (.tmp rfl) .const (decide_eq_true (by omega))) ?_
            refine lyes rfl rfl rfl rfl ?_
            refine gstepB rfl rfl (by first | exact run_pick_true (.tmp rfl) (.tmp rfl) | exact run_pick_false (.tmp rfl) .const) ?_
            refine lstepB rfl rfl rfl (by first | exact run_pick_true (.tmp rfl) .const | exact run_pick_false (.tmp rfl) (.tmp rfl)) ?_
            refine lstepB rfl rfl rfl (run_move (.tmp rfl)) ?_
            refine lyes rfl rfl rfl rfl ?_
            refine gstepB rfl rfl (run_call1 cb12 .nil (fun w _ => awakeK w)) ?_
            refine lstepB rfl rfl rfl (by first | exact run_pick_true (.tmp rfl) (.tmp rfl) | exact run_pick_false (.tmp rfl) .const) ?_
            refine lstepB rfl rfl rfl (run_assign (.tmp rfl)) ?_
            refine lnil ?_
            refine xw_then ?_
            refine cw_ret ?_
            refine xw_ret1 Try.results5 rfl (fun w hS => ⟨rfl, hS.kept⟩)
          ·
            refine xw_then ?_
            refine cw_seq ?_
            refine cw_region ?_
            refine lstepB rfl rfl rfl (run_loadN (.tmp rfl) kd24 sz24 (by repeat (first | exact List.Mem.head _ | apply List.Mem.tail)) (by repeat (first | exact Sub.done | apply Sub.take | apply Sub.skip))) ?_
            refine lstepB rfl rfl rfl (run_call1 cb25 (.cons (.tmp rfl) .nil) (fun w hS => by have := odd_none (w := w) (pa := some ⟨gK, 0, none⟩) (pc := cK) hvx hmx (pitsAt_row (hS.mem (by repeat (first | exact List.Mem.head _ | apply List.Mem.tail))) hr) (by rw [hlx]; exact hKc) hox; rw [hlx] at this; exact this)) ?_
            refine lstepB rfl rfl rfl (run_move (.tmp rfl)) ?_
            refine lstepB rfl rfl rfl (run_extract (.tmp rfl) rfl) ?_
            refine lstepB rfl rfl rfl (run_extract (.tmp rfl) rfl) ?_
            refine lstepB rfl rfl rfl (run_assign (.tmp rfl)) ?_
            refine lstepB rfl rfl rfl (run_assign (.tmp rfl)) ?_
            refine lnil ?_
            refine xw_then ?_
            refine cw_seq ?_
            refine cw_region ?_
            refine lstepB rfl rfl rfl (run_move (.tmp rfl)) ?_
            refine lstepB rfl rfl rfl (run_eql (.tmp rfl) .const (by first | exact decide_eq_true (by omega) | exact decide_eq_false (by omega) | exact rfl)) ?_
            refine lstepB rfl rfl rfl (run_move (.tmp rfl)) ?_
            refine lyes rfl rfl rfl rfl ?_
            refine gstepB rfl rfl (run_move (.tmp rfl)) ?_
            refine lyes rfl rfl rfl rfl ?_
            refine gstepB rfl rfl (run_eql (.tmp rfl) .const (by first | exact decide_eq_true (by omega) | exact decide_eq_false (by omega) | exact rfl)) ?_
            refine lstepB rfl rfl rfl (by first | exact run_pick_true (.tmp rfl) (.tmp rfl) | exact run_pick_false (.tmp rfl) .const) ?_
            refine lstepB rfl rfl rfl (run_move (.tmp rfl)) ?_
            refine lskip rfl rfl rfl rfl rfl rfl rfl ?_
            refine lskip rfl rfl rfl rfl rfl rfl rfl ?_
            refine lskip rfl rfl rfl rfl rfl rfl rfl ?_
            refine lskip rfl rfl rfl rfl rfl rfl rfl ?_
            refine lskip rfl rfl rfl rfl rfl rfl rfl ?_
            refine lskip rfl rfl rfl rfl rfl rfl rfl ?_
            refine lskip rfl rfl rfl rfl rfl rfl rfl ?_
            refine lskip rfl rfl rfl rfl rfl rfl rfl ?_
            refine lskip rfl rfl rfl rfl rfl rfl rfl ?_
            refine lstepB rfl rfl rfl (by first | exact run_pick_true (.tmp rfl) .const | exact run_pick_false (.tmp rfl) (.tmp rfl)) ?_
            refine lstepB rfl rfl rfl (run_move (.tmp rfl)) ?_
            refine lyes rfl rfl rfl rfl ?_
            refine gstepB rfl rfl (run_call1 cb12 .nil (fun w _ => awakeK w)) ?_
            refine lstepB rfl rfl rfl (by first | exact run_pick_true (.tmp rfl) (.tmp rfl) | exact run_pick_false (.tmp rfl) .const) ?_
            refine lstepB rfl rfl rfl (run_assign (.tmp rfl)) ?_
            refine lnil ?_
            refine xw_then ?_
            refine cw_ret ?_
            refine xw_ret1 Try.results5 rfl (fun w hS => ⟨rfl, hS.kept⟩)
end Go.Proofs.Ytfmbnobkenngaaa
