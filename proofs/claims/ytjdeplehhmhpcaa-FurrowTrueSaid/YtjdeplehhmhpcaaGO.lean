/- Furrow: FurrowTrue's walk. -/
import Derived.Test.YtjdeplehhmhpcaaGN
import Derived.Test.YtjdeplehhmhpcaaGH
namespace Go.Proofs.Ytjdeplehhmhpcaa
open Go.RowKit En

theorem own_cell1 {w : World} {b : Nat} {v : Value} {te : TypeId} {fr : Nat × Nat} (h : w.heap[b]? = some (.cells [v].toArray te fr)) : w.cell? ⟨b, 0, none⟩ = some v := by simp [World.cell?, h]
structure U16At (w : World) (pb po : Nat) (l : List Int) : Prop where
  row : ∀ i x, l[i]? = some x → (0 ≤ x ∧ x ≤ 65535) ∧ w.cell? ⟨pb, po + i, none⟩ = some (.int .u16 x)
  pos : 0 < l.length
  len : (l.length : Int) ≤ 9223372036854775807
theorem U16At.draws {w0 w : World} {pb po cap dC bx : Nat} {l : List Int} {c : Int} (h : U16At w0 pb po l) (hS : St w0 NoT [(bx, Obj.cells [.slice (some ⟨pb, po, none⟩) l.length cap].toArray 45 (0, 0))] w) (hA : w.heap[dC]? = some (cntO c)) : DrawOk w bx dC pb po cap l := by
  have hb := hS.mem (List.Mem.head _)
  have hrow : ∀ i x, l[i]? = some x → (0 ≤ x ∧ x ≤ 65535) ∧ w.cell? ⟨pb, po + i, none⟩ = some (.int .u16 x) := fun i x hi => ⟨(h.row i x hi).1, hS.old_cell (fun h => h) (h.row i x hi).2⟩
  refine ⟨own_cell1 hb, hrow, ?_, ?_, h.pos, h.len⟩
  · rintro rfl
    rw [hb] at hA
    simp [cntO] at hA
  · rintro rfl
    obtain ⟨_, h2⟩ := hrow 0 _ (List.getElem?_eq_getElem h.pos)
    simp only [World.cell?, hA, cntO] at h2
    rcases Nat.eq_zero_or_pos po with e | e
    · subst e; simp at h2
    · simp [show po ≠ 0 by omega] at h2
theorem intsAt_rowS {w : World} {b n cap : Nat} {te : TypeId} {fr : Nat × Nat} {cur : List Value} {l : List Int} (h : w.heap[b]? = some (.cells cur.toArray te fr)) (hr : InRow 1 n cap cur (intsV l)) : IntsAt w (some ⟨b, 0, none⟩) l := rowsAt_cells h fun i r hi j v hj => by
  rw [List.getElem?_map] at hi
  obtain ⟨m, hm, rfl⟩ := Option.map_eq_some_iff.1 hi
  match j, hj with
  | 0, hj =>
    cases hj
    refine hr.get ?_
    simp [intsV, hm]
inductive TrR where
  | zero
  | five (a b o w d : Nat × Nat × List Value)
structure TrS where
  n : Nat
  c : Int
  L : List TrueD
  rows : TrR
theorem okT_snoc {L : List TrueD} {r : TrueD} (h : ∀ x ∈ L, OkT x) (hr : OkT r) : ∀ x ∈ L ++ [r], OkT x := fun x hx => by
  rcases List.mem_append.1 hx with h1 | h1
  · exact h x h1
  · rw [List.mem_singleton] at h1; subst h1; exact hr
theorem furT_small {L : List TrueD} (h : ∀ r ∈ L, OkT r) : SmallL (L.map (·.o)) := fun x hx => by
  obtain ⟨r, hr, rfl⟩ := List.mem_map.1 hx
  have := (h r hr).o
  omega
/-- What is told of a furrow holds of how it lies. -/
structure Told (L : List TrueD) : Prop where
  ok : ∀ r ∈ L, OkT r
  few : L.length ≤ 8
namespace Told
variable {L : List TrueD}
theorem val (h : Told L) : validB (furT L) = true := furT_valid h.ok h.few
theorem vf (h : Told L) : ValidF (furT L) := validF h.val
theorem inn (h : Told L) : Inn (furT L).offs (L.map (·.o)) := furT_inn h.ok
theorem lens (h : Told L) : Lens (furT L) := ⟨by have := h.few; simp [furT]; omega⟩
theorem most (h : Told L) : insideB (mostT (L.map (·.o))) (bendT (furT L).offs) = true := by
  simp only [insideB, Bool.and_eq_true, decide_eq_true_eq]
  exact (bendT_spec h.vf.fine).1 _ h.inn
theorem soil (h : Told L) : insideB (soilT L) (soilS (furT L)) = true := by
  simp only [insideB, Bool.and_eq_true, decide_eq_true_eq]
  exact soilT_in h.ok
theorem wrong (h : Told L) : wrongR (furT L) (mostT (L.map (·.o))) = (0, 0) := by
  have h0 := mostT_nonneg (L.map (·.o))
  unfold wrongR
  rw [h.val, if_pos rfl, if_pos h0, (wrong_zero h.vf h0).2 ((bendT_spec h.vf.fine).1 _ h.inn).1]
theorem at_ (h : Told L) {k : Nat} (hk : k + 1 + 1 < L.length) : atR (furT L) ((k + 1 : Nat) : Int) = (bendS (furT L).offs (k + 1), 0) ∧ insideB (bentT (L.map (·.o)) (k + 1)) (bendS (furT L).offs (k + 1)) = true ∧ (bentT (L.map (·.o)) (k + 1) = mostT (L.map (·.o)) → (canN (furT L).offs).testBit (k + 1) = true) ∧ ((sureN (furT L).offs).testBit (k + 1) = true → bentT (L.map (·.o)) (k + 1) = mostT (L.map (·.o))) := by
  have hl : (furT L).offs.length = L.length := by simp [furT]
  have hI : Inner (furT L).offs (k + 1) := ⟨by omega, by omega⟩
  have hiB : innerB (furT L).offs.length ((k + 1 : Nat) : Int) = true := by simp only [innerB, Bool.and_eq_true, decide_eq_true_eq]; omega
  refine ⟨by unfold atR; rw [h.val, hiB]; rfl, ?_, ?_, ?_⟩
  · simp only [insideB, Bool.and_eq_true, decide_eq_true_eq]
    exact bendS_at h.vf.fine hI h.inn
  · intro e
    exact (can_bit h.vf.fine).2 ⟨hI, _, h.inn, fun j hj => by rw [e]; exact mostT_ge h.inn.1 hj⟩
  · intro hb
    obtain ⟨_, h2⟩ := (sure_bit h.vf.fine).1 hb
    have h3 := mostT_ge h.inn.1 hI
    have h4 := (mostT_le h.inn.1 (m := bentT (L.map (·.o)) (k + 1))).2 ⟨bentT_nonneg _ _, fun j hj => h2 _ h.inn j hj⟩
    omega
theorem shallow (h : Told L) {least : Int} (hl : 0 ≤ least) : ∃ a b : Nat, shallowR (furT L) least = ((a, b), 0) ∧ (a < 2 ^ 32 ∧ b < 2 ^ 32) ∧ ∀ j (hj : j < L.length), ((L[j]).d < least → b.testBit j = true) ∧ (least ≤ (L[j]).d → a.testBit j = false) := by
  have hd : (furT L).deps.length = L.length := by simp [furT]
  have hs := shallowN_small (furT L).deps least (k := (furT L).deps.length) (by have := h.few; omega)
  refine ⟨_, _, by unfold shallowR; rw [h.val, if_pos rfl, if_pos hl], hs, fun j hj => ?_⟩
  have e : (furT L).deps.getD j default = (L[j]).sd := getD_map hj
  have hk := (h.ok _ (List.getElem_mem hj)).sd
  rw [(shallowN_bit _ _ _ _).1, (shallowN_bit _ _ _ _).2, e, hd]
  constructor
  · intro h1; exact decide_eq_true ⟨hj, by omega⟩
  · intro h1; exact decide_eq_false (by omega)
end Told
theorem spansC_snoc (A B : List SpanD) : spansC (A ++ B) = spansC A ++ spansC B := List.flatMap_append ..
section
variable {oa wa da : Option Addr} {oc wc dc n1 n2 n3 : Nat}
theorem atQn (f : FurrowD) (h1 : f.offs.length = n1) (h2 : f.wids.length = n2) (h3 : f.deps.length = n3) (st : Int) (w : World) (hm : Lens f) (hf : FurrowAt w f oa wa da) {s : SpanD} {e : Int} (hr : atR f st = (s, e)) : Gives Try.prog 16 [.agg [.slice oa n1 oc, .slice wa n2 wc, .slice da n3 dc].toArray, .int .i64 st] w (.tuple #[spanV s, .int .i64 e]) := by
  subst h1 h2 h3
  have h := atQ f oa wa da oc wc dc st w hm hf
  rw [hr] at h
  exact h
end
set_option maxRecDepth 100000 in
set_option maxHeartbeats 4000000 in
theorem furrowTrue_any (pa : Option Addr) (n cap : Nat) (w : World) (hu : 0 < n → ∃ pb po l, pa = some ⟨pb, po, none⟩ ∧ n = l.length ∧ U16At w pb po l) : Gives Try.prog 6 [.slice pa n cap] w (.bool true) := by
  rcases Nat.eq_zero_or_pos n with hn | hn
  ·
    subst hn
    refine .mk <| enter (n := 252) Try.func6 rfl rfl rfl (by repeat (first | exact Fill.nil | apply Fill.cons)) ?_
    refine cw_seq ?_
    refine cw_region ?_
    refine lstepB rfl rfl rfl (run_assign .const) ?_
    refine lnil ?_
    refine xw_then ?_
    refine cw_seq ?_
    refine cw_seq ?_
    refine cw_region ?_
    refine lstepB rfl rfl rfl (run_move (.tmp rfl)) ?_
    refine lstepB rfl rfl rfl (run_len (.tmp rfl) sl45) ?_
    refine lstepB rfl rfl rfl (run_eql (.tmp rfl) .const rfl) ?_
    refine lnil ?_
    refine xw_then ?_
    refine cw_cond_true (.tmp rfl) ?_
    refine cw_seq ?_
    refine cw_region ?_
    refine lstepB rfl rfl rfl (run_call1 cb13 .nil (fun w _ => aliveK w)) ?_
    refine lstepB rfl rfl rfl (run_assign (.tmp rfl)) ?_
    refine lnil ?_
    refine xw_then ?_
    refine cw_ret ?_
    refine xw_then_ret ?_
    refine xw_ret1 Try.results6 rfl (fun w hS => ⟨rfl, hS.kept⟩)
  ·
    obtain ⟨pb, po, l, rfl, rfl, hU⟩ := hu hn
    refine .mk <| enter (n := 252) Try.func6 rfl rfl rfl (by repeat (first | exact Fill.nil | apply Fill.cons)) ?_
    refine cw_seq ?_
    refine cw_region ?_
    refine lstepB rfl rfl rfl (run_assign .const) ?_
    refine lnil ?_
    refine xw_then ?_
    refine cw_seq ?_
    refine cw_seq ?_
    refine cw_region ?_
    refine lstepB rfl rfl rfl (run_move (.tmp rfl)) ?_
    refine lstepB rfl rfl rfl (run_len (.tmp rfl) sl45) ?_
    refine lstepB rfl rfl rfl (run_eql (.tmp rfl) .const (decide_eq_false (by omega))) ?_
    refine lnil ?_
    refine xw_then ?_
    refine cw_cond_false (.tmp rfl) ?_
    refine cw_skip ?_
    refine xw_then ?_
    refine cw_seq ?_
    refine cw_region ?_
    refine lstepB rfl rfl rfl (run_move (.tmp rfl)) ?_
    refine lstep rfl rfl rfl (LR.runs (R := []) (A := []) (lr_gives cb31 (.cons (.tmp rfl) .nil) (fun w2 hS => drawsK _ _ _ w2)) (by repeat (first | exact Pick.nil | (apply Pick.cons; focus (repeat (first | exact Del.here | apply Del.there))))) (by repeat (first | exact Dels.nil | (apply Dels.cons; focus (repeat (first | exact Del.here | apply Del.there)))))) ?_
    intro ⟨dC, bx⟩ _
    try dsimp only
    refine lstepB rfl rfl rfl (run_assign (.tmp rfl)) ?_
    refine lnil ?_
    refine xw_then ?_
    refine cw_seq ?_
    refine cw_region ?_
    refine lstep rfl rfl rfl (run_alloc zr24) ?_
    intro b4 _
    refine lnil ?_
    refine xw_then ?_
    refine cw_seq ?_
    refine cw_region ?_
    refine lstepB rfl rfl rfl (run_assign .const) ?_
    refine lstepB rfl rfl rfl (run_assign .const) ?_
    refine lnil ?_
    refine xw_then ?_
    refine cw_seq ?_
    refine cw_region ?_
    refine lstepB rfl rfl rfl (run_assign .const) ?_
    refine lnil ?_
    refine xw_then ?_
    refine cw_seq ?_
    refine cw_seq ?_
    refine cw_region ?_
    refine lstepB rfl rfl rfl (run_move (.tmp rfl)) ?_
    refine lstep rfl rfl rfl (LR.runs (R := [(bx, _)]) (A := [(dC, _)]) (lr_callv (F := fun r : Int => 0 ≤ r ∧ r < 9) (r := fun r => .int .i64 r) (A := [(dC, cntO (0))]) (B := fun _ => [(dC, cntO (0 + 1))]) cb72 (.tmp rfl) (.cons .const .nil) rfl (fun w2 hS hA => drawK 9 (0) bx dC pb po cap l w2 (by omega) (by omega) (hA (dC, cntO (0)) (by simp)) (hU.draws hS (hA (dC, cntO (0)) (by simp))))) (by repeat (first | exact Pick.nil | (apply Pick.cons; focus (repeat (first | exact Del.here | apply Del.there))))) (by repeat (first | exact Dels.nil | (apply Dels.cons; focus (repeat (first | exact Del.here | apply Del.there)))))) ?_
    intro m ⟨m0, m1⟩
    try dsimp only
    refine lstepB rfl rfl rfl (run_move .const) ?_
    refine lnil ?_
    refine xw_then ?_
    refine cw_block ?_
    refine cw_loop (S := TrS) (fun s => [(39, .int .i64 ((s.n : Nat) : Int)), (5, match s.rows with | .zero => .slice none 0 0 | .five a b _ _ _ => .slice (some ⟨a.1, 0, none⟩) s.n a.2.1), (6, match s.rows with | .zero => .slice none 0 0 | .five a b _ _ _ => .slice (some ⟨b.1, 0, none⟩) s.n b.2.1), (7, .int .i64 (soilT s.L))]) [(3, _), (4, _), (38, _)] (fun s => (match s.rows with | .zero => [(b4, Obj.cells [.slice none 0 0, .slice none 0 0, .slice none 0 0].toArray 24 (0, 0))] | .five a b o w d => [(a.1, Obj.cells a.2.2.toArray 3 (0, 0)), (b.1, Obj.cells b.2.2.toArray 3 (0, 0)), (o.1, Obj.cells o.2.2.toArray 28 (0, 0)), (w.1, Obj.cells w.2.2.toArray 28 (0, 0)), (d.1, Obj.cells d.2.2.toArray 28 (0, 0)), (b4, Obj.cells [(.slice (some ⟨o.1, 0, none⟩) s.n o.2.1), (.slice (some ⟨w.1, 0, none⟩) s.n w.2.1), (.slice (some ⟨d.1, 0, none⟩) s.n d.2.1)].toArray 24 (0, 0))]) ++ [(dC, cntO s.c), (bx, Obj.cells [.slice (some ⟨pb, po, none⟩) l.length cap].toArray 45 (0, 0))]) (fun s => (0 ≤ s.c ∧ s.c ≤ 1 + 20 * (s.n : Int) ∧ (s.n : Int) ≤ m) ∧ (∀ r ∈ s.L, OkT r) ∧ s.L.length = s.n ∧ match s.rows with | .zero => s.n = 0 ∧ s.L = [] | .five a b o w d => 0 < s.n ∧ InRow 1 s.n a.2.1 a.2.2 (intsV (s.L.map (·.o))) ∧ InRow 1 s.n b.2.1 b.2.2 (intsV (s.L.map (·.d))) ∧ InRow 2 s.n o.2.1 o.2.2 (spansC (s.L.map (·.so))) ∧ InRow 2 s.n w.2.1 w.2.2 (spansC (s.L.map (·.sw))) ∧ InRow 2 s.n d.2.1 d.2.2 (spansC (s.L.map (·.sd)))) (fun s => m.toNat - s.n) ⟨0, 0 + 1, [], .zero⟩ ⟨⟨by simp only; omega, by simp only; omega, by simp only; omega⟩, (fun r h => by cases h), rfl, rfl, rfl⟩ (by repeat (first | exact Less.nil | refine Less.cons rfl ?_)) (by repeat (first | exact Pick.nil | (apply Pick.cons; focus (repeat (first | exact Del.here | apply Del.there))))) ?_
    intro s hs
    obtain ⟨n, c, L, rows⟩ := s
    obtain ⟨⟨c0, c1, n1⟩, hok, hlen, hrows⟩ := hs
    dsimp only at c0 c1 n1 hok hlen hrows ⊢
    cases rows
    case zero =>
      dsimp only at hrows ⊢
      obtain ⟨rfl, rfl⟩ := hrows
      refine cw_seq ?_
      refine cw_region ?_
      refine lstepB rfl rfl rfl (run_lss (.tmp rfl) (.tmp rfl) rfl) ?_
      refine lnil ?_
      refine xw_then ?_
      refine cw_seq ?_
      refine cw_cond_p (.tmp rfl) (fun hl => ?_) (fun hl => ?_)
      ·
        refine cw_skip ?_
        refine xw_then ?_
        refine cw_seq ?_
        refine cw_block ?_
        refine cw_seq ?_
        refine cw_region ?_
        refine lstepB rfl rfl rfl (run_move (.tmp rfl)) ?_
        refine lstep rfl rfl rfl (LR.runs (R := [(bx, _)]) (A := [(dC, _)]) (lr_callv (F := fun r : Int => 0 ≤ r ∧ r < 19) (r := fun r => .int .i64 r) (A := [(dC, cntO (c))]) (B := fun _ => [(dC, cntO (c + 1))]) cb72 (.tmp rfl) (.cons .const .nil) rfl (fun w2 hS hA => drawK 19 (c) bx dC pb po cap l w2 (by omega) (by omega) (hA (dC, cntO (c)) (by simp)) (hU.draws hS (hA (dC, cntO (c)) (by simp))))) (by repeat (first | exact Pick.nil | (apply Pick.cons; focus (repeat (first | exact Del.here | apply Del.there))))) (by repeat (first | exact Dels.nil | (apply Dels.cons; focus (repeat (first | exact Del.here | apply Del.there)))))) ?_
        intro r1 ⟨r10, r11⟩
        try dsimp only
        obtain ⟨o, ho⟩ : ∃ o, o = r1 - 9 := ⟨_, rfl⟩
        refine lstepB rfl rfl rfl (run_sub (c := o) (.tmp rfl) .const (by rw [ho]; exact IntWalk.i64_in _ (by omega))) ?_
        refine lstepB rfl rfl rfl (run_move (.tmp rfl)) ?_
        refine lstep rfl rfl rfl (LR.runs (R := [(bx, _)]) (A := [(dC, _)]) (lr_callv (F := fun r : Int => 0 ≤ r ∧ r < 40) (r := fun r => .int .i64 r) (A := [(dC, cntO ((c + 1)))]) (B := fun _ => [(dC, cntO ((c + 1) + 1))]) cb72 (.tmp rfl) (.cons .const .nil) rfl (fun w2 hS hA => drawK 40 ((c + 1)) bx dC pb po cap l w2 (by omega) (by omega) (hA (dC, cntO ((c + 1))) (by simp)) (hU.draws hS (hA (dC, cntO ((c + 1))) (by simp))))) (by repeat (first | exact Pick.nil | (apply Pick.cons; focus (repeat (first | exact Del.here | apply Del.there))))) (by repeat (first | exact Dels.nil | (apply Dels.cons; focus (repeat (first | exact Del.here | apply Del.there)))))) ?_
        intro r2 ⟨r20, r21⟩
        try dsimp only
        obtain ⟨wd, hwd⟩ : ∃ wd, wd = 10 + r2 := ⟨_, rfl⟩
        refine lstepB rfl rfl rfl (run_add (c := wd) .const (.tmp rfl) (by rw [hwd]; exact IntWalk.i64_in _ (by omega))) ?_
        refine lstepB rfl rfl rfl (run_move (.tmp rfl)) ?_
        refine lstep rfl rfl rfl (LR.runs (R := [(bx, _)]) (A := [(dC, _)]) (lr_callv (F := fun r : Int => 0 ≤ r ∧ r < 30) (r := fun r => .int .i64 r) (A := [(dC, cntO (((c + 1) + 1)))]) (B := fun _ => [(dC, cntO (((c + 1) + 1) + 1))]) cb72 (.tmp rfl) (.cons .const .nil) rfl (fun w2 hS hA => drawK 30 (((c + 1) + 1)) bx dC pb po cap l w2 (by omega) (by omega) (hA (dC, cntO (((c + 1) + 1))) (by simp)) (hU.draws hS (hA (dC, cntO (((c + 1) + 1))) (by simp))))) (by repeat (first | exact Pick.nil | (apply Pick.cons; focus (repeat (first | exact Del.here | apply Del.there))))) (by repeat (first | exact Dels.nil | (apply Dels.cons; focus (repeat (first | exact Del.here | apply Del.there)))))) ?_
        intro r3 ⟨r30, r31⟩
        try dsimp only
        obtain ⟨dp, hdp⟩ : ∃ dp, dp = 5 + r3 := ⟨_, rfl⟩
        have hmul1 := Int.mul_nonneg (a := wd) (b := dp) (by omega) (by omega)
        have hmul2 := mul_sub (a := wd) (b := dp) (c := 49) (d := 34) (by omega) (by omega) (by omega) (by omega)
        have hso0 := soilT_small hok
        have hso0 : 0 ≤ soilT [] ∧ soilT [] ≤ 0 := ⟨Int.le_refl _, Int.le_refl _⟩
        refine lstepB rfl rfl rfl (run_add (c := dp) .const (.tmp rfl) (by rw [hdp]; exact IntWalk.i64_in _ (by omega))) ?_
        refine lstepB rfl rfl rfl (run_assign (.tmp rfl)) ?_
        refine lstepB rfl rfl rfl (run_assign (.tmp rfl)) ?_
        refine lstepB rfl rfl rfl (run_assign (.tmp rfl)) ?_
        refine lnil ?_
        refine xw_then ?_
        refine cw_seq ?_
        refine cw_region ?_
        refine lstepB rfl rfl rfl (run_move (.tmp rfl)) ?_
        refine lstepB rfl rfl rfl (run_move (.tmp rfl)) ?_
        refine lstep rfl rfl rfl (LR.runs (lr_buildSlice_at (.cons (.tmp rfl) .nil) (fun w => bs33_1_0 w)) (by repeat (first | exact Pick.nil | (apply Pick.cons; focus (repeat (first | exact Del.here | apply Del.there))))) (by repeat (first | exact Dels.nil | (apply Dels.cons; focus (repeat (first | exact Del.here | apply Del.there)))))) ?_
        intro b52 _
        refine lstep rfl rfl rfl (LR.runs (R := [(b52, _)]) (A := []) (lr_append_nil ap33 (.tmp rfl) (.tmp rfl) (news := [.int .i64 o]) rfl (by omega) (by omega) (by decide) (news_own (by repeat (first | exact List.Mem.head _ | apply List.Mem.tail)))) (by repeat (first | exact Pick.nil | (apply Pick.cons; focus (repeat (first | exact Del.here | apply Del.there))))) (by repeat (first | exact Dels.nil | (apply Dels.cons; focus (repeat (first | exact Del.here | apply Del.there)))))) ?_
        intro ⟨hA2, chA2, rhA2⟩ hhA2
        dsimp only at hhA2 ⊢
        refine lstepB rfl rfl rfl (run_move (.tmp rfl)) ?_
        refine lstepB rfl rfl rfl (run_move (.tmp rfl)) ?_
        refine lstep rfl rfl rfl (LR.runs (lr_buildSlice_at (.cons (.tmp rfl) .nil) (fun w => bs33_1_0 w)) (by repeat (first | exact Pick.nil | (apply Pick.cons; focus (repeat (first | exact Del.here | apply Del.there))))) (by repeat (first | exact Dels.nil | (apply Dels.cons; focus (repeat (first | exact Del.here | apply Del.there)))))) ?_
        intro b56 _
        refine lstep rfl rfl rfl (LR.runs (R := [(b56, _)]) (A := []) (lr_append_nil ap33 (.tmp rfl) (.tmp rfl) (news := [.int .i64 dp]) rfl (by omega) (by omega) (by decide) (news_own (by repeat (first | exact List.Mem.head _ | apply List.Mem.tail)))) (by repeat (first | exact Pick.nil | (apply Pick.cons; focus (repeat (first | exact Del.here | apply Del.there))))) (by repeat (first | exact Dels.nil | (apply Dels.cons; focus (repeat (first | exact Del.here | apply Del.there)))))) ?_
        intro ⟨hB2, chB2, rhB2⟩ hhB2
        dsimp only at hhB2 ⊢
        refine lstepB rfl rfl rfl (run_assign (.tmp rfl)) ?_
        refine lstepB rfl rfl rfl (run_assign (.tmp rfl)) ?_
        refine lnil ?_
        refine xw_then ?_
        refine cw_seq ?_
        refine cw_chain2 (σ := [0, 1, 2, 3, 6, 7, 4, 5, 8, 9, 10, 11, 12, 13, 14]) [⟨0, [], [], [], 0⟩, ⟨0, [5], [], [], 1⟩, ⟨0, [], [], [], 0⟩, ⟨0, [], [], [], 0⟩, ⟨1, [6], [4], [4], 8⟩, ⟨0, [], [], [], 28⟩, ⟨0, [], [], [], 0⟩, ⟨0, [], [], [], 0⟩, ⟨1, [6], [4], [4], 152⟩, ⟨0, [], [], [], 472⟩, ⟨0, [], [], [], 1020⟩, ⟨2, [], [], [7], 2044⟩, ⟨1, [7], [], [8], 4095⟩, ⟨0, [], [], [], 8191⟩, ⟨0, [], [5], [5], 16383⟩] [(0, _), (1, _), (2, _), (3, _), (4, _), (5, _), (6, _)] (by kernel_rfl) (by kernel_rfl) rfl ?_
        refine .det (B := []) rfl rfl (.inl rfl) .nil .nil rfl (RunB.lr (run_fieldAddr (.tmp rfl) fa24_0 (by first | exact Nat.zero_add _ | exact rfl))) ?_
        refine .det (B := []) rfl rfl (.inl rfl) (.cons rfl .nil) .nil rfl (RunB.lr (run_load1 (.tmp rfl) kd22 (by repeat (first | exact List.Mem.head _ | apply List.Mem.tail)) (by exact rfl))) ?_
        refine .det (B := []) rfl rfl (.inl rfl) .nil .nil rfl (RunB.lr (run_move (.tmp rfl))) ?_
        refine .det (B := []) rfl rfl (.inl rfl) .nil .nil rfl (RunB.lr (run_move (.tmp rfl))) ?_
        refine .det (B := []) rfl rfl (.inl rfl) .nil .nil rfl (RunB.lr (run_move (.tmp rfl))) ?_
        refine .det (B := []) rfl rfl (.inl rfl) .nil .nil rfl (RunB.lr (run_move (.tmp rfl))) ?_
        refine .ext (B := fun _ => [(4, (dC, cntO ((((c + 1) + 1) + 1) + 1)))]) rfl rfl (.inl rfl) (.cons rfl .nil) (.cons rfl .nil) (fun _ => rfl) ⟨0, by omega, by omega⟩ (lr_callv (F := fun r : Int => 0 ≤ r ∧ r < 4) (r := fun r => .int .i64 r) (A := [(dC, cntO ((((c + 1) + 1) + 1)))]) (B := fun _ => [(dC, cntO ((((c + 1) + 1) + 1) + 1))]) cb72 (.tmp rfl) (.cons .const .nil) rfl (fun w2 hS hA => drawK 4 ((((c + 1) + 1) + 1)) bx dC pb po cap l w2 (by omega) (by omega) (hA (dC, cntO ((((c + 1) + 1) + 1))) (by simp)) (hU.draws hS (hA (dC, cntO ((((c + 1) + 1) + 1))) (by simp))))) ?_
        rintro s1 ⟨s10, s11⟩
        refine .det (B := []) rfl rfl (.inl rfl) .nil .nil rfl (RunB.lr (run_sub (.tmp rfl) (.tmp rfl) (by first | exact IntWalk.i64_in _ (by omega) | exact rfl))) ?_
        refine .ext (B := fun _ => [(4, (dC, cntO (((((c + 1) + 1) + 1) + 1) + 1)))]) rfl rfl (.inl rfl) (.cons rfl .nil) (.cons rfl .nil) (fun _ => rfl) ⟨0, by omega, by omega⟩ (lr_callv (F := fun r : Int => 0 ≤ r ∧ r < 4) (r := fun r => .int .i64 r) (A := [(dC, cntO (((((c + 1) + 1) + 1) + 1)))]) (B := fun _ => [(dC, cntO (((((c + 1) + 1) + 1) + 1) + 1))]) cb72 (.tmp rfl) (.cons .const .nil) rfl (fun w2 hS hA => drawK 4 (((((c + 1) + 1) + 1) + 1)) bx dC pb po cap l w2 (by omega) (by omega) (hA (dC, cntO (((((c + 1) + 1) + 1) + 1))) (by simp)) (hU.draws hS (hA (dC, cntO (((((c + 1) + 1) + 1) + 1))) (by simp))))) ?_
        rintro s2 ⟨s20, s21⟩
        refine .det (B := []) rfl rfl (.inl rfl) .nil .nil rfl (RunB.lr (run_add (.tmp rfl) (.tmp rfl) (by first | exact IntWalk.i64_in _ (by omega) | exact rfl))) ?_
        refine .det (B := []) rfl rfl (.inl rfl) .nil .nil rfl (RunB.lr (run_call1 cb30 (.cons (.tmp rfl) (.cons (.tmp rfl) .nil)) (fun w _ => spanLK _ _ w))) ?_
        refine .flo rfl rfl rfl (.lit rfl (.cons (.tmp rfl) .nil) (fun w => bs22_1_0 w)) trivial rfl rfl rfl ?_
        intro b69
        refine .ext (B := fun q => [(8, (q.1, _))]) rfl rfl (.inl rfl) (.cons rfl .nil) .nil (fun _ => rfl) (inrow_some (sz := 2) (n := 1) (xs := spanC _) rfl (by decide)) (lr_append_nil ap22 (.tmp rfl) (.tmp rfl) (news := spanC ⟨o - s1, o + s2⟩) rfl (by omega) (by omega) (by decide) (news_own (by repeat (first | exact List.Mem.head _ | apply List.Mem.tail)))) ?_
        rintro ⟨gO2, cgO2, rgO2⟩ hgO2
        refine .det (B := []) rfl rfl (.inl rfl) .nil .nil rfl (RunB.lr (run_fieldAddr (.tmp rfl) fa24_0 (by first | exact Nat.zero_add _ | exact rfl))) ?_
        refine .det (B := [(5, (_, _))]) rfl rfl (.inl rfl) .nil (.cons rfl .nil) rfl (lr_store1 (.tmp rfl) (.tmp rfl) rfl sz22 (by repeat (first | exact Put.done | apply Put.put | apply Put.skip))) ?_
        refine chain_nil (ts := [8, 0, 1, 2, 3, 4, 5, 6]) (.cons rfl (.cons rfl (.cons rfl (.cons rfl (.cons rfl (.cons rfl (.cons rfl (.cons rfl .nil)))))))) (by decide) ?_
        dsimp only at hgO2 ⊢
        refine xw_then ?_
        refine cw_seq ?_
        refine cw_chain2 (σ := [0, 1, 2, 3, 6, 7, 13, 14, 15, 16, 19, 20, 4, 5, 8, 9, 10, 11, 12, 26, 17, 18, 21, 22, 23, 24, 25, 27, 28, 29]) [⟨0, [], [], [], 0⟩, ⟨0, [6], [], [], 1⟩, ⟨0, [], [], [], 0⟩, ⟨0, [], [], [], 0⟩, ⟨1, [7], [5], [5], 8⟩, ⟨0, [], [], [], 28⟩, ⟨0, [], [], [], 0⟩, ⟨0, [], [], [], 0⟩, ⟨1, [7], [5], [5], 152⟩, ⟨0, [], [], [], 472⟩, ⟨0, [], [], [], 1020⟩, ⟨2, [], [], [8], 2044⟩, ⟨1, [8], [], [9], 4095⟩, ⟨0, [], [], [], 0⟩, ⟨0, [6], [], [], 8192⟩, ⟨0, [], [], [], 0⟩, ⟨0, [], [], [], 0⟩, ⟨1, [7], [5], [5], 73727⟩, ⟨0, [], [], [], 237567⟩, ⟨0, [], [], [], 0⟩, ⟨0, [], [], [], 0⟩, ⟨1, [7], [5], [5], 1253375⟩, ⟨0, [], [], [], 3874815⟩, ⟨0, [], [], [], 8364031⟩, ⟨2, [], [], [10], 16752639⟩, ⟨1, [10], [], [11], 33554431⟩, ⟨0, [], [], [], 32767⟩, ⟨0, [], [6], [6], 134217727⟩, ⟨0, [], [], [], 268435455⟩, ⟨0, [], [6], [6], 536870911⟩] [(0, _), (1, _), (2, _), (3, _), (4, _), (5, _), (6, _), (7, _)] (by kernel_rfl) (by kernel_rfl) rfl ?_
        refine .det (B := []) rfl rfl (.inl rfl) .nil .nil rfl (RunB.lr (run_fieldAddr (.tmp rfl) fa24_1 (by first | exact Nat.zero_add _ | exact rfl))) ?_
        refine .det (B := []) rfl rfl (.inl rfl) (.cons rfl .nil) .nil rfl (RunB.lr (run_load1 (.tmp rfl) kd22 (by repeat (first | exact List.Mem.head _ | apply List.Mem.tail)) (by exact rfl))) ?_
        refine .det (B := []) rfl rfl (.inl rfl) .nil .nil rfl (RunB.lr (run_move (.tmp rfl))) ?_
        refine .det (B := []) rfl rfl (.inl rfl) .nil .nil rfl (RunB.lr (run_move (.tmp rfl))) ?_
        refine .det (B := []) rfl rfl (.inl rfl) .nil .nil rfl (RunB.lr (run_move (.tmp rfl))) ?_
        refine .det (B := []) rfl rfl (.inl rfl) .nil .nil rfl (RunB.lr (run_move (.tmp rfl))) ?_
        refine .det (B := []) rfl rfl (.inl rfl) .nil .nil rfl (RunB.lr (run_fieldAddr (.tmp rfl) fa24_2 (by first | exact Nat.zero_add _ | exact rfl))) ?_
        refine .det (B := []) rfl rfl (.inl rfl) (.cons rfl .nil) .nil rfl (RunB.lr (run_load1 (.tmp rfl) kd22 (by repeat (first | exact List.Mem.head _ | apply List.Mem.tail)) (by exact rfl))) ?_
        refine .det (B := []) rfl rfl (.inl rfl) .nil .nil rfl (RunB.lr (run_move (.tmp rfl))) ?_
        refine .det (B := []) rfl rfl (.inl rfl) .nil .nil rfl (RunB.lr (run_move (.tmp rfl))) ?_
        refine .det (B := []) rfl rfl (.inl rfl) .nil .nil rfl (RunB.lr (run_move (.tmp rfl))) ?_
        refine .det (B := []) rfl rfl (.inl rfl) .nil .nil rfl (RunB.lr (run_move (.tmp rfl))) ?_
        refine .ext (B := fun _ => [(5, (dC, cntO ((((((c + 1) + 1) + 1) + 1) + 1) + 1)))]) rfl rfl (.inl rfl) (.cons rfl .nil) (.cons rfl .nil) (fun _ => rfl) ⟨0, by omega, by omega⟩ (lr_callv (F := fun r : Int => 0 ≤ r ∧ r < 5) (r := fun r => .int .i64 r) (A := [(dC, cntO ((((((c + 1) + 1) + 1) + 1) + 1)))]) (B := fun _ => [(dC, cntO ((((((c + 1) + 1) + 1) + 1) + 1) + 1))]) cb72 (.tmp rfl) (.cons .const .nil) rfl (fun w2 hS hA => drawK 5 ((((((c + 1) + 1) + 1) + 1) + 1)) bx dC pb po cap l w2 (by omega) (by omega) (hA (dC, cntO ((((((c + 1) + 1) + 1) + 1) + 1))) (by simp)) (hU.draws hS (hA (dC, cntO ((((((c + 1) + 1) + 1) + 1) + 1))) (by simp))))) ?_
        rintro s3 ⟨s30, s31⟩
        refine .det (B := []) rfl rfl (.inl rfl) .nil .nil rfl (RunB.lr (run_sub (.tmp rfl) (.tmp rfl) (by first | exact IntWalk.i64_in _ (by omega) | exact rfl))) ?_
        refine .ext (B := fun _ => [(5, (dC, cntO (((((((c + 1) + 1) + 1) + 1) + 1) + 1) + 1)))]) rfl rfl (.inl rfl) (.cons rfl .nil) (.cons rfl .nil) (fun _ => rfl) ⟨0, by omega, by omega⟩ (lr_callv (F := fun r : Int => 0 ≤ r ∧ r < 5) (r := fun r => .int .i64 r) (A := [(dC, cntO (((((((c + 1) + 1) + 1) + 1) + 1) + 1)))]) (B := fun _ => [(dC, cntO (((((((c + 1) + 1) + 1) + 1) + 1) + 1) + 1))]) cb72 (.tmp rfl) (.cons .const .nil) rfl (fun w2 hS hA => drawK 5 (((((((c + 1) + 1) + 1) + 1) + 1) + 1)) bx dC pb po cap l w2 (by omega) (by omega) (hA (dC, cntO (((((((c + 1) + 1) + 1) + 1) + 1) + 1))) (by simp)) (hU.draws hS (hA (dC, cntO (((((((c + 1) + 1) + 1) + 1) + 1) + 1))) (by simp))))) ?_
        rintro s4 ⟨s40, s41⟩
        refine .det (B := []) rfl rfl (.inl rfl) .nil .nil rfl (RunB.lr (run_add (.tmp rfl) (.tmp rfl) (by first | exact IntWalk.i64_in _ (by omega) | exact rfl))) ?_
        refine .det (B := []) rfl rfl (.inl rfl) .nil .nil rfl (RunB.lr (run_call1 cb30 (.cons (.tmp rfl) (.cons (.tmp rfl) .nil)) (fun w _ => spanLK _ _ w))) ?_
        refine .flo rfl rfl rfl (.lit rfl (.cons (.tmp rfl) .nil) (fun w => bs22_1_0 w)) trivial rfl rfl rfl ?_
        intro b83
        refine .ext (B := fun q => [(9, (q.1, _))]) rfl rfl (.inl rfl) (.cons rfl .nil) .nil (fun _ => rfl) (inrow_some (sz := 2) (n := 1) (xs := spanC _) rfl (by decide)) (lr_append_nil ap22 (.tmp rfl) (.tmp rfl) (news := spanC ⟨wd - s3, wd + s4⟩) rfl (by omega) (by omega) (by decide) (news_own (by repeat (first | exact List.Mem.head _ | apply List.Mem.tail)))) ?_
        rintro ⟨gW2, cgW2, rgW2⟩ hgW2
        refine .det (B := []) rfl rfl (.inl rfl) .nil .nil rfl (RunB.lr (run_fieldAddr (.tmp rfl) fa24_1 (by first | exact Nat.zero_add _ | exact rfl))) ?_
        refine .ext (B := fun _ => [(5, (dC, cntO ((((((((c + 1) + 1) + 1) + 1) + 1) + 1) + 1) + 1)))]) rfl rfl (.inl rfl) (.cons rfl .nil) (.cons rfl .nil) (fun _ => rfl) ⟨0, by omega, by omega⟩ (lr_callv (F := fun r : Int => 0 ≤ r ∧ r < 5) (r := fun r => .int .i64 r) (A := [(dC, cntO ((((((((c + 1) + 1) + 1) + 1) + 1) + 1) + 1)))]) (B := fun _ => [(dC, cntO ((((((((c + 1) + 1) + 1) + 1) + 1) + 1) + 1) + 1))]) cb72 (.tmp rfl) (.cons .const .nil) rfl (fun w2 hS hA => drawK 5 ((((((((c + 1) + 1) + 1) + 1) + 1) + 1) + 1)) bx dC pb po cap l w2 (by omega) (by omega) (hA (dC, cntO ((((((((c + 1) + 1) + 1) + 1) + 1) + 1) + 1))) (by simp)) (hU.draws hS (hA (dC, cntO ((((((((c + 1) + 1) + 1) + 1) + 1) + 1) + 1))) (by simp))))) ?_
        rintro s5 ⟨s50, s51⟩
        refine .det (B := []) rfl rfl (.inl rfl) .nil .nil rfl (RunB.lr (run_sub (.tmp rfl) (.tmp rfl) (by first | exact IntWalk.i64_in _ (by omega) | exact rfl))) ?_
        refine .ext (B := fun _ => [(5, (dC, cntO (((((((((c + 1) + 1) + 1) + 1) + 1) + 1) + 1) + 1) + 1)))]) rfl rfl (.inl rfl) (.cons rfl .nil) (.cons rfl .nil) (fun _ => rfl) ⟨0, by omega, by omega⟩ (lr_callv (F := fun r : Int => 0 ≤ r ∧ r < 5) (r := fun r => .int .i64 r) (A := [(dC, cntO (((((((((c + 1) + 1) + 1) + 1) + 1) + 1) + 1) + 1)))]) (B := fun _ => [(dC, cntO (((((((((c + 1) + 1) + 1) + 1) + 1) + 1) + 1) + 1) + 1))]) cb72 (.tmp rfl) (.cons .const .nil) rfl (fun w2 hS hA => drawK 5 (((((((((c + 1) + 1) + 1) + 1) + 1) + 1) + 1) + 1)) bx dC pb po cap l w2 (by omega) (by omega) (hA (dC, cntO (((((((((c + 1) + 1) + 1) + 1) + 1) + 1) + 1) + 1))) (by simp)) (hU.draws hS (hA (dC, cntO (((((((((c + 1) + 1) + 1) + 1) + 1) + 1) + 1) + 1))) (by simp))))) ?_
        rintro s6 ⟨s60, s61⟩
        refine .det (B := []) rfl rfl (.inl rfl) .nil .nil rfl (RunB.lr (run_add (.tmp rfl) (.tmp rfl) (by first | exact IntWalk.i64_in _ (by omega) | exact rfl))) ?_
        refine .det (B := []) rfl rfl (.inl rfl) .nil .nil rfl (RunB.lr (run_call1 cb30 (.cons (.tmp rfl) (.cons (.tmp rfl) .nil)) (fun w _ => spanLK _ _ w))) ?_
        refine .flo rfl rfl rfl (.lit rfl (.cons (.tmp rfl) .nil) (fun w => bs22_1_0 w)) trivial rfl rfl rfl ?_
        intro b96
        refine .ext (B := fun q => [(11, (q.1, _))]) rfl rfl (.inl rfl) (.cons rfl .nil) .nil (fun _ => rfl) (inrow_some (sz := 2) (n := 1) (xs := spanC _) rfl (by decide)) (lr_append_nil ap22 (.tmp rfl) (.tmp rfl) (news := spanC ⟨dp - s5, dp + s6⟩) rfl (by omega) (by omega) (by decide) (news_own (by repeat (first | exact List.Mem.head _ | apply List.Mem.tail)))) ?_
        rintro ⟨gD2, cgD2, rgD2⟩ hgD2
        refine .det (B := [(6, (_, _))]) rfl rfl (.inl rfl) .nil (.cons rfl .nil) rfl (lr_store1 (.tmp rfl) (.tmp rfl) rfl sz22 (by repeat (first | exact Put.done | apply Put.put | apply Put.skip))) ?_
        refine .det (B := []) rfl rfl (.inl rfl) .nil .nil rfl (RunB.lr (run_fieldAddr (.tmp rfl) fa24_2 (by first | exact Nat.zero_add _ | exact rfl))) ?_
        refine .det (B := [(6, (_, _))]) rfl rfl (.inl rfl) .nil (.cons rfl .nil) rfl (lr_store1 (.tmp rfl) (.tmp rfl) rfl sz22 (by repeat (first | exact Put.done | apply Put.put | apply Put.skip))) ?_
        refine chain_nil (ts := [11, 9, 0, 1, 2, 3, 4, 5, 6, 7]) (.cons rfl (.cons rfl (.cons rfl (.cons rfl (.cons rfl (.cons rfl (.cons rfl (.cons rfl (.cons rfl (.cons rfl .nil)))))))))) (by decide) ?_
        dsimp only at hgW2 hgD2 ⊢
        have hR : OkT (⟨o, wd, dp, ⟨o - s1, o + s2⟩, ⟨wd - s3, wd + s4⟩, ⟨dp - s5, dp + s6⟩⟩ : TrueD) := ⟨by simp only; omega, by simp only; omega, by simp only; omega, by simp only; omega, by simp only; omega, by simp only; omega⟩
        have hsoil : soilT (([] : List TrueD) ++ [(⟨o, wd, dp, ⟨o - s1, o + s2⟩, ⟨wd - s3, wd + s4⟩, ⟨dp - s5, dp + s6⟩⟩ : TrueD)]) = soilT ([] : List TrueD) + wd * dp := soilT_append ([] : List TrueD) (⟨o, wd, dp, ⟨o - s1, o + s2⟩, ⟨wd - s3, wd + s4⟩, ⟨dp - s5, dp + s6⟩⟩ : TrueD)
        refine xw_then ?_
        refine cw_region ?_
        refine lstepB rfl rfl rfl (run_move (.tmp rfl)) ?_
        refine lstepB rfl rfl rfl (run_move (.tmp rfl)) ?_
        refine lstepB rfl rfl rfl (run_move (.tmp rfl)) ?_
        refine lstepB rfl rfl rfl (run_mul (c := wd * dp) (.tmp rfl) (.tmp rfl) (IntWalk.i64_in _ (by omega))) ?_
        refine lstepB rfl rfl rfl (run_add (c := soilT (([] : List TrueD) ++ [(⟨o, wd, dp, ⟨o - s1, o + s2⟩, ⟨wd - s3, wd + s4⟩, ⟨dp - s5, dp + s6⟩⟩ : TrueD)])) (.tmp rfl) (.tmp rfl) (by rw [hsoil]; exact IntWalk.i64_in _ (by omega))) ?_
        refine lstepB rfl rfl rfl (run_assign (.tmp rfl)) ?_
        refine lnil ?_
        refine xw_in ?_
        refine xw_then ?_
        refine cw_region ?_
        refine lstepB rfl rfl rfl (run_add (.tmp rfl) .const (by first | exact IntWalk.i64_in _ (by omega) | exact rfl)) ?_
        refine lstepB rfl rfl rfl (run_move (.tmp rfl)) ?_
        refine lnil ?_
        exact xw_round ⟨0 + 1, (((((((((c + 1) + 1) + 1) + 1) + 1) + 1) + 1) + 1) + 1), ([] : List TrueD) ++ [(⟨o, wd, dp, ⟨o - s1, o + s2⟩, ⟨wd - s3, wd + s4⟩, ⟨dp - s5, dp + s6⟩⟩ : TrueD)], (.five (hA2, chA2, rhA2) (hB2, chB2, rhB2) (gO2, cgO2, rgO2) (gW2, cgW2, rgW2) (gD2, cgD2, rgD2))⟩ ⟨⟨by simp only; omega, by simp only; omega, by simp only; omega⟩, okT_snoc hok hR, by simp only [List.length_append, hlen, List.length_cons, List.length_nil], ⟨by simp only; omega, hhA2, hhB2, hgO2, hgW2, hgD2⟩⟩ (by simp only; omega) (by repeat (first | exact Less.nil | refine Less.cons rfl ?_)) (by repeat (first | exact Pick.nil | (apply Pick.cons; focus (repeat (first | exact Del.here | apply Del.there)))))
      ·
        have hmn : m = ((0 : Nat) : Int) := by omega
        have hT : Told ([] : List TrueD) := ⟨hok, by simp⟩
        have hvT := hT.val
        have hmT := hT.lens
        have l1 : (furT ([] : List TrueD)).offs.length = 0 := by simp [furT]
        have l2 : (furT ([] : List TrueD)).wids.length = 0 := by simp [furT]
        have l3 : (furT ([] : List TrueD)).deps.length = 0 := by simp [furT]
        have hl8 := hT.few
        have hsm := furT_small hok
        have hmost := hT.most
        have hsoi := hT.soil
        obtain ⟨t, ht⟩ : ∃ t, t = ([] : List TrueD).map (·.o) := ⟨_, rfl⟩
        have htl : t.length = 0 := by rw [ht]; simp
        rw [← ht] at hsm hmost
        have hwr := hT.wrong
        rw [← ht] at hwr
        have ws32 := worstN_small (furT ([] : List TrueD)).offs (k := (furT ([] : List TrueD)).offs.length - 2) (by omega)
        refine cw_exit ?_
        refine xw_then_exit ?_
        refine xw_then_exit ?_
        refine xw_in_exit ?_
        refine xw_then ?_
        refine cw_seq ?_
        refine cw_region ?_
        refine lstepB rfl rfl rfl (run_move (.tmp rfl)) ?_
        refine lstepB rfl rfl rfl (run_call1 cb32 (.cons (.tmp rfl) .nil) (fun w2 hS => by have h0 := rmostK t (by omega) hsm none 0 w2 (fun i r h => by rw [List.eq_nil_of_length_eq_zero htl] at h; simp at h); rw [htl] at h0; exact h0)) ?_
        refine lstepB rfl rfl rfl (run_assign (.tmp rfl)) ?_
        refine lnil ?_
        refine xw_then ?_
        refine cw_seq ?_
        refine cw_region ?_
        refine lstepB rfl rfl rfl (run_loadN (.tmp rfl) kd24 sz24 (by repeat (first | exact List.Mem.head _ | apply List.Mem.tail)) (by repeat (first | exact Sub.done | apply Sub.take | apply Sub.skip))) ?_
        refine lstepB rfl rfl rfl (run_call1 cb14 (.cons (.tmp rfl) .nil) (fun w2 hS => bendQn (furT ([] : List TrueD)) l1 l2 l3  w2 hmT ⟨fun i r h => by simp [furT] at h, fun i r h => by simp [furT] at h, fun i r h => by simp [furT] at h⟩ hvT)) ?_
        refine lstepB rfl rfl rfl (run_move (.tmp rfl)) ?_
        refine lstepB rfl rfl rfl (run_extract (.tmp rfl) rfl) ?_
        refine lstepB rfl rfl rfl (run_extract (.tmp rfl) rfl) ?_
        refine lstep rfl rfl rfl (run_alloc zr28) ?_
        intro b12 _
        refine lstep0 rfl rfl (run_storeN (.tmp rfl) (.tmp rfl) rfl sz28 rfl (by repeat (first | exact Upd.here | apply Upd.there)) (by repeat (first | exact Put.done | apply Put.put | apply Put.skip))) ?_
        refine lstepB rfl rfl rfl (run_assign (.tmp rfl)) ?_
        refine lnil ?_
        refine xw_then ?_
        refine cw_seq ?_
        refine cw_region ?_
        refine lstepB rfl rfl rfl (run_loadN (.tmp rfl) kd24 sz24 (by repeat (first | exact List.Mem.head _ | apply List.Mem.tail)) (by repeat (first | exact Sub.done | apply Sub.take | apply Sub.skip))) ?_
        refine lstepB rfl rfl rfl (run_call1 cb20 (.cons (.tmp rfl) .nil) (fun w2 hS => worstQn (furT ([] : List TrueD)) l1 l2 l3  w2 hmT ⟨fun i r h => by simp [furT] at h, fun i r h => by simp [furT] at h, fun i r h => by simp [furT] at h⟩ hvT)) ?_
        refine lstepB rfl rfl rfl (run_move (.tmp rfl)) ?_
        refine lstepB rfl rfl rfl (run_extract (.tmp rfl) rfl) ?_
        refine lstepB rfl rfl rfl (run_extract (.tmp rfl) rfl) ?_
        refine lstepB rfl rfl rfl (run_extract (.tmp rfl) rfl) ?_
        refine lstepB rfl rfl rfl (run_assign (.tmp rfl)) ?_
        refine lstepB rfl rfl rfl (run_assign (.tmp rfl)) ?_
        refine lstepB rfl rfl rfl (run_assign (.tmp rfl)) ?_
        refine lnil ?_
        refine xw_then ?_
        refine cw_seq ?_
        refine cw_region ?_
        refine lstepB rfl rfl rfl (run_loadN (.tmp rfl) kd24 sz24 (by repeat (first | exact List.Mem.head _ | apply List.Mem.tail)) (by repeat (first | exact Sub.done | apply Sub.take | apply Sub.skip))) ?_
        refine lstepB rfl rfl rfl (run_move (.tmp rfl)) ?_
        refine lstepB rfl rfl rfl (run_call1 cb23 (.cons (.tmp rfl) (.cons (.tmp rfl) .nil)) (fun w2 hS => wrongQn (furT ([] : List TrueD)) l1 l2 l3 _ w2 hmT ⟨fun i r h => by simp [furT] at h, fun i r h => by simp [furT] at h, fun i r h => by simp [furT] at h⟩ hwr)) ?_
        refine lstepB rfl rfl rfl (run_move (.tmp rfl)) ?_
        refine lstepB rfl rfl rfl (run_extract (.tmp rfl) rfl) ?_
        refine lstepB rfl rfl rfl (run_extract (.tmp rfl) rfl) ?_
        refine lstepB rfl rfl rfl (run_assign (.tmp rfl)) ?_
        refine lstepB rfl rfl rfl (run_assign (.tmp rfl)) ?_
        refine lnil ?_
        refine xw_then ?_
        refine cw_seq ?_
        refine cw_region ?_
        refine lstepB rfl rfl rfl (run_loadN (.tmp rfl) kd24 sz24 (by repeat (first | exact List.Mem.head _ | apply List.Mem.tail)) (by repeat (first | exact Sub.done | apply Sub.take | apply Sub.skip))) ?_
        refine lstepB rfl rfl rfl (run_call1 cb27 (.cons (.tmp rfl) .nil) (fun w2 hS => soilQn (furT ([] : List TrueD)) l1 l2 l3  w2 hmT ⟨fun i r h => by simp [furT] at h, fun i r h => by simp [furT] at h, fun i r h => by simp [furT] at h⟩ hvT)) ?_
        refine lstepB rfl rfl rfl (run_move (.tmp rfl)) ?_
        refine lstepB rfl rfl rfl (run_extract (.tmp rfl) rfl) ?_
        refine lstepB rfl rfl rfl (run_extract (.tmp rfl) rfl) ?_
        refine lstep rfl rfl rfl (run_alloc zr28) ?_
        intro b19 _
        refine lstep0 rfl rfl (run_storeN (.tmp rfl) (.tmp rfl) rfl sz28 rfl (by repeat (first | exact Upd.here | apply Upd.there)) (by repeat (first | exact Put.done | apply Put.put | apply Put.skip))) ?_
        refine lstepB rfl rfl rfl (run_assign (.tmp rfl)) ?_
        refine lnil ?_
        refine xw_then ?_
        refine cw_seq ?_
        refine cw_seq ?_
        refine cw_region ?_
        refine lstepB rfl rfl rfl (run_move (.tmp rfl)) ?_
        refine lstepB rfl rfl rfl (run_neq (.tmp rfl) .const (decide_eq_false (by omega))) ?_
        refine lstepB rfl rfl rfl (run_move (.tmp rfl)) ?_
        refine lyes rfl rfl rfl rfl ?_
        refine gstepB rfl rfl (run_move (.tmp rfl)) ?_
        refine lyes rfl rfl rfl rfl ?_
        refine gstepB rfl rfl (run_loadN (.tmp rfl) kd28 sz28 (by repeat (first | exact List.Mem.head _ | apply List.Mem.tail)) (by repeat (first | exact Sub.done | apply Sub.take | apply Sub.skip))) ?_
        refine lyes rfl rfl rfl rfl ?_
        refine gstepB rfl rfl (run_call1 cb33 (.cons (.tmp rfl) (.cons (.tmp rfl) .nil)) (fun w2 _ => (insideK _ _ w2).as (congrArg Value.bool hmost))) ?_
        refine lyes rfl rfl rfl rfl ?_
        refine gstepB rfl rfl (run_not (.tmp rfl) (by first | exact Bool.not_true | exact Bool.not_false | exact rfl)) ?_
        refine lstepB rfl rfl rfl (by first | exact run_pick_true (.tmp rfl) .const | exact run_pick_false (.tmp rfl) (.tmp rfl)) ?_
        refine lstepB rfl rfl rfl (run_move (.tmp rfl)) ?_
        refine lyes rfl rfl rfl rfl ?_
        refine gstepB rfl rfl (run_move (.tmp rfl)) ?_
        refine lyes rfl rfl rfl rfl ?_
        refine gstepB rfl rfl (run_neq (.tmp rfl) .const (decide_eq_false (by omega))) ?_
        refine lstepB rfl rfl rfl (by first | exact run_pick_true (.tmp rfl) .const | exact run_pick_false (.tmp rfl) (.tmp rfl)) ?_
        refine lstepB rfl rfl rfl (run_move (.tmp rfl)) ?_
        refine lyes rfl rfl rfl rfl ?_
        refine gstepB rfl rfl (run_move (.tmp rfl)) ?_
        refine lyes rfl rfl rfl rfl ?_
        refine gstepB rfl rfl (run_neq (.tmp rfl) .const (decide_eq_false (by omega))) ?_
        refine lstepB rfl rfl rfl (by first | exact run_pick_true (.tmp rfl) .const | exact run_pick_false (.tmp rfl) (.tmp rfl)) ?_
        refine lstepB rfl rfl rfl (run_move (.tmp rfl)) ?_
        refine lyes rfl rfl rfl rfl ?_
        refine gstepB rfl rfl (run_move (.tmp rfl)) ?_
        refine lyes rfl rfl rfl rfl ?_
        refine gstepB rfl rfl (run_neq (.tmp rfl) .const (decide_eq_false (by omega))) ?_
        refine lstepB rfl rfl rfl (by first | exact run_pick_true (.tmp rfl) .const | exact run_pick_false (.tmp rfl) (.tmp rfl)) ?_
        refine lstepB rfl rfl rfl (run_move (.tmp rfl)) ?_
        refine lyes rfl rfl rfl rfl ?_
        refine gstepB rfl rfl (run_move (.tmp rfl)) ?_
        refine lyes rfl rfl rfl rfl ?_
        refine gstepB rfl rfl (run_neq (.tmp rfl) .const (decide_eq_false (by omega))) ?_
        refine lstepB rfl rfl rfl (by first | exact run_pick_true (.tmp rfl) .const | exact run_pick_false (.tmp rfl) (.tmp rfl)) ?_
        refine lstepB rfl rfl rfl (run_move (.tmp rfl)) ?_
        refine lyes rfl rfl rfl rfl ?_
        refine gstepB rfl rfl (run_move (.tmp rfl)) ?_
        refine lyes rfl rfl rfl rfl ?_
        refine gstepB rfl rfl (run_loadN (.tmp rfl) kd28 sz28 (by repeat (first | exact List.Mem.head _ | apply List.Mem.tail)) (by repeat (first | exact Sub.done | apply Sub.take | apply Sub.skip))) ?_
        refine lyes rfl rfl rfl rfl ?_
        refine gstepB rfl rfl (run_call1 cb33 (.cons (.tmp rfl) (.cons (.tmp rfl) .nil)) (fun w2 _ => (insideK _ _ w2).as (congrArg Value.bool hsoi))) ?_
        refine lyes rfl rfl rfl rfl ?_
        refine gstepB rfl rfl (run_not (.tmp rfl) (by first | exact Bool.not_true | exact Bool.not_false | exact rfl)) ?_
        refine lstepB rfl rfl rfl (by first | exact run_pick_true (.tmp rfl) .const | exact run_pick_false (.tmp rfl) (.tmp rfl)) ?_
        refine lnil ?_
        refine xw_then ?_
        refine cw_cond_false (.tmp rfl) ?_
        refine cw_skip ?_
        refine xw_then ?_
        refine cw_seq ?_
        refine cw_seq ?_
        refine cw_region ?_
        refine lstepB rfl rfl rfl (run_assign .const) ?_
        refine lnil ?_
        refine xw_then ?_
        refine cw_block ?_
        refine cw_loop (S := Nat) (fun k => [(21, .int .i64 ((k + 1 : Nat) : Int))]) [(3, _), (4, _), (5, _), (6, _), (11, _), (14, _), (15, _)] (fun k => (b4, Obj.cells [.slice none 0 0, .slice none 0 0, .slice none 0 0].toArray 24 (0, 0)) :: (dC, cntO c) :: (bx, Obj.cells [.slice (some ⟨pb, po, none⟩) l.length cap].toArray 45 (0, 0)) :: []) (fun k => k = 0) (fun k => 0 - k) 0 rfl (by repeat (first | exact Less.nil | refine Less.cons rfl ?_)) (by repeat (first | exact Pick.nil | (apply Pick.cons; focus (repeat (first | exact Del.here | apply Del.there))))) ?_
        intro k hk
        refine cw_seq ?_
        refine cw_seq ?_
        refine cw_region ?_
        refine lstepB rfl rfl rfl (run_move (.tmp rfl)) ?_
        refine lstepB rfl rfl rfl (run_add (c := ((k + 2 : Nat) : Int)) (.tmp rfl) .const (by rw [show ((k + 2 : Nat) : Int) = ((k + 1 : Nat) : Int) + 1 by omega]; exact IntWalk.i64_in _ (by omega))) ?_
        refine lstepB rfl rfl rfl (run_move (.tmp rfl)) ?_
        refine lstepB rfl rfl rfl (run_len (.tmp rfl) sl33) ?_
        refine lstepB rfl rfl rfl (run_lss (.tmp rfl) (.tmp rfl) (decide_eq_false (by omega))) ?_
        refine lnil ?_
        refine xw_then ?_
        refine cw_cond_false (.tmp rfl) ?_
        refine cw_exit ?_
        refine xw_then_exit ?_
        refine xw_then_exit ?_
        refine xw_in_exit ?_
        refine xw_then ?_
        refine cw_seq ?_
        refine cw_region ?_
        refine lstepB rfl rfl rfl (run_move (.tmp rfl)) ?_
        refine lstep rfl rfl rfl (LR.runs (R := [(bx, _)]) (A := [(dC, _)]) (lr_callv (F := fun r : Int => 0 ≤ r ∧ r < 45) (r := fun r => .int .i64 r) (A := [(dC, cntO (c))]) (B := fun _ => [(dC, cntO (c + 1))]) cb72 (.tmp rfl) (.cons .const .nil) rfl (fun w2 hS hA => drawK 45 (c) bx dC pb po cap l w2 (by omega) (by omega) (hA (dC, cntO (c)) (by simp)) (hU.draws hS (hA (dC, cntO (c)) (by simp))))) (by repeat (first | exact Pick.nil | (apply Pick.cons; focus (repeat (first | exact Del.here | apply Del.there))))) (by repeat (first | exact Dels.nil | (apply Dels.cons; focus (repeat (first | exact Del.here | apply Del.there)))))) ?_
        intro lt ⟨lt0, lt1⟩
        try dsimp only
        obtain ⟨sa, sb, hsh, ⟨sa32, sb32⟩, hbits⟩ := hT.shallow lt0
        refine lstepB rfl rfl rfl (run_assign (.tmp rfl)) ?_
        refine lnil ?_
        refine xw_then ?_
        refine cw_seq ?_
        refine cw_region ?_
        refine lstepB rfl rfl rfl (run_loadN (.tmp rfl) kd24 sz24 (by repeat (first | exact List.Mem.head _ | apply List.Mem.tail)) (by repeat (first | exact Sub.done | apply Sub.take | apply Sub.skip))) ?_
        refine lstepB rfl rfl rfl (run_move (.tmp rfl)) ?_
        refine lstepB rfl rfl rfl (run_call1 cb25 (.cons (.tmp rfl) (.cons (.tmp rfl) .nil)) (fun w2 hS => shallowQn (furT ([] : List TrueD)) l1 l2 l3 lt w2 hmT ⟨fun i r h => by simp [furT] at h, fun i r h => by simp [furT] at h, fun i r h => by simp [furT] at h⟩ hsh)) ?_
        refine lstepB rfl rfl rfl (run_move (.tmp rfl)) ?_
        refine lstepB rfl rfl rfl (run_extract (.tmp rfl) rfl) ?_
        refine lstepB rfl rfl rfl (run_extract (.tmp rfl) rfl) ?_
        refine lstepB rfl rfl rfl (run_extract (.tmp rfl) rfl) ?_
        refine lstepB rfl rfl rfl (run_assign (.tmp rfl)) ?_
        refine lstepB rfl rfl rfl (run_assign (.tmp rfl)) ?_
        refine lstepB rfl rfl rfl (run_assign (.tmp rfl)) ?_
        refine lnil ?_
        refine xw_then ?_
        refine cw_seq ?_
        refine cw_seq ?_
        refine cw_region ?_
        refine lstepB rfl rfl rfl (run_move (.tmp rfl)) ?_
        refine lstepB rfl rfl rfl (run_len (.tmp rfl) sl33) ?_
        refine lstepB rfl rfl rfl (run_move .const) ?_
        refine lnil ?_
        refine xw_then ?_
        refine cw_block ?_
        refine cw_loop (S := Nat) (fun j => [(219, .int .i64 (j : Int))]) [(25, _), (26, _), (27, _), (28, _), (217, _), (218, _)] (fun j => []) (fun j => j = 0) (fun j => 0) 0 rfl (by repeat (first | exact Less.nil | refine Less.cons rfl ?_)) (by repeat (first | exact Pick.nil | (apply Pick.cons; focus (repeat (first | exact Del.here | apply Del.there))))) ?_
        intro j hj
        refine cw_seq ?_
        refine cw_region ?_
        refine lstepB rfl rfl rfl (run_lss (.tmp rfl) (.tmp rfl) (decide_eq_false (by omega))) ?_
        refine lnil ?_
        refine xw_then ?_
        refine cw_seq ?_
        refine cw_cond_false (.tmp rfl) ?_
        refine cw_exit ?_
        refine xw_then_exit ?_
        refine xw_then_exit ?_
        refine xw_in_exit ?_
        refine xw_then ?_
        refine cw_seq ?_
        refine cw_region ?_
        refine lstepB rfl rfl rfl (run_call1 cb13 .nil (fun w _ => aliveK w)) ?_
        refine lstepB rfl rfl rfl (run_assign (.tmp rfl)) ?_
        refine lnil ?_
        refine xw_then ?_
        refine cw_ret ?_
        refine xw_ret1 Try.results6 rfl (fun w hS => ⟨rfl, hS.kept⟩)
    case five ra rb ro rw_ rd =>
      obtain ⟨gA, cA, rA⟩ := ra
      obtain ⟨gB, cB, rB⟩ := rb
      obtain ⟨gO, cO, rO⟩ := ro
      obtain ⟨gW, cW, rW⟩ := rw_
      obtain ⟨gD, cD, rD⟩ := rd
      dsimp only at hrows ⊢
      obtain ⟨npos, hA, hB, hO, hW, hD⟩ := hrows
      refine cw_seq ?_
      refine cw_region ?_
      refine lstepB rfl rfl rfl (run_lss (.tmp rfl) (.tmp rfl) rfl) ?_
      refine lnil ?_
      refine xw_then ?_
      refine cw_seq ?_
      refine cw_cond_p (.tmp rfl) (fun hl => ?_) (fun hl => ?_)
      ·
        refine cw_skip ?_
        refine xw_then ?_
        refine cw_seq ?_
        refine cw_block ?_
        refine cw_seq ?_
        refine cw_region ?_
        refine lstepB rfl rfl rfl (run_move (.tmp rfl)) ?_
        refine lstep rfl rfl rfl (LR.runs (R := [(bx, _)]) (A := [(dC, _)]) (lr_callv (F := fun r : Int => 0 ≤ r ∧ r < 19) (r := fun r => .int .i64 r) (A := [(dC, cntO (c))]) (B := fun _ => [(dC, cntO (c + 1))]) cb72 (.tmp rfl) (.cons .const .nil) rfl (fun w2 hS hA => drawK 19 (c) bx dC pb po cap l w2 (by omega) (by omega) (hA (dC, cntO (c)) (by simp)) (hU.draws hS (hA (dC, cntO (c)) (by simp))))) (by repeat (first | exact Pick.nil | (apply Pick.cons; focus (repeat (first | exact Del.here | apply Del.there))))) (by repeat (first | exact Dels.nil | (apply Dels.cons; focus (repeat (first | exact Del.here | apply Del.there)))))) ?_
        intro r1 ⟨r10, r11⟩
        try dsimp only
        obtain ⟨o, ho⟩ : ∃ o, o = r1 - 9 := ⟨_, rfl⟩
        refine lstepB rfl rfl rfl (run_sub (c := o) (.tmp rfl) .const (by rw [ho]; exact IntWalk.i64_in _ (by omega))) ?_
        refine lstepB rfl rfl rfl (run_move (.tmp rfl)) ?_
        refine lstep rfl rfl rfl (LR.runs (R := [(bx, _)]) (A := [(dC, _)]) (lr_callv (F := fun r : Int => 0 ≤ r ∧ r < 40) (r := fun r => .int .i64 r) (A := [(dC, cntO ((c + 1)))]) (B := fun _ => [(dC, cntO ((c + 1) + 1))]) cb72 (.tmp rfl) (.cons .const .nil) rfl (fun w2 hS hA => drawK 40 ((c + 1)) bx dC pb po cap l w2 (by omega) (by omega) (hA (dC, cntO ((c + 1))) (by simp)) (hU.draws hS (hA (dC, cntO ((c + 1))) (by simp))))) (by repeat (first | exact Pick.nil | (apply Pick.cons; focus (repeat (first | exact Del.here | apply Del.there))))) (by repeat (first | exact Dels.nil | (apply Dels.cons; focus (repeat (first | exact Del.here | apply Del.there)))))) ?_
        intro r2 ⟨r20, r21⟩
        try dsimp only
        obtain ⟨wd, hwd⟩ : ∃ wd, wd = 10 + r2 := ⟨_, rfl⟩
        refine lstepB rfl rfl rfl (run_add (c := wd) .const (.tmp rfl) (by rw [hwd]; exact IntWalk.i64_in _ (by omega))) ?_
        refine lstepB rfl rfl rfl (run_move (.tmp rfl)) ?_
        refine lstep rfl rfl rfl (LR.runs (R := [(bx, _)]) (A := [(dC, _)]) (lr_callv (F := fun r : Int => 0 ≤ r ∧ r < 30) (r := fun r => .int .i64 r) (A := [(dC, cntO (((c + 1) + 1)))]) (B := fun _ => [(dC, cntO (((c + 1) + 1) + 1))]) cb72 (.tmp rfl) (.cons .const .nil) rfl (fun w2 hS hA => drawK 30 (((c + 1) + 1)) bx dC pb po cap l w2 (by omega) (by omega) (hA (dC, cntO (((c + 1) + 1))) (by simp)) (hU.draws hS (hA (dC, cntO (((c + 1) + 1))) (by simp))))) (by repeat (first | exact Pick.nil | (apply Pick.cons; focus (repeat (first | exact Del.here | apply Del.there))))) (by repeat (first | exact Dels.nil | (apply Dels.cons; focus (repeat (first | exact Del.here | apply Del.there)))))) ?_
        intro r3 ⟨r30, r31⟩
        try dsimp only
        obtain ⟨dp, hdp⟩ : ∃ dp, dp = 5 + r3 := ⟨_, rfl⟩
        have hmul1 := Int.mul_nonneg (a := wd) (b := dp) (by omega) (by omega)
        have hmul2 := mul_sub (a := wd) (b := dp) (c := 49) (d := 34) (by omega) (by omega) (by omega) (by omega)
        have hso0 := soilT_small hok
        refine lstepB rfl rfl rfl (run_add (c := dp) .const (.tmp rfl) (by rw [hdp]; exact IntWalk.i64_in _ (by omega))) ?_
        refine lstepB rfl rfl rfl (run_assign (.tmp rfl)) ?_
        refine lstepB rfl rfl rfl (run_assign (.tmp rfl)) ?_
        refine lstepB rfl rfl rfl (run_assign (.tmp rfl)) ?_
        refine lnil ?_
        refine xw_then ?_
        refine cw_seq ?_
        refine cw_region ?_
        refine lstepB rfl rfl rfl (run_move (.tmp rfl)) ?_
        refine lstepB rfl rfl rfl (run_move (.tmp rfl)) ?_
        refine lstep rfl rfl rfl (LR.runs (lr_buildSlice_at (.cons (.tmp rfl) .nil) (fun w => bs33_1_0 w)) (by repeat (first | exact Pick.nil | (apply Pick.cons; focus (repeat (first | exact Del.here | apply Del.there))))) (by repeat (first | exact Dels.nil | (apply Dels.cons; focus (repeat (first | exact Del.here | apply Del.there)))))) ?_
        intro b52 _
        refine lstep rfl rfl rfl (LR.runs (R := [(b52, _)]) (A := [(gA, _)]) (lr_append_row ap33 (.tmp rfl) hA (.tmp rfl) (news := [.int .i64 o]) rfl rfl (by omega) (by unfold maxLen; omega) (news_own (by repeat (first | exact List.Mem.head _ | apply List.Mem.tail)))) (by repeat (first | exact Pick.nil | (apply Pick.cons; focus (repeat (first | exact Del.here | apply Del.there))))) (by repeat (first | exact Dels.nil | (apply Dels.cons; focus (repeat (first | exact Del.here | apply Del.there)))))) ?_
        intro ⟨hA2, chA2, rhA2⟩ hhA2
        dsimp only at hhA2 ⊢
        refine lstepB rfl rfl rfl (run_move (.tmp rfl)) ?_
        refine lstepB rfl rfl rfl (run_move (.tmp rfl)) ?_
        refine lstep rfl rfl rfl (LR.runs (lr_buildSlice_at (.cons (.tmp rfl) .nil) (fun w => bs33_1_0 w)) (by repeat (first | exact Pick.nil | (apply Pick.cons; focus (repeat (first | exact Del.here | apply Del.there))))) (by repeat (first | exact Dels.nil | (apply Dels.cons; focus (repeat (first | exact Del.here | apply Del.there)))))) ?_
        intro b56 _
        refine lstep rfl rfl rfl (LR.runs (R := [(b56, _)]) (A := [(gB, _)]) (lr_append_row ap33 (.tmp rfl) hB (.tmp rfl) (news := [.int .i64 dp]) rfl rfl (by omega) (by unfold maxLen; omega) (news_own (by repeat (first | exact List.Mem.head _ | apply List.Mem.tail)))) (by repeat (first | exact Pick.nil | (apply Pick.cons; focus (repeat (first | exact Del.here | apply Del.there))))) (by repeat (first | exact Dels.nil | (apply Dels.cons; focus (repeat (first | exact Del.here | apply Del.there)))))) ?_
        intro ⟨hB2, chB2, rhB2⟩ hhB2
        dsimp only at hhB2 ⊢
        refine lstepB rfl rfl rfl (run_assign (.tmp rfl)) ?_
        refine lstepB rfl rfl rfl (run_assign (.tmp rfl)) ?_
        refine lnil ?_
        refine xw_then ?_
        refine cw_seq ?_
        refine cw_chain2 (σ := [0, 1, 2, 3, 6, 7, 4, 5, 8, 9, 10, 11, 12, 13, 14]) [⟨0, [], [], [], 0⟩, ⟨0, [8], [], [], 1⟩, ⟨0, [], [], [], 0⟩, ⟨0, [], [], [], 0⟩, ⟨1, [9], [4], [4], 8⟩, ⟨0, [], [], [], 28⟩, ⟨0, [], [], [], 0⟩, ⟨0, [], [], [], 0⟩, ⟨1, [9], [4], [4], 152⟩, ⟨0, [], [], [], 472⟩, ⟨0, [], [], [], 1020⟩, ⟨2, [], [], [10], 2044⟩, ⟨1, [10], [5], [5], 4095⟩, ⟨0, [], [], [], 8191⟩, ⟨0, [], [8], [8], 16383⟩] [(0, _), (1, _), (2, _), (3, _), (4, _), (5, _), (6, _), (7, _), (8, _), (9, _)] (by kernel_rfl) (by kernel_rfl) rfl ?_
        refine .det (B := []) rfl rfl (.inl rfl) .nil .nil rfl (RunB.lr (run_fieldAddr (.tmp rfl) fa24_0 (by first | exact Nat.zero_add _ | exact rfl))) ?_
        refine .det (B := []) rfl rfl (.inl rfl) (.cons rfl .nil) .nil rfl (RunB.lr (run_load1 (.tmp rfl) kd22 (by repeat (first | exact List.Mem.head _ | apply List.Mem.tail)) (by exact rfl))) ?_
        refine .det (B := []) rfl rfl (.inl rfl) .nil .nil rfl (RunB.lr (run_move (.tmp rfl))) ?_
        refine .det (B := []) rfl rfl (.inl rfl) .nil .nil rfl (RunB.lr (run_move (.tmp rfl))) ?_
        refine .det (B := []) rfl rfl (.inl rfl) .nil .nil rfl (RunB.lr (run_move (.tmp rfl))) ?_
        refine .det (B := []) rfl rfl (.inl rfl) .nil .nil rfl (RunB.lr (run_move (.tmp rfl))) ?_
        refine .ext (B := fun _ => [(4, (dC, cntO ((((c + 1) + 1) + 1) + 1)))]) rfl rfl (.inl rfl) (.cons rfl .nil) (.cons rfl .nil) (fun _ => rfl) ⟨0, by omega, by omega⟩ (lr_callv (F := fun r : Int => 0 ≤ r ∧ r < 4) (r := fun r => .int .i64 r) (A := [(dC, cntO ((((c + 1) + 1) + 1)))]) (B := fun _ => [(dC, cntO ((((c + 1) + 1) + 1) + 1))]) cb72 (.tmp rfl) (.cons .const .nil) rfl (fun w2 hS hA => drawK 4 ((((c + 1) + 1) + 1)) bx dC pb po cap l w2 (by omega) (by omega) (hA (dC, cntO ((((c + 1) + 1) + 1))) (by simp)) (hU.draws hS (hA (dC, cntO ((((c + 1) + 1) + 1))) (by simp))))) ?_
        rintro s1 ⟨s10, s11⟩
        refine .det (B := []) rfl rfl (.inl rfl) .nil .nil rfl (RunB.lr (run_sub (.tmp rfl) (.tmp rfl) (by first | exact IntWalk.i64_in _ (by omega) | exact rfl))) ?_
        refine .ext (B := fun _ => [(4, (dC, cntO (((((c + 1) + 1) + 1) + 1) + 1)))]) rfl rfl (.inl rfl) (.cons rfl .nil) (.cons rfl .nil) (fun _ => rfl) ⟨0, by omega, by omega⟩ (lr_callv (F := fun r : Int => 0 ≤ r ∧ r < 4) (r := fun r => .int .i64 r) (A := [(dC, cntO (((((c + 1) + 1) + 1) + 1)))]) (B := fun _ => [(dC, cntO (((((c + 1) + 1) + 1) + 1) + 1))]) cb72 (.tmp rfl) (.cons .const .nil) rfl (fun w2 hS hA => drawK 4 (((((c + 1) + 1) + 1) + 1)) bx dC pb po cap l w2 (by omega) (by omega) (hA (dC, cntO (((((c + 1) + 1) + 1) + 1))) (by simp)) (hU.draws hS (hA (dC, cntO (((((c + 1) + 1) + 1) + 1))) (by simp))))) ?_
        rintro s2 ⟨s20, s21⟩
        refine .det (B := []) rfl rfl (.inl rfl) .nil .nil rfl (RunB.lr (run_add (.tmp rfl) (.tmp rfl) (by first | exact IntWalk.i64_in _ (by omega) | exact rfl))) ?_
        refine .det (B := []) rfl rfl (.inl rfl) .nil .nil rfl (RunB.lr (run_call1 cb30 (.cons (.tmp rfl) (.cons (.tmp rfl) .nil)) (fun w _ => spanLK _ _ w))) ?_
        refine .flo rfl rfl rfl (.lit rfl (.cons (.tmp rfl) .nil) (fun w => bs22_1_0 w)) trivial rfl rfl rfl ?_
        intro b69
        refine .ext (B := fun q => [(5, (q.1, _))]) rfl rfl (.inl rfl) (.cons rfl .nil) (.cons rfl .nil) (fun _ => rfl) (inrow_some (by rw [List.length_append, spansC_length, List.length_map, hlen]; simp only [List.length_cons, List.length_nil]; omega) (by unfold maxLen; omega)) (lr_append_row ap22 (.tmp rfl) hO (.tmp rfl) (news := spanC ⟨o - s1, o + s2⟩) rfl rfl (by omega) (by unfold maxLen; omega) (news_own (by repeat (first | exact List.Mem.head _ | apply List.Mem.tail)))) ?_
        rintro ⟨gO2, cgO2, rgO2⟩ hgO2
        refine .det (B := []) rfl rfl (.inl rfl) .nil .nil rfl (RunB.lr (run_fieldAddr (.tmp rfl) fa24_0 (by first | exact Nat.zero_add _ | exact rfl))) ?_
        refine .det (B := [(8, (_, _))]) rfl rfl (.inl rfl) .nil (.cons rfl .nil) rfl (lr_store1 (.tmp rfl) (.tmp rfl) rfl sz22 (by repeat (first | exact Put.done | apply Put.put | apply Put.skip))) ?_
        refine chain_nil (ts := [0, 1, 2, 3, 4, 5, 6, 7, 8, 9]) (.cons rfl (.cons rfl (.cons rfl (.cons rfl (.cons rfl (.cons rfl (.cons rfl (.cons rfl (.cons rfl (.cons rfl .nil)))))))))) (by decide) ?_
        dsimp only at hgO2 ⊢
        refine xw_then ?_
        refine cw_seq ?_
        refine cw_chain2 (σ := [0, 1, 2, 3, 6, 7, 13, 14, 15, 16, 19, 20, 4, 5, 8, 9, 10, 11, 12, 26, 17, 18, 21, 22, 23, 24, 25, 27, 28, 29]) [⟨0, [], [], [], 0⟩, ⟨0, [8], [], [], 1⟩, ⟨0, [], [], [], 0⟩, ⟨0, [], [], [], 0⟩, ⟨1, [9], [4], [4], 8⟩, ⟨0, [], [], [], 28⟩, ⟨0, [], [], [], 0⟩, ⟨0, [], [], [], 0⟩, ⟨1, [9], [4], [4], 152⟩, ⟨0, [], [], [], 472⟩, ⟨0, [], [], [], 1020⟩, ⟨2, [], [], [10], 2044⟩, ⟨1, [10], [6], [6], 4095⟩, ⟨0, [], [], [], 0⟩, ⟨0, [8], [], [], 8192⟩, ⟨0, [], [], [], 0⟩, ⟨0, [], [], [], 0⟩, ⟨1, [9], [4], [4], 73727⟩, ⟨0, [], [], [], 237567⟩, ⟨0, [], [], [], 0⟩, ⟨0, [], [], [], 0⟩, ⟨1, [9], [4], [4], 1253375⟩, ⟨0, [], [], [], 3874815⟩, ⟨0, [], [], [], 8364031⟩, ⟨2, [], [], [11], 16752639⟩, ⟨1, [11], [7], [7], 33554431⟩, ⟨0, [], [], [], 32767⟩, ⟨0, [], [8], [8], 134217727⟩, ⟨0, [], [], [], 268435455⟩, ⟨0, [], [8], [8], 536870911⟩] [(0, _), (1, _), (2, _), (3, _), (4, _), (5, _), (6, _), (7, _), (8, _), (9, _)] (by kernel_rfl) (by kernel_rfl) rfl ?_
        refine .det (B := []) rfl rfl (.inl rfl) .nil .nil rfl (RunB.lr (run_fieldAddr (.tmp rfl) fa24_1 (by first | exact Nat.zero_add _ | exact rfl))) ?_
        refine .det (B := []) rfl rfl (.inl rfl) (.cons rfl .nil) .nil rfl (RunB.lr (run_load1 (.tmp rfl) kd22 (by repeat (first | exact List.Mem.head _ | apply List.Mem.tail)) (by exact rfl))) ?_
        refine .det (B := []) rfl rfl (.inl rfl) .nil .nil rfl (RunB.lr (run_move (.tmp rfl))) ?_
        refine .det (B := []) rfl rfl (.inl rfl) .nil .nil rfl (RunB.lr (run_move (.tmp rfl))) ?_
        refine .det (B := []) rfl rfl (.inl rfl) .nil .nil rfl (RunB.lr (run_move (.tmp rfl))) ?_
        refine .det (B := []) rfl rfl (.inl rfl) .nil .nil rfl (RunB.lr (run_move (.tmp rfl))) ?_
        refine .det (B := []) rfl rfl (.inl rfl) .nil .nil rfl (RunB.lr (run_fieldAddr (.tmp rfl) fa24_2 (by first | exact Nat.zero_add _ | exact rfl))) ?_
        refine .det (B := []) rfl rfl (.inl rfl) (.cons rfl .nil) .nil rfl (RunB.lr (run_load1 (.tmp rfl) kd22 (by repeat (first | exact List.Mem.head _ | apply List.Mem.tail)) (by exact rfl))) ?_
        refine .det (B := []) rfl rfl (.inl rfl) .nil .nil rfl (RunB.lr (run_move (.tmp rfl))) ?_
        refine .det (B := []) rfl rfl (.inl rfl) .nil .nil rfl (RunB.lr (run_move (.tmp rfl))) ?_
        refine .det (B := []) rfl rfl (.inl rfl) .nil .nil rfl (RunB.lr (run_move (.tmp rfl))) ?_
        refine .det (B := []) rfl rfl (.inl rfl) .nil .nil rfl (RunB.lr (run_move (.tmp rfl))) ?_
        refine .ext (B := fun _ => [(4, (dC, cntO ((((((c + 1) + 1) + 1) + 1) + 1) + 1)))]) rfl rfl (.inl rfl) (.cons rfl .nil) (.cons rfl .nil) (fun _ => rfl) ⟨0, by omega, by omega⟩ (lr_callv (F := fun r : Int => 0 ≤ r ∧ r < 5) (r := fun r => .int .i64 r) (A := [(dC, cntO ((((((c + 1) + 1) + 1) + 1) + 1)))]) (B := fun _ => [(dC, cntO ((((((c + 1) + 1) + 1) + 1) + 1) + 1))]) cb72 (.tmp rfl) (.cons .const .nil) rfl (fun w2 hS hA => drawK 5 ((((((c + 1) + 1) + 1) + 1) + 1)) bx dC pb po cap l w2 (by omega) (by omega) (hA (dC, cntO ((((((c + 1) + 1) + 1) + 1) + 1))) (by simp)) (hU.draws hS (hA (dC, cntO ((((((c + 1) + 1) + 1) + 1) + 1))) (by simp))))) ?_
        rintro s3 ⟨s30, s31⟩
        refine .det (B := []) rfl rfl (.inl rfl) .nil .nil rfl (RunB.lr (run_sub (.tmp rfl) (.tmp rfl) (by first | exact IntWalk.i64_in _ (by omega) | exact rfl))) ?_
        refine .ext (B := fun _ => [(4, (dC, cntO (((((((c + 1) + 1) + 1) + 1) + 1) + 1) + 1)))]) rfl rfl (.inl rfl) (.cons rfl .nil) (.cons rfl .nil) (fun _ => rfl) ⟨0, by omega, by omega⟩ (lr_callv (F := fun r : Int => 0 ≤ r ∧ r < 5) (r := fun r => .int .i64 r) (A := [(dC, cntO (((((((c + 1) + 1) + 1) + 1) + 1) + 1)))]) (B := fun _ => [(dC, cntO (((((((c + 1) + 1) + 1) + 1) + 1) + 1) + 1))]) cb72 (.tmp rfl) (.cons .const .nil) rfl (fun w2 hS hA => drawK 5 (((((((c + 1) + 1) + 1) + 1) + 1) + 1)) bx dC pb po cap l w2 (by omega) (by omega) (hA (dC, cntO (((((((c + 1) + 1) + 1) + 1) + 1) + 1))) (by simp)) (hU.draws hS (hA (dC, cntO (((((((c + 1) + 1) + 1) + 1) + 1) + 1))) (by simp))))) ?_
        rintro s4 ⟨s40, s41⟩
        refine .det (B := []) rfl rfl (.inl rfl) .nil .nil rfl (RunB.lr (run_add (.tmp rfl) (.tmp rfl) (by first | exact IntWalk.i64_in _ (by omega) | exact rfl))) ?_
        refine .det (B := []) rfl rfl (.inl rfl) .nil .nil rfl (RunB.lr (run_call1 cb30 (.cons (.tmp rfl) (.cons (.tmp rfl) .nil)) (fun w _ => spanLK _ _ w))) ?_
        refine .flo rfl rfl rfl (.lit rfl (.cons (.tmp rfl) .nil) (fun w => bs22_1_0 w)) trivial rfl rfl rfl ?_
        intro b83
        refine .ext (B := fun q => [(6, (q.1, _))]) rfl rfl (.inl rfl) (.cons rfl .nil) (.cons rfl .nil) (fun _ => rfl) (inrow_some (by rw [List.length_append, spansC_length, List.length_map, hlen]; simp only [List.length_cons, List.length_nil]; omega) (by unfold maxLen; omega)) (lr_append_row ap22 (.tmp rfl) hW (.tmp rfl) (news := spanC ⟨wd - s3, wd + s4⟩) rfl rfl (by omega) (by unfold maxLen; omega) (news_own (by repeat (first | exact List.Mem.head _ | apply List.Mem.tail)))) ?_
        rintro ⟨gW2, cgW2, rgW2⟩ hgW2
        refine .det (B := []) rfl rfl (.inl rfl) .nil .nil rfl (RunB.lr (run_fieldAddr (.tmp rfl) fa24_1 (by first | exact Nat.zero_add _ | exact rfl))) ?_
        refine .ext (B := fun _ => [(4, (dC, cntO ((((((((c + 1) + 1) + 1) + 1) + 1) + 1) + 1) + 1)))]) rfl rfl (.inl rfl) (.cons rfl .nil) (.cons rfl .nil) (fun _ => rfl) ⟨0, by omega, by omega⟩ (lr_callv (F := fun r : Int => 0 ≤ r ∧ r < 5) (r := fun r => .int .i64 r) (A := [(dC, cntO ((((((((c + 1) + 1) + 1) + 1) + 1) + 1) + 1)))]) (B := fun _ => [(dC, cntO ((((((((c + 1) + 1) + 1) + 1) + 1) + 1) + 1) + 1))]) cb72 (.tmp rfl) (.cons .const .nil) rfl (fun w2 hS hA => drawK 5 ((((((((c + 1) + 1) + 1) + 1) + 1) + 1) + 1)) bx dC pb po cap l w2 (by omega) (by omega) (hA (dC, cntO ((((((((c + 1) + 1) + 1) + 1) + 1) + 1) + 1))) (by simp)) (hU.draws hS (hA (dC, cntO ((((((((c + 1) + 1) + 1) + 1) + 1) + 1) + 1))) (by simp))))) ?_
        rintro s5 ⟨s50, s51⟩
        refine .det (B := []) rfl rfl (.inl rfl) .nil .nil rfl (RunB.lr (run_sub (.tmp rfl) (.tmp rfl) (by first | exact IntWalk.i64_in _ (by omega) | exact rfl))) ?_
        refine .ext (B := fun _ => [(4, (dC, cntO (((((((((c + 1) + 1) + 1) + 1) + 1) + 1) + 1) + 1) + 1)))]) rfl rfl (.inl rfl) (.cons rfl .nil) (.cons rfl .nil) (fun _ => rfl) ⟨0, by omega, by omega⟩ (lr_callv (F := fun r : Int => 0 ≤ r ∧ r < 5) (r := fun r => .int .i64 r) (A := [(dC, cntO (((((((((c + 1) + 1) + 1) + 1) + 1) + 1) + 1) + 1)))]) (B := fun _ => [(dC, cntO (((((((((c + 1) + 1) + 1) + 1) + 1) + 1) + 1) + 1) + 1))]) cb72 (.tmp rfl) (.cons .const .nil) rfl (fun w2 hS hA => drawK 5 (((((((((c + 1) + 1) + 1) + 1) + 1) + 1) + 1) + 1)) bx dC pb po cap l w2 (by omega) (by omega) (hA (dC, cntO (((((((((c + 1) + 1) + 1) + 1) + 1) + 1) + 1) + 1))) (by simp)) (hU.draws hS (hA (dC, cntO (((((((((c + 1) + 1) + 1) + 1) + 1) + 1) + 1) + 1))) (by simp))))) ?_
        rintro s6 ⟨s60, s61⟩
        refine .det (B := []) rfl rfl (.inl rfl) .nil .nil rfl (RunB.lr (run_add (.tmp rfl) (.tmp rfl) (by first | exact IntWalk.i64_in _ (by omega) | exact rfl))) ?_
        refine .det (B := []) rfl rfl (.inl rfl) .nil .nil rfl (RunB.lr (run_call1 cb30 (.cons (.tmp rfl) (.cons (.tmp rfl) .nil)) (fun w _ => spanLK _ _ w))) ?_
        refine .flo rfl rfl rfl (.lit rfl (.cons (.tmp rfl) .nil) (fun w => bs22_1_0 w)) trivial rfl rfl rfl ?_
        intro b96
        refine .ext (B := fun q => [(7, (q.1, _))]) rfl rfl (.inl rfl) (.cons rfl .nil) (.cons rfl .nil) (fun _ => rfl) (inrow_some (by rw [List.length_append, spansC_length, List.length_map, hlen]; simp only [List.length_cons, List.length_nil]; omega) (by unfold maxLen; omega)) (lr_append_row ap22 (.tmp rfl) hD (.tmp rfl) (news := spanC ⟨dp - s5, dp + s6⟩) rfl rfl (by omega) (by unfold maxLen; omega) (news_own (by repeat (first | exact List.Mem.head _ | apply List.Mem.tail)))) ?_
        rintro ⟨gD2, cgD2, rgD2⟩ hgD2
        refine .det (B := [(8, (_, _))]) rfl rfl (.inl rfl) .nil (.cons rfl .nil) rfl (lr_store1 (.tmp rfl) (.tmp rfl) rfl sz22 (by repeat (first | exact Put.done | apply Put.put | apply Put.skip))) ?_
        refine .det (B := []) rfl rfl (.inl rfl) .nil .nil rfl (RunB.lr (run_fieldAddr (.tmp rfl) fa24_2 (by first | exact Nat.zero_add _ | exact rfl))) ?_
        refine .det (B := [(8, (_, _))]) rfl rfl (.inl rfl) .nil (.cons rfl .nil) rfl (lr_store1 (.tmp rfl) (.tmp rfl) rfl sz22 (by repeat (first | exact Put.done | apply Put.put | apply Put.skip))) ?_
        refine chain_nil (ts := [0, 1, 2, 3, 4, 5, 6, 7, 8, 9]) (.cons rfl (.cons rfl (.cons rfl (.cons rfl (.cons rfl (.cons rfl (.cons rfl (.cons rfl (.cons rfl (.cons rfl .nil)))))))))) (by decide) ?_
        dsimp only at hgW2 hgD2 ⊢
        have hR : OkT (⟨o, wd, dp, ⟨o - s1, o + s2⟩, ⟨wd - s3, wd + s4⟩, ⟨dp - s5, dp + s6⟩⟩ : TrueD) := ⟨by simp only; omega, by simp only; omega, by simp only; omega, by simp only; omega, by simp only; omega, by simp only; omega⟩
        have hsoil : soilT (L ++ [(⟨o, wd, dp, ⟨o - s1, o + s2⟩, ⟨wd - s3, wd + s4⟩, ⟨dp - s5, dp + s6⟩⟩ : TrueD)]) = soilT L + wd * dp := soilT_append L (⟨o, wd, dp, ⟨o - s1, o + s2⟩, ⟨wd - s3, wd + s4⟩, ⟨dp - s5, dp + s6⟩⟩ : TrueD)
        have hso1 : soilT L ≤ 1666 * (n : Int) := by rw [← hlen]; exact hso0.2
        refine xw_then ?_
        refine cw_region ?_
        refine lstepB rfl rfl rfl (run_move (.tmp rfl)) ?_
        refine lstepB rfl rfl rfl (run_move (.tmp rfl)) ?_
        refine lstepB rfl rfl rfl (run_move (.tmp rfl)) ?_
        refine lstepB rfl rfl rfl (run_mul (c := wd * dp) (.tmp rfl) (.tmp rfl) (IntWalk.i64_in _ (by omega))) ?_
        refine lstepB rfl rfl rfl (run_add (c := soilT (L ++ [(⟨o, wd, dp, ⟨o - s1, o + s2⟩, ⟨wd - s3, wd + s4⟩, ⟨dp - s5, dp + s6⟩⟩ : TrueD)])) (.tmp rfl) (.tmp rfl) (by rw [hsoil]; exact IntWalk.i64_in _ (by omega))) ?_
        refine lstepB rfl rfl rfl (run_assign (.tmp rfl)) ?_
        refine lnil ?_
        refine xw_in ?_
        refine xw_then ?_
        refine cw_region ?_
        refine lstepB rfl rfl rfl (run_add (.tmp rfl) .const (by first | exact IntWalk.i64_in _ (by omega) | exact rfl)) ?_
        refine lstepB rfl rfl rfl (run_move (.tmp rfl)) ?_
        refine lnil ?_
        exact xw_round ⟨n + 1, (((((((((c + 1) + 1) + 1) + 1) + 1) + 1) + 1) + 1) + 1), L ++ [(⟨o, wd, dp, ⟨o - s1, o + s2⟩, ⟨wd - s3, wd + s4⟩, ⟨dp - s5, dp + s6⟩⟩ : TrueD)], (.five (hA2, chA2, rhA2) (hB2, chB2, rhB2) (gO2, cgO2, rgO2) (gW2, cgW2, rgW2) (gD2, cgD2, rgD2))⟩ ⟨⟨by simp only; omega, by simp only; omega, by simp only; omega⟩, okT_snoc hok hR, by simp only [List.length_append, hlen, List.length_cons, List.length_nil], ⟨by simp only; omega, by simp only [List.map_append, intsV]; exact hhA2, by simp only [List.map_append, intsV]; exact hhB2, by rw [List.map_append, spansC_snoc]; exact hgO2, by rw [List.map_append, spansC_snoc]; exact hgW2, by rw [List.map_append, spansC_snoc]; exact hgD2⟩⟩ (by simp only; omega) (by repeat (first | exact Less.nil | refine Less.cons rfl ?_)) (by repeat (first | exact Pick.nil | (apply Pick.cons; focus (repeat (first | exact Del.here | apply Del.there)))))
      ·
        have hmn : m = ((n : Nat) : Int) := by omega
        subst hlen
        have hT : Told L := ⟨hok, by omega⟩
        have hvT := hT.val
        have hmT := hT.lens
        have l1 : (furT L).offs.length = L.length := by simp [furT]
        have l2 : (furT L).wids.length = L.length := by simp [furT]
        have l3 : (furT L).deps.length = L.length := by simp [furT]
        have hl8 := hT.few
        have hsm := furT_small hok
        have hmost := hT.most
        have hsoi := hT.soil
        obtain ⟨t, ht⟩ : ∃ t, t = L.map (·.o) := ⟨_, rfl⟩
        have htl : t.length = L.length := by rw [ht]; simp
        rw [← ht] at hsm hmost
        have hwr := hT.wrong
        rw [← ht] at hwr
        have ws32 := worstN_small (furT L).offs (k := (furT L).offs.length - 2) (by omega)
        rw [← ht] at hA
        refine cw_exit ?_
        refine xw_then_exit ?_
        refine xw_then_exit ?_
        refine xw_in_exit ?_
        refine xw_then ?_
        refine cw_seq ?_
        refine cw_region ?_
        refine lstepB rfl rfl rfl (run_move (.tmp rfl)) ?_
        refine lstepB rfl rfl rfl (run_call1 cb32 (.cons (.tmp rfl) .nil) (fun w2 hS => by have h0 := rmostK t (by omega) hsm (some ⟨gA, 0, none⟩) cA w2 (intsAt_rowS (hS.mem (b := gA) (by repeat (first | exact List.Mem.head _ | apply List.Mem.tail))) hA); rw [htl] at h0; exact h0)) ?_
        refine lstepB rfl rfl rfl (run_assign (.tmp rfl)) ?_
        refine lnil ?_
        refine xw_then ?_
        refine cw_seq ?_
        refine cw_region ?_
        refine lstepB rfl rfl rfl (run_loadN (.tmp rfl) kd24 sz24 (by repeat (first | exact List.Mem.head _ | apply List.Mem.tail)) (by repeat (first | exact Sub.done | apply Sub.take | apply Sub.skip))) ?_
        refine lstepB rfl rfl rfl (run_call1 cb14 (.cons (.tmp rfl) .nil) (fun w2 hS => bendQn (furT L) l1 l2 l3  w2 hmT ⟨spansAt_row (hS.mem (b := gO) (by repeat (first | exact List.Mem.head _ | apply List.Mem.tail))) hO, spansAt_row (hS.mem (b := gW) (by repeat (first | exact List.Mem.head _ | apply List.Mem.tail))) hW, spansAt_row (hS.mem (b := gD) (by repeat (first | exact List.Mem.head _ | apply List.Mem.tail))) hD⟩ hvT)) ?_
        refine lstepB rfl rfl rfl (run_move (.tmp rfl)) ?_
        refine lstepB rfl rfl rfl (run_extract (.tmp rfl) rfl) ?_
        refine lstepB rfl rfl rfl (run_extract (.tmp rfl) rfl) ?_
        refine lstep rfl rfl rfl (run_alloc zr28) ?_
        intro b12 _
        refine lstep0 rfl rfl (run_storeN (.tmp rfl) (.tmp rfl) rfl sz28 rfl (by repeat (first | exact Upd.here | apply Upd.there)) (by repeat (first | exact Put.done | apply Put.put | apply Put.skip))) ?_
        refine lstepB rfl rfl rfl (run_assign (.tmp rfl)) ?_
        refine lnil ?_
        refine xw_then ?_
        refine cw_seq ?_
        refine cw_region ?_
        refine lstepB rfl rfl rfl (run_loadN (.tmp rfl) kd24 sz24 (by repeat (first | exact List.Mem.head _ | apply List.Mem.tail)) (by repeat (first | exact Sub.done | apply Sub.take | apply Sub.skip))) ?_
        refine lstepB rfl rfl rfl (run_call1 cb20 (.cons (.tmp rfl) .nil) (fun w2 hS => worstQn (furT L) l1 l2 l3  w2 hmT ⟨spansAt_row (hS.mem (b := gO) (by repeat (first | exact List.Mem.head _ | apply List.Mem.tail))) hO, spansAt_row (hS.mem (b := gW) (by repeat (first | exact List.Mem.head _ | apply List.Mem.tail))) hW, spansAt_row (hS.mem (b := gD) (by repeat (first | exact List.Mem.head _ | apply List.Mem.tail))) hD⟩ hvT)) ?_
        refine lstepB rfl rfl rfl (run_move (.tmp rfl)) ?_
        refine lstepB rfl rfl rfl (run_extract (.tmp rfl) rfl) ?_
        refine lstepB rfl rfl rfl (run_extract (.tmp rfl) rfl) ?_
        refine lstepB rfl rfl rfl (run_extract (.tmp rfl) rfl) ?_
        refine lstepB rfl rfl rfl (run_assign (.tmp rfl)) ?_
        refine lstepB rfl rfl rfl (run_assign (.tmp rfl)) ?_
        refine lstepB rfl rfl rfl (run_assign (.tmp rfl)) ?_
        refine lnil ?_
        refine xw_then ?_
        refine cw_seq ?_
        refine cw_region ?_
        refine lstepB rfl rfl rfl (run_loadN (.tmp rfl) kd24 sz24 (by repeat (first | exact List.Mem.head _ | apply List.Mem.tail)) (by repeat (first | exact Sub.done | apply Sub.take | apply Sub.skip))) ?_
        refine lstepB rfl rfl rfl (run_move (.tmp rfl)) ?_
        refine lstepB rfl rfl rfl (run_call1 cb23 (.cons (.tmp rfl) (.cons (.tmp rfl) .nil)) (fun w2 hS => wrongQn (furT L) l1 l2 l3 _ w2 hmT ⟨spansAt_row (hS.mem (b := gO) (by repeat (first | exact List.Mem.head _ | apply List.Mem.tail))) hO, spansAt_row (hS.mem (b := gW) (by repeat (first | exact List.Mem.head _ | apply List.Mem.tail))) hW, spansAt_row (hS.mem (b := gD) (by repeat (first | exact List.Mem.head _ | apply List.Mem.tail))) hD⟩ hwr)) ?_
        refine lstepB rfl rfl rfl (run_move (.tmp rfl)) ?_
        refine lstepB rfl rfl rfl (run_extract (.tmp rfl) rfl) ?_
        refine lstepB rfl rfl rfl (run_extract (.tmp rfl) rfl) ?_
        refine lstepB rfl rfl rfl (run_assign (.tmp rfl)) ?_
        refine lstepB rfl rfl rfl (run_assign (.tmp rfl)) ?_
        refine lnil ?_
        refine xw_then ?_
        refine cw_seq ?_
        refine cw_region ?_
        refine lstepB rfl rfl rfl (run_loadN (.tmp rfl) kd24 sz24 (by repeat (first | exact List.Mem.head _ | apply List.Mem.tail)) (by repeat (first | exact Sub.done | apply Sub.take | apply Sub.skip))) ?_
        refine lstepB rfl rfl rfl (run_call1 cb27 (.cons (.tmp rfl) .nil) (fun w2 hS => soilQn (furT L) l1 l2 l3  w2 hmT ⟨spansAt_row (hS.mem (b := gO) (by repeat (first | exact List.Mem.head _ | apply List.Mem.tail))) hO, spansAt_row (hS.mem (b := gW) (by repeat (first | exact List.Mem.head _ | apply List.Mem.tail))) hW, spansAt_row (hS.mem (b := gD) (by repeat (first | exact List.Mem.head _ | apply List.Mem.tail))) hD⟩ hvT)) ?_
        refine lstepB rfl rfl rfl (run_move (.tmp rfl)) ?_
        refine lstepB rfl rfl rfl (run_extract (.tmp rfl) rfl) ?_
        refine lstepB rfl rfl rfl (run_extract (.tmp rfl) rfl) ?_
        refine lstep rfl rfl rfl (run_alloc zr28) ?_
        intro b19 _
        refine lstep0 rfl rfl (run_storeN (.tmp rfl) (.tmp rfl) rfl sz28 rfl (by repeat (first | exact Upd.here | apply Upd.there)) (by repeat (first | exact Put.done | apply Put.put | apply Put.skip))) ?_
        refine lstepB rfl rfl rfl (run_assign (.tmp rfl)) ?_
        refine lnil ?_
        refine xw_then ?_
        refine cw_seq ?_
        refine cw_seq ?_
        refine cw_region ?_
        refine lstepB rfl rfl rfl (run_move (.tmp rfl)) ?_
        refine lstepB rfl rfl rfl (run_neq (.tmp rfl) .const (decide_eq_false (by omega))) ?_
        refine lstepB rfl rfl rfl (run_move (.tmp rfl)) ?_
        refine lyes rfl rfl rfl rfl ?_
        refine gstepB rfl rfl (run_move (.tmp rfl)) ?_
        refine lyes rfl rfl rfl rfl ?_
        refine gstepB rfl rfl (run_loadN (.tmp rfl) kd28 sz28 (by repeat (first | exact List.Mem.head _ | apply List.Mem.tail)) (by repeat (first | exact Sub.done | apply Sub.take | apply Sub.skip))) ?_
        refine lyes rfl rfl rfl rfl ?_
        refine gstepB rfl rfl (run_call1 cb33 (.cons (.tmp rfl) (.cons (.tmp rfl) .nil)) (fun w2 _ => (insideK _ _ w2).as (congrArg Value.bool hmost))) ?_
        refine lyes rfl rfl rfl rfl ?_
        refine gstepB rfl rfl (run_not (.tmp rfl) (by first | exact Bool.not_true | exact Bool.not_false | exact rfl)) ?_
        refine lstepB rfl rfl rfl (by first | exact run_pick_true (.tmp rfl) .const | exact run_pick_false (.tmp rfl) (.tmp rfl)) ?_
        refine lstepB rfl rfl rfl (run_move (.tmp rfl)) ?_
        refine lyes rfl rfl rfl rfl ?_
        refine gstepB rfl rfl (run_move (.tmp rfl)) ?_
        refine lyes rfl rfl rfl rfl ?_
        refine gstepB rfl rfl (run_neq (.tmp rfl) .const (decide_eq_false (by omega))) ?_
        refine lstepB rfl rfl rfl (by first | exact run_pick_true (.tmp rfl) .const | exact run_pick_false (.tmp rfl) (.tmp rfl)) ?_
        refine lstepB rfl rfl rfl (run_move (.tmp rfl)) ?_
        refine lyes rfl rfl rfl rfl ?_
        refine gstepB rfl rfl (run_move (.tmp rfl)) ?_
        refine lyes rfl rfl rfl rfl ?_
        refine gstepB rfl rfl (run_neq (.tmp rfl) .const (decide_eq_false (by omega))) ?_
        refine lstepB rfl rfl rfl (by first | exact run_pick_true (.tmp rfl) .const | exact run_pick_false (.tmp rfl) (.tmp rfl)) ?_
        refine lstepB rfl rfl rfl (run_move (.tmp rfl)) ?_
        refine lyes rfl rfl rfl rfl ?_
        refine gstepB rfl rfl (run_move (.tmp rfl)) ?_
        refine lyes rfl rfl rfl rfl ?_
        refine gstepB rfl rfl (run_neq (.tmp rfl) .const (decide_eq_false (by omega))) ?_
        refine lstepB rfl rfl rfl (by first | exact run_pick_true (.tmp rfl) .const | exact run_pick_false (.tmp rfl) (.tmp rfl)) ?_
        refine lstepB rfl rfl rfl (run_move (.tmp rfl)) ?_
        refine lyes rfl rfl rfl rfl ?_
        refine gstepB rfl rfl (run_move (.tmp rfl)) ?_
        refine lyes rfl rfl rfl rfl ?_
        refine gstepB rfl rfl (run_neq (.tmp rfl) .const (decide_eq_false (by omega))) ?_
        refine lstepB rfl rfl rfl (by first | exact run_pick_true (.tmp rfl) .const | exact run_pick_false (.tmp rfl) (.tmp rfl)) ?_
        refine lstepB rfl rfl rfl (run_move (.tmp rfl)) ?_
        refine lyes rfl rfl rfl rfl ?_
        refine gstepB rfl rfl (run_move (.tmp rfl)) ?_
        refine lyes rfl rfl rfl rfl ?_
        refine gstepB rfl rfl (run_loadN (.tmp rfl) kd28 sz28 (by repeat (first | exact List.Mem.head _ | apply List.Mem.tail)) (by repeat (first | exact Sub.done | apply Sub.take | apply Sub.skip))) ?_
        refine lyes rfl rfl rfl rfl ?_
        refine gstepB rfl rfl (run_call1 cb33 (.cons (.tmp rfl) (.cons (.tmp rfl) .nil)) (fun w2 _ => (insideK _ _ w2).as (congrArg Value.bool hsoi))) ?_
        refine lyes rfl rfl rfl rfl ?_
        refine gstepB rfl rfl (run_not (.tmp rfl) (by first | exact Bool.not_true | exact Bool.not_false | exact rfl)) ?_
        refine lstepB rfl rfl rfl (by first | exact run_pick_true (.tmp rfl) .const | exact run_pick_false (.tmp rfl) (.tmp rfl)) ?_
        refine lnil ?_
        refine xw_then ?_
        refine cw_cond_false (.tmp rfl) ?_
        refine cw_skip ?_
        refine xw_then ?_
        refine cw_seq ?_
        refine cw_seq ?_
        refine cw_region ?_
        refine lstepB rfl rfl rfl (run_assign .const) ?_
        refine lnil ?_
        refine xw_then ?_
        refine cw_block ?_
        refine cw_loop (S := Nat) (fun k => [(21, .int .i64 ((k + 1 : Nat) : Int))]) [(3, _), (4, _), (5, _), (6, _), (11, _), (14, _), (15, _)] (fun k => (gA, Obj.cells rA.toArray 3 (0, 0)) :: (gB, Obj.cells rB.toArray 3 (0, 0)) :: (gO, Obj.cells rO.toArray 28 (0, 0)) :: (gW, Obj.cells rW.toArray 28 (0, 0)) :: (gD, Obj.cells rD.toArray 28 (0, 0)) :: (b4, Obj.cells [.slice (some ⟨gO, 0, none⟩) L.length cO, .slice (some ⟨gW, 0, none⟩) L.length cW, .slice (some ⟨gD, 0, none⟩) L.length cD].toArray 24 (0, 0)) :: (dC, cntO c) :: (bx, Obj.cells [.slice (some ⟨pb, po, none⟩) l.length cap].toArray 45 (0, 0)) :: []) (fun k => k + 2 ≤ L.length ∨ k ≤ L.length) (fun k => L.length - k) 0 (by omega) (by repeat (first | exact Less.nil | refine Less.cons rfl ?_)) (by repeat (first | exact Pick.nil | (apply Pick.cons; focus (repeat (first | exact Del.here | apply Del.there))))) ?_
        intro k hk
        refine cw_seq ?_
        refine cw_seq ?_
        refine cw_region ?_
        refine lstepB rfl rfl rfl (run_move (.tmp rfl)) ?_
        refine lstepB rfl rfl rfl (run_add (c := ((k + 2 : Nat) : Int)) (.tmp rfl) .const (by rw [show ((k + 2 : Nat) : Int) = ((k + 1 : Nat) : Int) + 1 by omega]; exact IntWalk.i64_in _ (by omega))) ?_
        refine lstepB rfl rfl rfl (run_move (.tmp rfl)) ?_
        refine lstepB rfl rfl rfl (run_len (.tmp rfl) sl33) ?_
        refine lstepB rfl rfl rfl (run_lss (.tmp rfl) (.tmp rfl) rfl) ?_
        refine lnil ?_
        refine xw_then ?_
        refine cw_cond_p (.tmp rfl) (fun hl2 => ?_) (fun hl2 => ?_)
        ·
          obtain ⟨hat, hin, hcan, hsure⟩ := hT.at_ (k := k) (by omega)
          rw [← ht] at hin hcan hsure
          have hqa : sureN (furT L).offs / 2 ^ (k + 1) < 2 ^ 32 := Nat.lt_of_le_of_lt (Nat.div_le_self _ _) ws32.1
          have hqb : canN (furT L).offs / 2 ^ (k + 1) < 2 ^ 32 := Nat.lt_of_le_of_lt (Nat.div_le_self _ _) ws32.2
          have hbA : ((bitN (sureN (furT L).offs) (k + 1) : Nat) : Int) = 1 → (sureN (furT L).offs).testBit (k + 1) = true := fun h => bitN_iff.1 (by omega)
          have hbB : (canN (furT L).offs).testBit (k + 1) = true → ¬ ((bitN (canN (furT L).offs) (k + 1) : Nat) : Int) = 0 := fun h => by have := bitN_iff.2 h; omega
          refine cw_skip ?_
          refine xw_then ?_
          refine cw_seq ?_
          refine cw_block ?_
          refine cw_seq ?_
          refine cw_region ?_
          refine lstepB rfl rfl rfl (run_move (.tmp rfl)) ?_
          refine lstepB rfl rfl rfl (run_move (.tmp rfl)) ?_
          refine lstepB rfl rfl rfl (run_call1 cb34 (.cons (.tmp rfl) (.cons (.tmp rfl) .nil)) (fun w2 hS => by have h0 := rbentK t (k + 1) (by omega) (by omega) (by omega) hsm (some ⟨gA, 0, none⟩) cA w2 (intsAt_rowS (hS.mem (b := gA) (by repeat (first | exact List.Mem.head _ | apply List.Mem.tail))) hA); rw [htl] at h0; exact h0)) ?_
          refine lstepB rfl rfl rfl (run_assign (.tmp rfl)) ?_
          refine lnil ?_
          refine xw_then ?_
          refine cw_seq ?_
          refine cw_region ?_
          refine lstepB rfl rfl rfl (run_loadN (.tmp rfl) kd24 sz24 (by repeat (first | exact List.Mem.head _ | apply List.Mem.tail)) (by repeat (first | exact Sub.done | apply Sub.take | apply Sub.skip))) ?_
          refine lstepB rfl rfl rfl (run_move (.tmp rfl)) ?_
          refine lstepB rfl rfl rfl (run_call1 cb16 (.cons (.tmp rfl) (.cons (.tmp rfl) .nil)) (fun w2 hS => atQn (furT L) l1 l2 l3 ((k + 1 : Nat) : Int) w2 hmT ⟨spansAt_row (hS.mem (b := gO) (by repeat (first | exact List.Mem.head _ | apply List.Mem.tail))) hO, spansAt_row (hS.mem (b := gW) (by repeat (first | exact List.Mem.head _ | apply List.Mem.tail))) hW, spansAt_row (hS.mem (b := gD) (by repeat (first | exact List.Mem.head _ | apply List.Mem.tail))) hD⟩ hat)) ?_
          by_cases c1 : bentT t (k + 1) = mostT t
          ·
            refine lstepB rfl rfl rfl (run_move (.tmp rfl)) ?_
            refine lstepB rfl rfl rfl (run_extract (.tmp rfl) rfl) ?_
            refine lstepB rfl rfl rfl (run_extract (.tmp rfl) rfl) ?_
            refine lstep rfl rfl rfl (run_alloc zr28) ?_
            intro b23 _
            refine lstep0 rfl rfl (run_storeN (.tmp rfl) (.tmp rfl) rfl sz28 rfl (by repeat (first | exact Upd.here | apply Upd.there)) (by repeat (first | exact Put.done | apply Put.put | apply Put.skip))) ?_
            refine lstepB rfl rfl rfl (run_assign (.tmp rfl)) ?_
            refine lnil ?_
            refine xw_then ?_
            refine cw_seq ?_
            refine cw_region ?_
            refine lstepB rfl rfl rfl (run_move (.tmp rfl)) ?_
            refine lstepB rfl rfl rfl (run_neq (.tmp rfl) .const (decide_eq_false (by omega))) ?_
            refine lstepB rfl rfl rfl (run_move (.tmp rfl)) ?_
            refine lyes rfl rfl rfl rfl ?_
            refine gstepB rfl rfl (run_move (.tmp rfl)) ?_
            refine lyes rfl rfl rfl rfl ?_
            refine gstepB rfl rfl (run_loadN (.tmp rfl) kd28 sz28 (by repeat (first | exact List.Mem.head _ | apply List.Mem.tail)) (by repeat (first | exact Sub.done | apply Sub.take | apply Sub.skip))) ?_
            refine lyes rfl rfl rfl rfl ?_
            refine gstepB rfl rfl (run_call1 cb33 (.cons (.tmp rfl) (.cons (.tmp rfl) .nil)) (fun w2 _ => (insideK _ _ w2).as (congrArg Value.bool hin))) ?_
            refine lyes rfl rfl rfl rfl ?_
            refine gstepB rfl rfl (run_not (.tmp rfl) (by first | exact Bool.not_true | exact Bool.not_false | exact rfl)) ?_
            refine lstepB rfl rfl rfl (by first | exact run_pick_true (.tmp rfl) .const | exact run_pick_false (.tmp rfl) (.tmp rfl)) ?_
            refine lstepB rfl rfl rfl (run_move (.tmp rfl)) ?_
            refine lyes rfl rfl rfl rfl ?_
            refine gstepB rfl rfl (run_move (.tmp rfl)) ?_
            refine lyes rfl rfl rfl rfl ?_
            refine gstepB rfl rfl (run_move (.tmp rfl)) ?_
            refine lyes rfl rfl rfl rfl ?_
            refine gstepB rfl rfl (run_eql (.tmp rfl) (.tmp rfl) (decide_eq_true c1)) ?_
            refine lyes rfl rfl rfl rfl ?_
            refine gstepB rfl rfl (run_move (.tmp rfl)) ?_
            refine lyes rfl rfl rfl rfl ?_
            refine gstepB rfl rfl (run_move (.tmp rfl)) ?_
            refine lyes rfl rfl rfl rfl ?_
            refine gstepB rfl rfl (run_move (.tmp rfl)) ?_
            refine lyes rfl rfl rfl rfl ?_
            refine gstepB rfl rfl (run_shr (z := k + 1) (.tmp rfl) (.tmp rfl) (by omega)) ?_
            refine lyes rfl rfl rfl rfl ?_
            refine gstepB rfl rfl (run_and (c' := ((bitN (canN (furT L).offs) (k + 1) : Nat) : Int)) (.tmp rfl) .const (and_one hqb)) ?_
            refine lyes rfl rfl rfl rfl ?_
            refine gstepB rfl rfl (run_eql (.tmp rfl) .const (decide_eq_false (hbB (hcan c1)))) ?_
            refine lyes rfl rfl rfl rfl ?_
            refine gstepB rfl rfl (by first | exact run_pick_true (.tmp rfl) (.tmp rfl) | exact run_pick_false (.tmp rfl) .const) ?_
            refine lstepB rfl rfl rfl (by first | exact run_pick_true (.tmp rfl) .const | exact run_pick_false (.tmp rfl) (.tmp rfl)) ?_
            refine lstepB rfl rfl rfl (run_move (.tmp rfl)) ?_
            refine lyes rfl rfl rfl rfl ?_
            refine gstepB rfl rfl (run_move (.tmp rfl)) ?_
            refine lyes rfl rfl rfl rfl ?_
            refine gstepB rfl rfl (run_move (.tmp rfl)) ?_
            refine lyes rfl rfl rfl rfl ?_
            refine gstepB rfl rfl (run_neq (.tmp rfl) (.tmp rfl) (decide_eq_false (fun h => h c1))) ?_
            refine lyes rfl rfl rfl rfl ?_
            refine gstepB rfl rfl (run_move (.tmp rfl)) ?_
            refine lskip rfl rfl rfl rfl rfl rfl rfl ?_
            refine lskip rfl rfl rfl rfl rfl rfl rfl ?_
            refine lskip rfl rfl rfl rfl rfl rfl rfl ?_
            refine lskip rfl rfl rfl rfl rfl rfl rfl ?_
            refine lskip rfl rfl rfl rfl rfl rfl rfl ?_
            refine lyes rfl rfl rfl rfl ?_
            refine gstepB rfl rfl (by first | exact run_pick_true (.tmp rfl) (.tmp rfl) | exact run_pick_false (.tmp rfl) .const) ?_
            refine lstepB rfl rfl rfl (by first | exact run_pick_true (.tmp rfl) .const | exact run_pick_false (.tmp rfl) (.tmp rfl)) ?_
            refine lnil ?_
            refine xw_then ?_
            refine cw_cond_false (.tmp rfl) ?_
            refine cw_skip ?_
            refine xw_in ?_
            refine xw_then ?_
            refine cw_region ?_
            refine lstepB rfl rfl rfl (run_move (.tmp rfl)) ?_
            refine lstepB rfl rfl rfl (run_add (c := ((k + 1 + 1 : Nat) : Int)) (.tmp rfl) .const (by rw [show ((k + 1 + 1 : Nat) : Int) = ((k + 1 : Nat) : Int) + 1 by omega]; exact IntWalk.i64_in _ (by omega))) ?_
            refine lstepB rfl rfl rfl (run_assign (.tmp rfl)) ?_
            refine lnil ?_
            exact xw_round (k + 1) (by show k + 1 + 2 ≤ _ ∨ k + 1 ≤ _; omega) (by show L.length - (k + 1) < L.length - k; omega) (by repeat (first | exact Less.nil | refine Less.cons rfl ?_)) (by repeat (first | exact Pick.nil | (apply Pick.cons; focus (repeat (first | exact Del.here | apply Del.there)))))
          ·
            refine lstepB rfl rfl rfl (run_move (.tmp rfl)) ?_
            refine lstepB rfl rfl rfl (run_extract (.tmp rfl) rfl) ?_
            refine lstepB rfl rfl rfl (run_extract (.tmp rfl) rfl) ?_
            refine lstep rfl rfl rfl (run_alloc zr28) ?_
            intro b23 _
            refine lstep0 rfl rfl (run_storeN (.tmp rfl) (.tmp rfl) rfl sz28 rfl (by repeat (first | exact Upd.here | apply Upd.there)) (by repeat (first | exact Put.done | apply Put.put | apply Put.skip))) ?_
            refine lstepB rfl rfl rfl (run_assign (.tmp rfl)) ?_
            refine lnil ?_
            refine xw_then ?_
            refine cw_seq ?_
            refine cw_region ?_
            refine lstepB rfl rfl rfl (run_move (.tmp rfl)) ?_
            refine lstepB rfl rfl rfl (run_neq (.tmp rfl) .const (decide_eq_false (by omega))) ?_
            refine lstepB rfl rfl rfl (run_move (.tmp rfl)) ?_
            refine lyes rfl rfl rfl rfl ?_
            refine gstepB rfl rfl (run_move (.tmp rfl)) ?_
            refine lyes rfl rfl rfl rfl ?_
            refine gstepB rfl rfl (run_loadN (.tmp rfl) kd28 sz28 (by repeat (first | exact List.Mem.head _ | apply List.Mem.tail)) (by repeat (first | exact Sub.done | apply Sub.take | apply Sub.skip))) ?_
            refine lyes rfl rfl rfl rfl ?_
            refine gstepB rfl rfl (run_call1 cb33 (.cons (.tmp rfl) (.cons (.tmp rfl) .nil)) (fun w2 _ => (insideK _ _ w2).as (congrArg Value.bool hin))) ?_
            refine lyes rfl rfl rfl rfl ?_
            refine gstepB rfl rfl (run_not (.tmp rfl) (by first | exact Bool.not_true | exact Bool.not_false | exact rfl)) ?_
            refine lstepB rfl rfl rfl (by first | exact run_pick_true (.tmp rfl) .const | exact run_pick_false (.tmp rfl) (.tmp rfl)) ?_
            refine lstepB rfl rfl rfl (run_move (.tmp rfl)) ?_
            refine lyes rfl rfl rfl rfl ?_
            refine gstepB rfl rfl (run_move (.tmp rfl)) ?_
            refine lyes rfl rfl rfl rfl ?_
            refine gstepB rfl rfl (run_move (.tmp rfl)) ?_
            refine lyes rfl rfl rfl rfl ?_
            refine gstepB rfl rfl (run_eql (.tmp rfl) (.tmp rfl) (decide_eq_false c1)) ?_
            refine lyes rfl rfl rfl rfl ?_
            refine gstepB rfl rfl (run_move (.tmp rfl)) ?_
            refine lskip rfl rfl rfl rfl rfl rfl rfl ?_
            refine lskip rfl rfl rfl rfl rfl rfl rfl ?_
            refine lskip rfl rfl rfl rfl rfl rfl rfl ?_
            refine lskip rfl rfl rfl rfl rfl rfl rfl ?_
            refine lskip rfl rfl rfl rfl rfl rfl rfl ?_
            refine lyes rfl rfl rfl rfl ?_
            refine gstepB rfl rfl (by first | exact run_pick_true (.tmp rfl) (.tmp rfl) | exact run_pick_false (.tmp rfl) .const) ?_
            refine lstepB rfl rfl rfl (by first | exact run_pick_true (.tmp rfl) .const | exact run_pick_false (.tmp rfl) (.tmp rfl)) ?_
            refine lstepB rfl rfl rfl (run_move (.tmp rfl)) ?_
            refine lyes rfl rfl rfl rfl ?_
            refine gstepB rfl rfl (run_move (.tmp rfl)) ?_
            refine lyes rfl rfl rfl rfl ?_
            refine gstepB rfl rfl (run_move (.tmp rfl)) ?_
            refine lyes rfl rfl rfl rfl ?_
            refine gstepB rfl rfl (run_neq (.tmp rfl) (.tmp rfl) (decide_eq_true c1)) ?_
            refine lyes rfl rfl rfl rfl ?_
            refine gstepB rfl rfl (run_move (.tmp rfl)) ?_
            refine lyes rfl rfl rfl rfl ?_
            refine gstepB rfl rfl (run_move (.tmp rfl)) ?_
            refine lyes rfl rfl rfl rfl ?_
            refine gstepB rfl rfl (run_move (.tmp rfl)) ?_
            refine lyes rfl rfl rfl rfl ?_
            refine gstepB rfl rfl (run_shr (z := k + 1) (.tmp rfl) (.tmp rfl) (by omega)) ?_
            refine lyes rfl rfl rfl rfl ?_
            refine gstepB rfl rfl (run_and (c' := ((bitN (sureN (furT L).offs) (k + 1) : Nat) : Int)) (.tmp rfl) .const (and_one hqa)) ?_
            refine lyes rfl rfl rfl rfl ?_
            refine gstepB rfl rfl (run_eql (.tmp rfl) .const (decide_eq_false (fun h => c1 (hsure (hbA h))))) ?_
            refine lyes rfl rfl rfl rfl ?_
            refine gstepB rfl rfl (by first | exact run_pick_true (.tmp rfl) (.tmp rfl) | exact run_pick_false (.tmp rfl) .const) ?_
            refine lstepB rfl rfl rfl (by first | exact run_pick_true (.tmp rfl) .const | exact run_pick_false (.tmp rfl) (.tmp rfl)) ?_
            refine lnil ?_
            refine xw_then ?_
            refine cw_cond_false (.tmp rfl) ?_
            refine cw_skip ?_
            refine xw_in ?_
            refine xw_then ?_
            refine cw_region ?_
            refine lstepB rfl rfl rfl (run_move (.tmp rfl)) ?_
            refine lstepB rfl rfl rfl (run_add (c := ((k + 1 + 1 : Nat) : Int)) (.tmp rfl) .const (by rw [show ((k + 1 + 1 : Nat) : Int) = ((k + 1 : Nat) : Int) + 1 by omega]; exact IntWalk.i64_in _ (by omega))) ?_
            refine lstepB rfl rfl rfl (run_assign (.tmp rfl)) ?_
            refine lnil ?_
            exact xw_round (k + 1) (by show k + 1 + 2 ≤ _ ∨ k + 1 ≤ _; omega) (by show L.length - (k + 1) < L.length - k; omega) (by repeat (first | exact Less.nil | refine Less.cons rfl ?_)) (by repeat (first | exact Pick.nil | (apply Pick.cons; focus (repeat (first | exact Del.here | apply Del.there)))))
        ·
          refine cw_exit ?_
          refine xw_then_exit ?_
          refine xw_then_exit ?_
          refine xw_in_exit ?_
          refine xw_then ?_
          refine cw_seq ?_
          refine cw_region ?_
          refine lstepB rfl rfl rfl (run_move (.tmp rfl)) ?_
          refine lstep rfl rfl rfl (LR.runs (R := [(bx, _)]) (A := [(dC, _)]) (lr_callv (F := fun r : Int => 0 ≤ r ∧ r < 45) (r := fun r => .int .i64 r) (A := [(dC, cntO (c))]) (B := fun _ => [(dC, cntO (c + 1))]) cb72 (.tmp rfl) (.cons .const .nil) rfl (fun w2 hS hA => drawK 45 (c) bx dC pb po cap l w2 (by omega) (by omega) (hA (dC, cntO (c)) (by simp)) (hU.draws hS (hA (dC, cntO (c)) (by simp))))) (by repeat (first | exact Pick.nil | (apply Pick.cons; focus (repeat (first | exact Del.here | apply Del.there))))) (by repeat (first | exact Dels.nil | (apply Dels.cons; focus (repeat (first | exact Del.here | apply Del.there)))))) ?_
          intro lt ⟨lt0, lt1⟩
          try dsimp only
          obtain ⟨sa, sb, hsh, ⟨sa32, sb32⟩, hbits⟩ := hT.shallow lt0
          refine lstepB rfl rfl rfl (run_assign (.tmp rfl)) ?_
          refine lnil ?_
          refine xw_then ?_
          refine cw_seq ?_
          refine cw_region ?_
          refine lstepB rfl rfl rfl (run_loadN (.tmp rfl) kd24 sz24 (by repeat (first | exact List.Mem.head _ | apply List.Mem.tail)) (by repeat (first | exact Sub.done | apply Sub.take | apply Sub.skip))) ?_
          refine lstepB rfl rfl rfl (run_move (.tmp rfl)) ?_
          refine lstepB rfl rfl rfl (run_call1 cb25 (.cons (.tmp rfl) (.cons (.tmp rfl) .nil)) (fun w2 hS => shallowQn (furT L) l1 l2 l3 lt w2 hmT ⟨spansAt_row (hS.mem (b := gO) (by repeat (first | exact List.Mem.head _ | apply List.Mem.tail))) hO, spansAt_row (hS.mem (b := gW) (by repeat (first | exact List.Mem.head _ | apply List.Mem.tail))) hW, spansAt_row (hS.mem (b := gD) (by repeat (first | exact List.Mem.head _ | apply List.Mem.tail))) hD⟩ hsh)) ?_
          refine lstepB rfl rfl rfl (run_move (.tmp rfl)) ?_
          refine lstepB rfl rfl rfl (run_extract (.tmp rfl) rfl) ?_
          refine lstepB rfl rfl rfl (run_extract (.tmp rfl) rfl) ?_
          refine lstepB rfl rfl rfl (run_extract (.tmp rfl) rfl) ?_
          refine lstepB rfl rfl rfl (run_assign (.tmp rfl)) ?_
          refine lstepB rfl rfl rfl (run_assign (.tmp rfl)) ?_
          refine lstepB rfl rfl rfl (run_assign (.tmp rfl)) ?_
          refine lnil ?_
          refine xw_then ?_
          refine cw_seq ?_
          refine cw_seq ?_
          refine cw_region ?_
          refine lstepB rfl rfl rfl (run_move (.tmp rfl)) ?_
          refine lstepB rfl rfl rfl (run_len (.tmp rfl) sl33) ?_
          refine lstepB rfl rfl rfl (run_move .const) ?_
          refine lnil ?_
          refine xw_then ?_
          refine cw_block ?_
          refine cw_loop (S := Nat) (fun j => [(219, .int .i64 (j : Int))]) [(25, _), (26, _), (27, _), (28, _), (217, _), (218, _)] (fun j => (gB, Obj.cells rB.toArray 3 (0, 0)) :: []) (fun j => j ≤ L.length) (fun j => L.length - j) 0 (Nat.zero_le _) (by repeat (first | exact Less.nil | refine Less.cons rfl ?_)) (by repeat (first | exact Pick.nil | (apply Pick.cons; focus (repeat (first | exact Del.here | apply Del.there))))) ?_
          intro j hj
          refine cw_seq ?_
          refine cw_region ?_
          refine lstepB rfl rfl rfl (run_lss (.tmp rfl) (.tmp rfl) rfl) ?_
          refine lnil ?_
          refine xw_then ?_
          refine cw_seq ?_
          refine cw_cond_p (.tmp rfl) (fun hl3 => ?_) (fun hl3 => ?_)
          ·
            have hjl : j < L.length := by omega
            obtain ⟨hb1, hb2⟩ := hbits j hjl
            obtain ⟨dj, hdj⟩ : ∃ dj, dj = (L[j]).d := ⟨_, rfl⟩
            have hget : rB[0 + j]? = some (.int .i64 dj) := by rw [Nat.zero_add]; exact hB.get (by rw [intsV, List.map_map, List.getElem?_map, List.getElem?_eq_getElem hjl, hdj]; rfl)
            rw [← hdj] at hb1 hb2
            have hqa : sa / 2 ^ j < 2 ^ 32 := Nat.lt_of_le_of_lt (Nat.div_le_self _ _) sa32
            have hqb : sb / 2 ^ j < 2 ^ 32 := Nat.lt_of_le_of_lt (Nat.div_le_self _ _) sb32
            by_cases c1 : dj < lt
            ·
              have hbt := bitN_iff.2 (hb1 c1)
              refine cw_skip ?_
              refine xw_then ?_
              refine cw_seq ?_
              refine cw_block ?_
              refine cw_seq ?_
              refine cw_region ?_
              refine lstepB rfl rfl rfl (run_move (.tmp rfl)) ?_
              refine lstepB rfl rfl rfl (run_indexAddr (i := j) (off' := 0 + j) (.tmp rfl) (.tmp rfl) el33 (by omega) (by rw [Nat.mul_one])) ?_
              refine lstepB rfl rfl rfl (run_load1 (.tmp rfl) kd3 (by repeat (first | exact List.Mem.head _ | apply List.Mem.tail)) hget) ?_
              refine lstepB rfl rfl rfl (run_assign (.tmp rfl)) ?_
              refine lstepB rfl rfl rfl (run_assign (.tmp rfl)) ?_
              refine lnil ?_
              refine xw_then ?_
              refine cw_seq ?_
              refine cw_region ?_
              refine lstepB rfl rfl rfl (run_move (.tmp rfl)) ?_
              refine lstepB rfl rfl rfl (run_neq (.tmp rfl) .const (decide_eq_false (by omega))) ?_
              refine lstepB rfl rfl rfl (run_move (.tmp rfl)) ?_
              refine lyes rfl rfl rfl rfl ?_
              refine gstepB rfl rfl (run_move (.tmp rfl)) ?_
              refine lyes rfl rfl rfl rfl ?_
              refine gstepB rfl rfl (run_move (.tmp rfl)) ?_
              refine lyes rfl rfl rfl rfl ?_
              refine gstepB rfl rfl (run_lss (.tmp rfl) (.tmp rfl) (decide_eq_true c1)) ?_
              refine lyes rfl rfl rfl rfl ?_
              refine gstepB rfl rfl (run_move (.tmp rfl)) ?_
              refine lyes rfl rfl rfl rfl ?_
              refine gstepB rfl rfl (run_move (.tmp rfl)) ?_
              refine lyes rfl rfl rfl rfl ?_
              refine gstepB rfl rfl (run_move (.tmp rfl)) ?_
              refine lyes rfl rfl rfl rfl ?_
              refine gstepB rfl rfl (run_shr (z := j) (.tmp rfl) (.tmp rfl) (by omega)) ?_
              refine lyes rfl rfl rfl rfl ?_
              refine gstepB rfl rfl (run_and (c' := ((bitN sb j : Nat) : Int)) (.tmp rfl) .const (and_one hqb)) ?_
              refine lyes rfl rfl rfl rfl ?_
              refine gstepB rfl rfl (run_eql (.tmp rfl) .const (decide_eq_false (by omega))) ?_
              refine lyes rfl rfl rfl rfl ?_
              refine gstepB rfl rfl (by first | exact run_pick_true (.tmp rfl) (.tmp rfl) | exact run_pick_false (.tmp rfl) .const) ?_
              refine lstepB rfl rfl rfl (by first | exact run_pick_true (.tmp rfl) .const | exact run_pick_false (.tmp rfl) (.tmp rfl)) ?_
              refine lstepB rfl rfl rfl (run_move (.tmp rfl)) ?_
              refine lyes rfl rfl rfl rfl ?_
              refine gstepB rfl rfl (run_move (.tmp rfl)) ?_
              refine lyes rfl rfl rfl rfl ?_
              refine gstepB rfl rfl (run_move (.tmp rfl)) ?_
              refine lyes rfl rfl rfl rfl ?_
              refine gstepB rfl rfl (run_geq (.tmp rfl) (.tmp rfl) (decide_eq_false (by omega))) ?_
              refine lyes rfl rfl rfl rfl ?_
              refine gstepB rfl rfl (run_move (.tmp rfl)) ?_
              refine lskip rfl rfl rfl rfl rfl rfl rfl ?_
              refine lskip rfl rfl rfl rfl rfl rfl rfl ?_
              refine lskip rfl rfl rfl rfl rfl rfl rfl ?_
              refine lskip rfl rfl rfl rfl rfl rfl rfl ?_
              refine lskip rfl rfl rfl rfl rfl rfl rfl ?_
              refine lyes rfl rfl rfl rfl ?_
              refine gstepB rfl rfl (by first | exact run_pick_true (.tmp rfl) (.tmp rfl) | exact run_pick_false (.tmp rfl) .const) ?_
              refine lstepB rfl rfl rfl (by first | exact run_pick_true (.tmp rfl) .const | exact run_pick_false (.tmp rfl) (.tmp rfl)) ?_
              refine lnil ?_
              refine xw_then ?_
              refine cw_cond_false (.tmp rfl) ?_
              refine cw_skip ?_
              refine xw_in ?_
              refine xw_then ?_
              refine cw_region ?_
              refine lstepB rfl rfl rfl (run_add (.tmp rfl) .const (by first | exact IntWalk.i64_in _ (by omega) | exact rfl)) ?_
              refine lstepB rfl rfl rfl (run_move (.tmp rfl)) ?_
              refine lnil ?_
              exact xw_round (j + 1) (by show j + 1 ≤ _; omega) (by show L.length - (j + 1) < L.length - j; omega) (by repeat (first | exact Less.nil | refine Less.cons rfl ?_)) (by repeat (first | exact Pick.nil | (apply Pick.cons; focus (repeat (first | exact Del.here | apply Del.there)))))
            ·
              have hbt := bitN_zero.2 (hb2 (by omega))
              refine cw_skip ?_
              refine xw_then ?_
              refine cw_seq ?_
              refine cw_block ?_
              refine cw_seq ?_
              refine cw_region ?_
              refine lstepB rfl rfl rfl (run_move (.tmp rfl)) ?_
              refine lstepB rfl rfl rfl (run_indexAddr (i := j) (off' := 0 + j) (.tmp rfl) (.tmp rfl) el33 (by omega) (by rw [Nat.mul_one])) ?_
              refine lstepB rfl rfl rfl (run_load1 (.tmp rfl) kd3 (by repeat (first | exact List.Mem.head _ | apply List.Mem.tail)) hget) ?_
              refine lstepB rfl rfl rfl (run_assign (.tmp rfl)) ?_
              refine lstepB rfl rfl rfl (run_assign (.tmp rfl)) ?_
              refine lnil ?_
              refine xw_then ?_
              refine cw_seq ?_
              refine cw_region ?_
              refine lstepB rfl rfl rfl (run_move (.tmp rfl)) ?_
              refine lstepB rfl rfl rfl (run_neq (.tmp rfl) .const (decide_eq_false (by omega))) ?_
              refine lstepB rfl rfl rfl (run_move (.tmp rfl)) ?_
              refine lyes rfl rfl rfl rfl ?_
              refine gstepB rfl rfl (run_move (.tmp rfl)) ?_
              refine lyes rfl rfl rfl rfl ?_
              refine gstepB rfl rfl (run_move (.tmp rfl)) ?_
              refine lyes rfl rfl rfl rfl ?_
              refine gstepB rfl rfl (run_lss (.tmp rfl) (.tmp rfl) (decide_eq_false c1)) ?_
              refine lyes rfl rfl rfl rfl ?_
              refine gstepB rfl rfl (run_move (.tmp rfl)) ?_
              refine lskip rfl rfl rfl rfl rfl rfl rfl ?_
              refine lskip rfl rfl rfl rfl rfl rfl rfl ?_
              refine lskip rfl rfl rfl rfl rfl rfl rfl ?_
              refine lskip rfl rfl rfl rfl rfl rfl rfl ?_
              refine lskip rfl rfl rfl rfl rfl rfl rfl ?_
              refine lyes rfl rfl rfl rfl ?_
              refine gstepB rfl rfl (by first | exact run_pick_true (.tmp rfl) (.tmp rfl) | exact run_pick_false (.tmp rfl) .const) ?_
              refine lstepB rfl rfl rfl (by first | exact run_pick_true (.tmp rfl) .const | exact run_pick_false (.tmp rfl) (.tmp rfl)) ?_
              refine lstepB rfl rfl rfl (run_move (.tmp rfl)) ?_
              refine lyes rfl rfl rfl rfl ?_
              refine gstepB rfl rfl (run_move (.tmp rfl)) ?_
              refine lyes rfl rfl rfl rfl ?_
              refine gstepB rfl rfl (run_move (.tmp rfl)) ?_
              refine lyes rfl rfl rfl rfl ?_
              refine gstepB rfl rfl (run_geq (.tmp rfl) (.tmp rfl) (decide_eq_true (by omega))) ?_
              refine lyes rfl rfl rfl rfl ?_
              refine gstepB rfl rfl (run_move (.tmp rfl)) ?_
              refine lyes rfl rfl rfl rfl ?_
              refine gstepB rfl rfl (run_move (.tmp rfl)) ?_
              refine lyes rfl rfl rfl rfl ?_
              refine gstepB rfl rfl (run_move (.tmp rfl)) ?_
              refine lyes rfl rfl rfl rfl ?_
              refine gstepB rfl rfl (run_shr (z := j) (.tmp rfl) (.tmp rfl) (by omega)) ?_
              refine lyes rfl rfl rfl rfl ?_
              refine gstepB rfl rfl (run_and (c' := ((bitN sa j : Nat) : Int)) (.tmp rfl) .const (and_one hqa)) ?_
              refine lyes rfl rfl rfl rfl ?_
              refine gstepB rfl rfl (run_eql (.tmp rfl) .const (decide_eq_false (by omega))) ?_
              refine lyes rfl rfl rfl rfl ?_
              refine gstepB rfl rfl (by first | exact run_pick_true (.tmp rfl) (.tmp rfl) | exact run_pick_false (.tmp rfl) .const) ?_
              refine lstepB rfl rfl rfl (by first | exact run_pick_true (.tmp rfl) .const | exact run_pick_false (.tmp rfl) (.tmp rfl)) ?_
              refine lnil ?_
              refine xw_then ?_
              refine cw_cond_false (.tmp rfl) ?_
              refine cw_skip ?_
              refine xw_in ?_
              refine xw_then ?_
              refine cw_region ?_
              refine lstepB rfl rfl rfl (run_add (.tmp rfl) .const (by first | exact IntWalk.i64_in _ (by omega) | exact rfl)) ?_
              refine lstepB rfl rfl rfl (run_move (.tmp rfl)) ?_
              refine lnil ?_
              exact xw_round (j + 1) (by show j + 1 ≤ _; omega) (by show L.length - (j + 1) < L.length - j; omega) (by repeat (first | exact Less.nil | refine Less.cons rfl ?_)) (by repeat (first | exact Pick.nil | (apply Pick.cons; focus (repeat (first | exact Del.here | apply Del.there)))))
          ·
            refine cw_exit ?_
            refine xw_then_exit ?_
            refine xw_then_exit ?_
            refine xw_in_exit ?_
            refine xw_then ?_
            refine cw_seq ?_
            refine cw_region ?_
            refine lstepB rfl rfl rfl (run_call1 cb13 .nil (fun w _ => aliveK w)) ?_
            refine lstepB rfl rfl rfl (run_assign (.tmp rfl)) ?_
            refine lnil ?_
            refine xw_then ?_
            refine cw_ret ?_
            refine xw_ret1 Try.results6 rfl (fun w hS => ⟨rfl, hS.kept⟩)
end Go.Proofs.Ytjdeplehhmhpcaa
