/- Package furrow: the bend of a furrow. -/
import Derived.Test.YtjdeplehhmhpcaaFK
namespace Go.Proofs.Ytjdeplehhmhpcaa
open Go.RowKit En

/-- A course that rods can tell. -/
def FineC (l : List SpanD) : Prop := ∀ s ∈ l, -900 ≤ s.lo ∧ s.lo ≤ s.hi ∧ s.hi ≤ 900 ∧ s.hi - s.lo ≤ 30
def bendS (l : List SpanD) (st : Nat) : SpanD := bendAtS (l.getD (st - 1) default) (l.getD st default) (l.getD (st + 1) default)
def boundsN (l : List SpanD) : Nat → SpanD
  | 0 => ⟨0, 0⟩
  | k + 1 => ⟨max (boundsN l k).lo (bendS l (k + 1)).lo, max (boundsN l k).hi (bendS l (k + 1)).hi⟩
theorem getD_some {l : List SpanD} {k : Nat} (h : k < l.length) : l[k]? = some (l.getD k default) := by rw [List.getD_eq_getElem?_getD, List.getElem?_eq_getElem h]; rfl
theorem bendSK {l : List SpanD} (hl : FineC l) (st : Nat) (a : Option Addr) (c : Nat) (w : World) (hn : l.length ≤ 1000) (h1 : 1 ≤ st) (h2 : st + 1 < l.length) (hp : SpansAt w a l) : Gives Try.prog 50 [.slice a l.length c, .int .i64 (st : Int)] w (.agg (spanC (bendS l st)).toArray) := by
  have g := fun k (hk : k < l.length) => hl _ (List.mem_of_getElem? (getD_some hk))
  exact bendAtK l st _ _ _ a c w hn h1 (getD_some (by omega)) (getD_some (by omega)) (getD_some h2) (g _ (by omega)) (g _ (by omega)) (g _ h2) hp
theorem minN_ge {l : List Int} {B : Int} (h : ∀ x ∈ l, B ≤ x) (hn : l ≠ []) : B ≤ minN l l.length := by
  unfold minN
  rw [List.take_length]
  cases l with
  | nil => exact absurd rfl hn
  | cons a r =>
    have key : ∀ (r : List Int) (z : Int), B ≤ z → (∀ x ∈ r, B ≤ x) → B ≤ r.foldl min z := by
      intro r
      induction r with
      | nil => intro z hz _; exact hz
      | cons y r ih => intro z hz hr; exact ih _ (by have := hr y (by simp); omega) (fun x hx => hr x (by simp [hx]))
    exact key _ _ (h a (by simp)) h
theorem maxN_le {l : List Int} {B : Int} (h : ∀ x ∈ l, x ≤ B) (hn : l ≠ []) : maxN l l.length ≤ B := by
  unfold maxN
  rw [List.take_length]
  cases l with
  | nil => exact absurd rfl hn
  | cons a r =>
    have key : ∀ (r : List Int) (z : Int), z ≤ B → (∀ x ∈ r, x ≤ B) → r.foldl max z ≤ B := by
      intro r
      induction r with
      | nil => intro z hz _; exact hz
      | cons y r ih => intro z hz hr; exact ih _ (by have := hr y (by simp); omega) (fun x hx => hr x (by simp [hx]))
    exact key _ _ (h a (by simp)) h
theorem minN_mem {l : List Int} (hn : l ≠ []) : minN l l.length ∈ l := by
  unfold minN
  rw [List.take_length]
  cases l with
  | nil => exact absurd rfl hn
  | cons a r =>
    have key : ∀ (r : List Int) (z : Int), r.foldl min z = z ∨ r.foldl min z ∈ r := by
      intro r
      induction r with
      | nil => intro z; exact .inl rfl
      | cons y r ih =>
        intro z
        rcases ih (min z y) with h | h
        · rw [List.foldl_cons, h]
          rcases Int.le_total z y with h2 | h2
          · left; omega
          · right; rw [Int.min_eq_right h2]; simp
        · right; rw [List.foldl_cons]; exact List.mem_cons_of_mem _ h
    rcases key (a :: r) a with h | h
    · show (a :: r).foldl min a ∈ _
      rw [h]; simp
    · exact h
theorem maxN_mem {l : List Int} (hn : l ≠ []) : maxN l l.length ∈ l := by
  unfold maxN
  rw [List.take_length]
  cases l with
  | nil => exact absurd rfl hn
  | cons a r =>
    have key : ∀ (r : List Int) (z : Int), r.foldl max z = z ∨ r.foldl max z ∈ r := by
      intro r
      induction r with
      | nil => intro z; exact .inl rfl
      | cons y r ih =>
        intro z
        rcases ih (max z y) with h | h
        · rw [List.foldl_cons, h]
          rcases Int.le_total z y with h2 | h2
          · right; rw [Int.max_eq_right h2]; simp
          · left; omega
        · right; rw [List.foldl_cons]; exact List.mem_cons_of_mem _ h
    rcases key (a :: r) a with h | h
    · show (a :: r).foldl max a ∈ _
      rw [h]; simp
    · exact h
theorem minN_le {l : List Int} {x : Int} (hx : x ∈ l) : minN l l.length ≤ x := by
  unfold minN
  rw [List.take_length]
  have key : ∀ (r : List Int) (z : Int), r.foldl min z ≤ z ∧ ∀ x ∈ r, r.foldl min z ≤ x := by
    intro r
    induction r with
    | nil => intro z; exact ⟨Int.le_refl _, fun x h => by cases h⟩
    | cons y r ih =>
      intro z
      obtain ⟨h1, h2⟩ := ih (min z y)
      rw [List.foldl_cons]
      refine ⟨by omega, fun x hx => ?_⟩
      rcases List.mem_cons.1 hx with rfl | hx
      · omega
      · exact h2 x hx
  exact (key l _).2 x hx
theorem maxN_ge {l : List Int} {x : Int} (hx : x ∈ l) : x ≤ maxN l l.length := by
  unfold maxN
  rw [List.take_length]
  have key : ∀ (r : List Int) (z : Int), z ≤ r.foldl max z ∧ ∀ x ∈ r, x ≤ r.foldl max z := by
    intro r
    induction r with
    | nil => intro z; exact ⟨Int.le_refl _, fun x h => by cases h⟩
    | cons y r ih =>
      intro z
      obtain ⟨h1, h2⟩ := ih (max z y)
      rw [List.foldl_cons]
      refine ⟨by omega, fun x hx => ?_⟩
      rcases List.mem_cons.1 hx with rfl | hx
      · omega
      · exact h2 x hx
  exact (key l _).2 x hx
theorem mem_bendsI {A B C : List Int} {x : Int} : x ∈ bendsI A B C ↔ ∃ a ∈ A, ∃ b ∈ B, ∃ c ∈ C, x = bendI a b c := by
  simp only [bendsI, List.mem_flatMap, List.mem_map]
  constructor
  · rintro ⟨a, ha, b, hb, c, hc, rfl⟩; exact ⟨a, ha, b, hb, c, hc, rfl⟩
  · rintro ⟨a, ha, b, hb, c, hc, rfl⟩; exact ⟨a, ha, b, hb, c, hc, rfl⟩
theorem bendS_spec {l : List SpanD} (hl : FineC l) {st : Nat} (h1 : 1 ≤ st) (h2 : st + 1 < l.length) :
    let s := l.getD (st - 1) default; let t := l.getD st default; let u := l.getD (st + 1) default
    let L := bendsI (upL s.lo s.hi) (upL t.lo t.hi) (upL u.lo u.hi)
    L ≠ [] ∧ (∀ x ∈ L, InB x) ∧ (bendS l st).lo ∈ L ∧ (bendS l st).hi ∈ L ∧ ∀ x ∈ L, (bendS l st).lo ≤ x ∧ x ≤ (bendS l st).hi := by
  have g := fun k (hk : k < l.length) => hl _ (List.mem_of_getElem? (getD_some hk))
  have g1 := g (st - 1) (by omega)
  have g2 := g st (by omega)
  have g3 := g (st + 1) h2
  intro s t u L
  have hne : L ≠ [] := by
    intro h
    have : bendI s.lo t.lo u.lo ∈ L := mem_bendsI.2 ⟨_, mem_upL.2 ⟨Int.le_refl _, g1.2.1⟩, _, mem_upL.2 ⟨Int.le_refl _, g2.2.1⟩, _, mem_upL.2 ⟨Int.le_refl _, g3.2.1⟩, rfl⟩
    rw [h] at this
    cases this
  refine ⟨hne, fun x hx => ?_, minN_mem hne, maxN_mem hne, fun x hx => ⟨minN_le hx, maxN_ge hx⟩⟩
  obtain ⟨a, ha, b, hb, c, hc, rfl⟩ := mem_bendsI.1 hx
  rw [mem_upL] at ha hb hc
  exact bendI_in ⟨Int.le_trans g1.1 ha.1, Int.le_trans ha.2 g1.2.2.1⟩ ⟨Int.le_trans g2.1 hb.1, Int.le_trans hb.2 g2.2.2.1⟩ ⟨Int.le_trans g3.1 hc.1, Int.le_trans hc.2 g3.2.2.1⟩
theorem boundsN_in {l : List SpanD} (hl : FineC l) : ∀ {k : Nat}, k + 2 ≤ l.length ∨ k = 0 → InB (boundsN l k).lo ∧ InB (boundsN l k).hi
  | 0, _ => ⟨⟨by show (0 : Int) ≤ 0; omega, by show (0 : Int) ≤ 4000; omega⟩, ⟨by show (0 : Int) ≤ 0; omega, by show (0 : Int) ≤ 4000; omega⟩⟩
  | k + 1, h => by
    obtain ⟨h1, h2⟩ := boundsN_in hl (k := k) (.inl (by omega))
    obtain ⟨_, h4, h5, h6, _⟩ := bendS_spec hl (st := k + 1) (by omega) (by omega)
    have h5 := h4 _ h5
    have h6 := h4 _ h6
    unfold InB at *
    simp only [boundsN]
    omega
set_option maxRecDepth 100000 in
set_option maxHeartbeats 4000000 in
theorem boundsK {l : List SpanD} (hl : FineC l) (a : Option Addr) (c : Nat) (w : World) (hn : l.length ≤ 1000) (hp : SpansAt w a l) : Gives Try.prog 77 [.slice a l.length c] w (.agg (spanC (boundsN l (l.length - 2))).toArray) := by
  refine .mk <| enter (n := 28) Try.func77 rfl rfl rfl (by repeat (first | exact Fill.nil | apply Fill.cons)) ?_
  refine cw_seq ?_
  refine cw_region ?_
  refine lstep rfl rfl rfl (run_box1 (.tmp rfl) rfl) ?_
  intro b1 _
  refine lstep rfl rfl rfl (run_alloc zr67) ?_
  intro b2 _
  refine lnil ?_
  refine xw_then ?_
  refine cw_seq ?_
  refine cw_region ?_
  refine lstep rfl rfl rfl (run_alloc zr67) ?_
  intro b3 _
  refine lnil ?_
  refine xw_then ?_
  refine cw_seq ?_
  refine cw_seq ?_
  refine cw_region ?_
  refine lstepB rfl rfl rfl (run_load1 (.tmp rfl) kd69 (by repeat (first | exact List.Mem.head _ | apply List.Mem.tail)) (by exact rfl)) ?_
  refine lcallN rfl cb91 (.cons (.tmp rfl) .nil) (F := fun (z0 : Nat) B0 w' => AllF 1 (((l.length : Int) : Int) - 2) z0 B0 w') (fun w _ => innerK _ _ _ (by omega) w) ?_
  rintro zx Bx wx hAx hlox hsx htx hx
  refine lnil ?_
  refine xw_then ?_
  refine cw_block ?_
  refine cw_range (f := 100) (xs := intsV (upL (1) (((l.length : Int)) - 2))) (Cap := fun c => c = zx) (S := SpanD) (fun s => (b3, Obj.cells (spanC s).toArray 67 (0, 0)) :: (b2, Obj.cells [.int .i64 0, .int .i64 0].toArray 67 (0, 0)) :: (b1, Obj.cells [.slice a l.length c].toArray 69 (0, 0)) :: []) (fun k s => s = boundsN l k) ⟨0, 0⟩ cb100 (.tmp rfl) rfl
    (fun w hS => all_iter (1) (((l.length : Int)) - 2) zx w (by omega) (hS.old_cell (fun h => absurd (hlox _ h) (by have := hAx.1; omega)) hAx.2.1) (hS.old_cell (fun h => absurd (hlox _ h) (by have := hAx.1; omega)) hAx.2.2))
    (fun c hc => by subst hc; exact ⟨World.block_lt_of_cell? _ _ hAx.2.1, fun h => absurd (hlox _ h) (by have := hAx.1; omega)⟩) rfl (by repeat (first | exact Pick.nil | exact Pick.refl _ | (apply Pick.cons; focus (repeat (first | exact Del.here | apply Del.there))) | exact Pick.skip (Pick.refl _) | exact Pick.skip (Pick.skip (Pick.refl _)))) ?_ ?_
  ·
    intro L D fn tm k s x w2 hx2 hF h2
    obtain ⟨hk, rfl⟩ := upV_inv hx2
    subst hF
    have hbd := bendSK hl (k + 1)
    have hst : (1 : Int) + (k : Int) = ((k + 1 : Nat) : Int) := by omega
    rw [hst]
    refine cw_region ?_
    refine lstepB rfl rfl rfl (run_assign (.tmp rfl)) ?_
    refine lnil ?_
    refine xw_begin rfl ?_
    refine cw_block ?_
    refine cw_seq ?_
    refine cw_region ?_
    refine lstepB rfl rfl rfl (run_load1 (.tmp rfl) kd69 (by repeat (first | exact List.Mem.head _ | apply List.Mem.tail)) (by exact rfl)) ?_
    refine lstepB rfl rfl rfl (run_move (.tmp rfl)) ?_
    refine lstepB rfl rfl rfl (run_call1 cb50 (.cons (.tmp rfl) (.cons (.tmp rfl) .nil)) (fun w3 hS => hbd a c w3 hn (by omega) (by omega) (hp.kept (hx.join0 (h2.join0 hS)).kept))) ?_
    refine lstep rfl rfl rfl (run_alloc zr67) ?_
    intro b5 _
    refine lstep0 rfl rfl (run_storeN (.tmp rfl) (.tmp rfl) rfl sz67 rfl (by repeat (first | exact Upd.here | apply Upd.there)) (by repeat (first | exact Put.done | apply Put.put | apply Put.skip))) ?_
    refine lnil ?_
    refine xw_then ?_
    refine cw_region ?_
    refine lstepB rfl rfl rfl (run_fieldAddr (.tmp rfl) fa67_0 (by first | exact Nat.zero_add _ | exact rfl)) ?_
    refine lstepB rfl rfl rfl (run_fieldAddr (.tmp rfl) fa28_0 (by first | exact Nat.zero_add _ | exact rfl)) ?_
    refine lstepB rfl rfl rfl (run_load1 (.tmp rfl) kd3 (by repeat (first | exact List.Mem.head _ | apply List.Mem.tail)) (by exact rfl)) ?_
    refine lstepB rfl rfl rfl (run_fieldAddr (.tmp rfl) fa67_0 (by first | exact Nat.zero_add _ | exact rfl)) ?_
    refine lstepB rfl rfl rfl (run_fieldAddr (.tmp rfl) fa28_0 (by first | exact Nat.zero_add _ | exact rfl)) ?_
    refine lstepB rfl rfl rfl (run_load1 (.tmp rfl) kd3 (by repeat (first | exact List.Mem.head _ | apply List.Mem.tail)) (by exact rfl)) ?_
    refine lstepB rfl rfl rfl (run_max2 (.tmp rfl) (.tmp rfl)) ?_
    refine lstepB rfl rfl rfl (run_fieldAddr (.tmp rfl) fa67_0 (by first | exact Nat.zero_add _ | exact rfl)) ?_
    refine lstepB rfl rfl rfl (run_fieldAddr (.tmp rfl) fa28_1 (by first | exact Nat.zero_add _ | exact rfl)) ?_
    refine lstepB rfl rfl rfl (run_load1 (.tmp rfl) kd3 (by repeat (first | exact List.Mem.head _ | apply List.Mem.tail)) (by exact rfl)) ?_
    refine lstepB rfl rfl rfl (run_fieldAddr (.tmp rfl) fa67_0 (by first | exact Nat.zero_add _ | exact rfl)) ?_
    refine lstepB rfl rfl rfl (run_fieldAddr (.tmp rfl) fa28_1 (by first | exact Nat.zero_add _ | exact rfl)) ?_
    refine lstepB rfl rfl rfl (run_load1 (.tmp rfl) kd3 (by repeat (first | exact List.Mem.head _ | apply List.Mem.tail)) (by exact rfl)) ?_
    refine lstepB rfl rfl rfl (run_max2 (.tmp rfl) (.tmp rfl)) ?_
    refine lstepB rfl rfl rfl (run_call1 cb83 (.cons (.tmp rfl) (.cons (.tmp rfl) .nil)) (fun w3 _ => betweenK _ _ w3)) ?_
    refine lstep0 rfl rfl (run_storeN (.tmp rfl) (.tmp rfl) rfl sz67 rfl (by repeat (first | exact Upd.here | apply Upd.there)) (by repeat (first | exact Put.done | apply Put.put | apply Put.skip))) ?_
    refine lnil ?_
    refine xw_in ?_
    exact xw_rnext (boundsN l (k + 1)) rfl (by repeat (first | exact Pick.nil | (apply Pick.cons; focus (repeat (first | exact Del.here | apply Del.there)))))
  ·
    intro D s hF
    subst hF
    rw [show (intsV (upL 1 (((l.length : Int)) - 2))).length = l.length - 2 by simp only [intsV, List.length_map, upL_length]; omega]
    refine xw_in ?_
    refine xw_then ?_
    refine cw_seq ?_
    refine cw_region ?_
    refine lstepB rfl rfl rfl (run_loadN (.tmp rfl) kd67 sz67 (by repeat (first | exact List.Mem.head _ | apply List.Mem.tail)) (by repeat (first | exact Sub.done | apply Sub.take | apply Sub.skip))) ?_
    refine lstep0 rfl rfl (run_storeN (.tmp rfl) (.tmp rfl) rfl sz67 rfl (by repeat (first | exact Upd.here | apply Upd.there)) (by repeat (first | exact Put.done | apply Put.put | apply Put.skip))) ?_
    refine lnil ?_
    refine xw_then ?_
    refine cw_ret ?_
    refine xw_pick (H' := (D, dfr) :: (b2, _) :: []) (by repeat (first | exact Pick.nil | (apply Pick.cons; focus (repeat (first | exact Del.here | apply Del.there))))) ?_
    refine xw_retD1C Try.results77 rfl kd67 sz67 (by repeat (first | exact List.Mem.head _ | apply List.Mem.tail)) (by repeat (first | exact Sub.done | apply Sub.take | apply Sub.skip)) (fun w hS => ⟨rfl, (hx.join0 hS).kept⟩)
end Go.Proofs.Ytjdeplehhmhpcaa
