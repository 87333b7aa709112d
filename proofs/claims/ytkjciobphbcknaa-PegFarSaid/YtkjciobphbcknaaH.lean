/- Package slices at places: deleting in place. -/
import Derived.Test.YtkjciobphbcknaaG
namespace Go.Proofs.Ytkjciobphbcknaa
open Go.RowKit

theorem Kept.grownBy {w w' : World} (h : Kept w w') (r : Option Nat) : w.grownBy w' r := ⟨Below.os h, Below.tape h, Below.output h, Below.size h, fun k hk _ => Below.block h k hk⟩
theorem grownBy_trans {a b c : World} {r : Option Nat} (h : a.grownBy b r) (k : b.grownBy c r) : a.grownBy c r :=
  ⟨k.os.trans h.os, k.tape.trans h.tape, k.output.trans h.output, Nat.le_trans h.size k.size, fun i hi hne => (k.block i (Nat.lt_of_lt_of_le hi h.size) hne).trans (h.block i hi hne)⟩
theorem OwnsPls.kept {w w' : World} {base : Nat} {v : Value} {L : List Pl} (h : OwnsPls w base v L) (hb : Kept w w') : OwnsPls w' base v L := by
  refine ⟨h.1, h.2.imp id fun ⟨g, cap, cur, a, b, c, d⟩ => ⟨g, cap, cur, a, b, ?_, d⟩⟩
  rw [Below.block hb g (Array.getElem?_eq_some_iff.1 c).1]; exact c
theorem OwnsPls.set {w : World} {base g cap n : Nat} {M : List Pl} (h : OwnsPls w base (.slice (some ⟨g, 0, none⟩) n cap) M) (hn : n = M.length) (i : Nat) (s : Pl) :
    OwnsPls ((w.setCell ⟨g, i * 2, none⟩ (.int .i64 s.x)).setCell ⟨g, i * 2 + 1, none⟩ (.int .i64 s.y)) base (.slice (some ⟨g, 0, none⟩) n cap) (M.set i s) ∧
      w.grownBy ((w.setCell ⟨g, i * 2, none⟩ (.int .i64 s.x)).setCell ⟨g, i * 2 + 1, none⟩ (.int .i64 s.y)) (some g) := by
  subst hn
  obtain ⟨h1, g1⟩ := World.ownsRow.stored h (i * 2) (.int .i64 s.x)
  obtain ⟨h2, g2⟩ := World.ownsRow.stored h1 (i * 2 + 1) (.int .i64 s.y)
  refine ⟨?_, grownBy_trans g1 g2⟩
  unfold OwnsPls
  rw [List.length_set]
  have e : ∀ (M : List Pl) (i : Nat) (s : Pl), plCells (M.set i s) = ((plCells M).set (i * 2) (.int .i64 s.x)).set (i * 2 + 1) (.int .i64 s.y) := by
    intro M
    induction M with
    | nil => intro i s; simp [plCells]
    | cons a l ih =>
      intro i s
      match i with
      | 0 => simp [plCells]
      | i + 1 => have := ih i s; simp [plCells, Nat.succ_mul] at this ⊢; exact this
  rw [e]
  exact h2
theorem owns_tail {base g cap n : Nat} : ∀ (vs : List Value) (w : World) (xs : List Value) (o i : Nat), w.ownsRow base 93 2 (.slice (some ⟨g, 0, none⟩) n cap) n xs → i * 2 ≤ o →
    ∃ ys, (w.setCells g o vs).ownsRow base 93 2 (.slice (some ⟨g, 0, none⟩) n cap) n ys ∧ ys.take (i * 2) = xs.take (i * 2) ∧ w.grownBy (w.setCells g o vs) (some g)
  | [], w, xs, o, i, h, _ => ⟨xs, h, rfl, ⟨rfl, rfl, rfl, Nat.le_refl _, fun _ _ _ => rfl⟩⟩
  | v :: r, w, xs, o, i, h, hio => by
    obtain ⟨h1, g1⟩ := World.ownsRow.stored h o v
    obtain ⟨ys, h2, e, g2⟩ := owns_tail r _ _ (o + 1) i h1 (by omega)
    refine ⟨ys, h2, ?_, grownBy_trans g1 g2⟩
    rw [e, List.take_set, List.set_eq_of_length_le (by simp; omega)]
theorem zero93 (w : World) : (zeroValue 93).run Try.prog w = .ok (.agg #[.int .i64 0, .int .i64 0]) w := by kernel_rfl
/-- 'clear' of the end of a slice of places. -/
theorem run_clear_pls (w : World) (base g cap n i : Nat) (xs : List Value) (h : w.ownsRow base 93 2 (.slice (some ⟨g, 0, none⟩) n cap) n xs) (hi : i < n) :
    ∃ w', (∀ ty c, (Builtin.clear_ #[147] ty #[.slice (some ⟨g, i * 2, none⟩) (n - i) c]).run Try.prog w = .ok (.tuple #[]) w') ∧ w.grownBy w' (some g) ∧ w'.ownsRow base 93 2 (.slice (some ⟨g, 0, none⟩) i cap) i (xs.take (i * 2)) := by
  obtain ⟨m, hm⟩ : ∃ m, n - i = m + 1 := ⟨n - i - 1, by omega⟩
  let vs := (Builtin.zeroCells #[.int .i64 0, .int .i64 0] (n - i)).toList
  have hl : vs.length = (n - i) * 2 := by simp [vs, Builtin.zeroCells]
  have h1 : ∀ v ∈ vs, v.oneCell' = true := by
    intro v hv
    simp only [vs, Builtin.zeroCells, Array.toList_map, List.mem_map] at hv
    obtain ⟨a, _, rfl⟩ := hv
    have : a % 2 = 0 ∨ a % 2 = 1 := by omega
    rcases this with e | e <;> simp [e, Value.oneCell']
  have hst := run_storeCells_cells (P := Try.prog) g (i * 2) vs 0 w (fun j hj => by rw [World.ownsRow.cellAt h _ (by omega), List.getElem?_eq_getElem (by rw [h.1]; omega)]; rfl) (fun j hj => World.ownsRow.frozenAt h _) h1
  obtain ⟨ys, h2, e, g2⟩ := owns_tail vs w xs (i * 2) i h (Nat.le_refl _)
  refine ⟨w.setCells g (i * 2) vs, ?_, g2, ?_⟩
  · intro ty c
    have hst2 : (storeCells ⟨g, i * 2, none⟩ (Builtin.zeroCells #[.int .i64 0, .int .i64 0] (m + 1)).toList 0).run Try.prog w = .ok () (w.setCells g (i * 2) vs) := by
      rw [← hm]; exact hst
    rw [hm]
    simp [Builtin.clear_, run_underlying Try.underlying147, zero93, Value.cells, hst2]
  · rw [← e]
    obtain ⟨hl2, ⟨h', _⟩ | ⟨g', cap', cur, h', hb, hg, hnc, hcm, hcs, htake⟩⟩ := h2
    · simp at h'
    · simp only [Value.slice.injEq, Option.some.injEq, Addr.mk.injEq, and_true, true_and] at h'
      obtain ⟨rfl, rfl⟩ := h'
      refine ⟨by simp; omega, .inr ⟨g, cap, cur, rfl, hb, hg, by omega, hcm, hcs, ?_⟩⟩
      rw [← htake, List.take_take]; congr 1; omega

theorem take_set_succ (M : List Pl) (a : Nat) (s : Pl) (h : a < M.length) : (M.set a s).take (a + 1) = M.take a ++ [s] := by
  rw [List.take_succ_eq_append_getElem (by simpa using h), List.getElem_set_self, List.take_set, List.set_eq_of_length_le (by simp; omega)]
theorem drop_set_lt (M : List Pl) (a b : Nat) (s : Pl) (h : a < b) : (M.set a s).drop b = M.drop b := by
  apply List.ext_getElem?
  intro i
  rw [List.getElem?_drop, List.getElem?_drop, List.getElem?_set_ne (by omega)]
theorem plCells_take (M : List Pl) : ∀ a, (plCells M).take (a * 2) = plCells (M.take a) := by
  induction M with
  | nil => intro a; simp [plCells]
  | cons s l ih =>
    intro a
    match a with
    | 0 => simp [plCells]
    | a + 1 => have := ih a; simp [plCells, Nat.succ_mul] at this ⊢; exact this

theorem filt_take (f : Pl → Bool) (L : List Pl) (j : Nat) (h : j < L.length) : (L.take (j + 1)).filter f = (L.take j).filter f ++ (if f L[j] then [L[j]] else []) := by
  rw [List.take_succ_eq_append_getElem h, List.filter_append]; simp [List.filter_cons]

theorem OwnsPls.ptr {w : World} {base cap : Nat} {pa : Option Addr} {L : List Pl} (h : OwnsPls w base (.slice pa L.length cap) L) (hne : 0 < L.length) : ∃ g, pa = some ⟨g, 0, none⟩ ∧ L.length ≤ cap ∧ base ≤ g ∧ g < w.heap.size ∧ cap ≤ maxLen := by
  obtain ⟨_, ⟨h1, h2⟩ | ⟨g, cap', cur, h1, hb, hg, h3, h4, h5, h6⟩⟩ := h
  · omega
  · simp only [Value.slice.injEq, true_and] at h1
    obtain ⟨rfl, rfl⟩ := h1
    exact ⟨g, rfl, h3, hb, (Array.getElem?_eq_some_iff.1 hg).1, h4⟩

set_option maxRecDepth 100000 in
set_option maxHeartbeats 1000000 in
theorem deleteFunc_any (L : List Pl) (v c1 c2 : Value) (f : Pl → Bool) (base : Nat) (w : World) (hL : OwnsPls w base v L) (hlen : L.length ≤ 1000)
    (hf : ∀ w1, w.grownBy w1 v.ownBlock → ∀ s ∈ L, Calls Try.prog 99 #[.agg #[.int .i64 s.x, .int .i64 s.y], c1, c2] w1 fun e w' => e = .returned (.bool (f s)) ∧ Kept w1 w') :
    Calls Try.prog 98 #[v, .func (.func 99) #[] #[c1, c2]] w fun e w' => ∃ v', e = .returned v' ∧ OwnsPls w' base v' (L.filter fun s => !f s) ∧ w.grownBy w' v.ownBlock ∧ (∀ k, v'.ownBlock = some k → v.ownBlock = some k) := by
  obtain ⟨pa, cap, hv, hpl⟩ := hL.reads
  have HV := Lib.hid hv
  have HO := Lib.hid hL
  have HF := Lib.hid hf
  have HP := Lib.hid hpl
  clear hL hf hpl
  subst hv
  go_enter Try.func98, Try.ntmps98
  go_wp2_with (go_at_call 103; refine (indexFunc_any L pa cap c1 c2 f _ HP.out hlen (fun w1 h1 => HF.out w1 (h1.grownBy _))).mono ?_; rintro e w1 ⟨r, rfl, hb1, (⟨rfl, hall⟩ | ⟨j0, rfl, hj0, hall, hat⟩)⟩)
  · go_ret
    refine ⟨_, rfl, ?_, hb1.grownBy _, fun k h => h⟩
    rw [List.filter_eq_self.2 (fun s hs => by simpa using (List.all_eq_true.1 hall) s hs)]
    exact HO.out.kept hb1
  · obtain ⟨g, rfl, hcap, hbg, hgs, hcm⟩ := HO.out.ptr (by omega)
    have HO1 := Lib.hid (HO.out.kept hb1)
    have HI : Hid ((L.take (j0 + 1)).filter (fun s => !f s) = L.take j0 ∧ f (L[j0]) = true) := by
      have h1 := hat L[j0] (List.getElem?_eq_getElem hj0)
      refine ⟨?_, h1⟩
      rw [filt_take _ _ _ hj0, h1]
      simp only [Bool.not_true, Bool.false_eq_true, if_false, List.append_nil]
      exact List.filter_eq_self.2 (fun s hs => by simpa using (List.all_eq_true.1 hall) s hs)
    have HG := Lib.hid (hb1.grownBy (some g))
    clear hall hat HP HV hb1
    have hj0i : (j0 : Int) + 1 ≤ L.length := by omega
    have hmx : cap ≤ 9223372036854775807 := hcm
    have hjj : ((j0 : Int) == -1) = false := by assumption
    simp only [hjj]
    clear hjj
    go_loopw [5, 6, 7] (fun i j _ wr => ∃ (a b : Nat) (M : List Pl), i = .int .i64 a ∧ j = .int .i64 b ∧ a < b ∧ b ≤ L.length ∧ OwnsPls wr base (.slice (some ⟨g, 0, none⟩) L.length cap) M ∧ Hid (M.length = L.length ∧ M.take a = (L.take b).filter (fun s => !f s) ∧ M.drop b = L.drop b) ∧ w.grownBy wr (some g) ∧ w.heap.size ≤ wr.heap.size) (fun _ j _ _ => L.length - (intOf j).toNat)
    case atStart => exact ⟨j0, j0 + 1, L, by simp, by simp, by omega, by omega, HO1.out, ⟨rfl, HI.out.1.symm, rfl⟩, HG.out, HG.out.size⟩
    case round =>
      obtain ⟨a, b, M, rfl, rfl, hab, hbL, hM, HM, hg, hsz⟩ := hrel
      have hMl := HM.out.1
      have hgr : g < wr.heap.size := by omega
      by_cases hlt : b < L.length
      · have hMb : M[b]? = some L[b] := by
          have h1 := congrArg (fun l => l[0]?) HM.out.2.2
          simp only [List.getElem?_drop, Nat.add_zero] at h1
          rw [h1, List.getElem?_eq_getElem hlt]
        obtain ⟨c1, c2⟩ : wr.cell? ⟨g, b * 2, none⟩ = some (.int .i64 L[b].x) ∧ wr.cell? ⟨g, b * 2 + 1, none⟩ = some (.int .i64 L[b].y) := by
          obtain ⟨pa', cap', e, h2⟩ := hM.reads
          simp only [Value.slice.injEq] at e
          obtain ⟨b', o', e2, _, h3, h4⟩ := h2 b _ hMb
          rw [← e.1] at e2
          simp only [Option.some.injEq, Addr.mk.injEq, and_true] at e2
          obtain ⟨rfl, rfl⟩ := e2
          exact ⟨by simpa using h3, by simpa using h4⟩
        have hMr : wr.ownsRow base 93 2 (.slice (some ⟨g, 0, none⟩) L.length cap) L.length (plCells M) := by unfold OwnsPls at hM; rwa [hMl] at hM
        obtain ⟨y1, d1⟩ : ∃ y, wr.cell? ⟨g, a * 2, none⟩ = some y := ⟨_, (hMr.cellAt (a * 2) (by omega)).trans (List.getElem?_eq_getElem (by rw [hMr.1]; omega))⟩
        obtain ⟨y2, d2⟩ : ∃ y, wr.cell? ⟨g, a * 2 + 1, none⟩ = some y := ⟨_, (hMr.cellAt (a * 2 + 1) (by omega)).trans (List.getElem?_eq_getElem (by rw [hMr.1]; omega))⟩
        have f1 := hMr.frozenAt (a * 2)
        have f2 := hMr.frozenAt (a * 2 + 1)
        have HC := Lib.hid (HF.out (wr.alloc (Obj.cells #[.int .i64 L[b].x, .int .i64 L[b].y] 93)) (grownBy_trans hg (World.grownBy_alloc _ _ _)) L[b] (List.getElem_mem hlt))
        have HN : Hid ((L.take (b + 1)).filter (fun s => !f s) = (L.take b).filter (fun s => !f s) ++ (if !f L[b] then [L[b]] else [])) := filt_take _ _ _ hlt
        clear hMr hMb hMl
        have hM' := Lib.hid hM
        clear hM
        go_wp2_with (go_at_call 99; refine HC.out.mono ?_; rintro e w2 ⟨rfl, hb2⟩; have hc := hb2.cells; have hfz := hb2.frozens; have hl := hb2.lts)
        · have hO2 := (hM'.out.kept ((Kept.refl _).alloc _)).kept hb2
          obtain ⟨s1, s2⟩ := hO2.set HM.out.1.symm a L[b]
          go_roundw
          case rel =>
            refine ⟨a + 1, b + 1, M.set a L[b], by go_num, by go_num, by omega, by omega, s1, ⟨by simpa using HM.out.1, ?_, ?_⟩, grownBy_trans (grownBy_trans (grownBy_trans hg (World.grownBy_alloc _ _ _)) (hb2.grownBy _)) s2, ?_⟩
            · have hfb : (!f L[b]) = true := by assumption
              rw [take_set_succ _ _ _ (by rw [HM.out.1]; omega), HM.out.2.1, HN.out, if_pos hfb]
            · rw [drop_set_lt _ _ _ _ (by omega), ← List.drop_drop, HM.out.2.2, List.drop_drop]
            · exact (grownBy_trans (grownBy_trans (grownBy_trans hg (World.grownBy_alloc _ _ _)) (hb2.grownBy _)) s2).size
          case measure => simp [intOf]; omega
        · have hO2 := (hM'.out.kept ((Kept.refl _).alloc _)).kept hb2
          go_roundw
          case rel =>
            refine ⟨a, b + 1, M, rfl, by go_num, by omega, by omega, hO2, ⟨HM.out.1, ?_, ?_⟩, grownBy_trans (grownBy_trans hg (World.grownBy_alloc _ _ _)) (hb2.grownBy _), ?_⟩
            · have hfb : (!f L[b]) = false := by assumption
              rw [HM.out.2.1, HN.out, if_neg (by rw [hfb]; simp), List.append_nil]
            · rw [← List.drop_drop, HM.out.2.2, List.drop_drop]
            · exact (grownBy_trans (grownBy_trans hg (World.grownBy_alloc _ _ _)) (hb2.grownBy _)).size
          case measure => simp [intOf]; omega
      · have e : b = L.length := by omega
        subst e
        have hMr : wr.ownsRow base 93 2 (.slice (some ⟨g, 0, none⟩) L.length cap) L.length (plCells M) := by unfold OwnsPls at hM; rwa [hMl] at hM
        obtain ⟨w', hcl, hg', ho'⟩ := run_clear_pls wr base g cap L.length a (plCells M) hMr (by omega)
        have HE : Hid (L.filter (fun s => !f s) = M.take a) := by rw [Hid, HM.out.2.1, List.take_length]
        have HA : Hid ((M.take a).length = a) := by rw [Hid, List.length_take]; omega
        clear hMl hMr
        go_wp2
        go_ret
        refine ⟨_, rfl, ?_, grownBy_trans hg hg', fun k h => h⟩
        rw [HE.out]
        unfold OwnsPls
        rw [HA.out, ← plCells_take]
        exact ho'
end Go.Proofs.Ytkjciobphbcknaa
