/- The document's answers: which pegs are valid. -/
import Derived.Test.YtkjciobphbcknaaC
import Derived.RegionTactic
import Derived.ChangeAlike
namespace Go.Proofs.Ytkjciobphbcknaa
open Go.RowKit

def inB (n lo hi : Int) : Bool := decide (lo ≤ n) && decide (n ≤ hi)
set_option maxHeartbeats 400000 in
theorem rin_any (n lo hi : Int) (w : World) : Calls Try.prog 73 #[.int .i64 n, .int .i64 lo, .int .i64 hi] w fun e w' => e = .returned (.bool (inB n lo hi)) ∧ w' = w := by
  by_cases h1 : lo ≤ n <;> by_cases h2 : n ≤ hi <;> go_enter Try.func73, Try.ntmps73 <;> go_wp2
  all_goals
    go_ret
    exact ⟨by simp [inB, *], rfl⟩
set_option maxHeartbeats 400000 in
theorem rspan_any (a b lo hi : Int) (w : World) : Calls Try.prog 74 #[.agg #[.int .i64 a, .int .i64 b], .int .i64 lo, .int .i64 hi] w fun e w' => e = .returned (.bool (decide (lo ≤ a) && decide (a ≤ b) && decide (b ≤ hi))) ∧ Kept w w' := by
  by_cases h1 : lo ≤ a <;> by_cases h2 : a ≤ b <;> by_cases h3 : b ≤ hi <;> go_enter Try.func74, Try.ntmps74 <;> go_wp2
  all_goals
    go_ret
    exact ⟨by simp [*], (Kept.refl _).alloc _⟩
theorem rspan0_any (a b hi : Int) (w : World) : Calls Try.prog 74 #[.agg #[.int .i64 a, .int .i64 b], .int .i64 0, .int .i64 hi] w fun e w' => e = .returned (.bool (withinB a b hi)) ∧ Kept w w' := rspan_any a b 0 hi w
set_option maxHeartbeats 400000 in
theorem rPeg_any (side i : Int) (pa la : Option Addr) (pl pc ll lc : Nat) (w : World) (hm : pl ≤ 9223372036854775807) :
    Calls Try.prog 36 #[.agg #[.int .i64 side, .slice pa pl pc, .slice la ll lc], .int .i64 i] w fun e w' => e = .returned (.bool (isPegB pl i)) ∧ Kept w w' := by
  have HE : Hid (inB i 0 ((pl : Int) - 1) = isPegB pl i) := by
    simp only [Hid, inB, isPegB]
    congr 1
    rw [decide_eq_decide]; omega
  have h1 : (-9223372036854775808 : Int) ≤ (pl : Int) - 1 := by omega
  have h2 : (pl : Int) - 1 ≤ 9223372036854775807 := by omega
  go_enter Try.func36, Try.ntmps36
  go_wp2_with (go_at_call 73; refine (rin_any _ _ _ _).mono ?_; rintro e w1 ⟨rfl, rfl⟩)
  go_ret
  exact ⟨by rw [HE.out]; rfl, (Kept.refl _).alloc _⟩
end Go.Proofs.Ytkjciobphbcknaa
namespace Go.Proofs.Ytkjciobphbcknaa
open Go.RowKit

theorem kept2 {wr w1 : World} {a b : Obj} (hb1 : Kept (((wr.alloc a).alloc b).drew) w1) : wr.heap.size < w1.heap.size ∧ wr.heap.size + 1 < w1.heap.size := by
  have hs1 := Kept.size hb1
  simp at hs1
  omega
set_option maxHeartbeats 4000000 in
theorem rvalid_loops (side : Int) (pa la : Option Addr) (pc lc : Nat) (ps : List Post) (ls : List Len) (w : World) (hpl : ps.length ≤ 4) (hll : ls.length ≤ 6) (hs : 0 ≤ side) (hs2 : side ≤ 15)
   (hps : PostsIn w pa ps) (hls : LensIn w la ls) :
    Calls Try.prog 35 #[.agg #[.int .i64 side, .slice pa ps.length pc, .slice la ls.length lc]] w fun e w' => e = .returned (.bool (ps.all (postB side) && lensB ps.length ls)) ∧ Kept w w' := by
  have h0 : inB side 0 15 = true := by simp [inB]; omega
  have h2 : decide ((4 : Int) < (ps.length : Int)) = false := by simp; omega
  have h3 : decide ((6 : Int) < (ls.length : Int)) = false := by simp; omega
  have HP := Lib.hid hps
  have HL := Lib.hid hls
  have H0 := Lib.hid h0
  clear hps hls h0
  go_enter Try.func35, Try.ntmps35
  go_wp2_with (go_at_call 73; refine (rin_any _ _ _ _).mono ?_; rintro e w1 ⟨rfl, rfl⟩; rw [H0.out])
  go_loopw [3, 4, 5] (fun i _ _ wr => ∃ k : Nat, k ≤ ps.length ∧ i = .int .i64 k ∧ Kept (w.alloc (Obj.cells #[Value.int IntKind.i64 side, Value.slice pa ps.length pc, Value.slice la ls.length lc] 25)) wr ∧ Hid ((ps.take k).all (postB side) = true)) (fun i _ _ _ => ps.length - (intOf i).toNat)
  case atStart => exact ⟨0, Nat.zero_le _, rfl, Kept.refl _, rfl⟩
  case round =>
    obtain ⟨k, hk, rfl, hB, hall⟩ := hrel
    have hc := hB.cells
    have hsz : w.heap.size < wr.heap.size := hB.lt (by simp)
    by_cases hlt : k < ps.length
    · obtain ⟨b, o, rfl, hbs, c1, c2, c3, c4⟩ := HP.out k (ps[k]) (by simp)
      have hbs2 : b < wr.heap.size := by omega
      have d1 : wr.cell? ⟨b, o + k * 4, none⟩ = some (.int .i64 ps[k].xlo) := by rw [hB.cells _ _ (by simp; omega), World.cell?_alloc_lt _ _ _ (by simp; omega)]; exact c1
      have d2 : wr.cell? ⟨b, o + k * 4 + 1, none⟩ = some (.int .i64 ps[k].xhi) := by rw [hB.cells _ _ (by simp; omega), World.cell?_alloc_lt _ _ _ (by simp; omega)]; exact c2
      have d3 : wr.cell? ⟨b, o + k * 4 + 2, none⟩ = some (.int .i64 ps[k].ylo) := by rw [hB.cells _ _ (by simp; omega), World.cell?_alloc_lt _ _ _ (by simp; omega)]; exact c3
      have d4 : wr.cell? ⟨b, o + k * 4 + 3, none⟩ = some (.int .i64 ps[k].yhi) := by rw [hB.cells _ _ (by simp; omega), World.cell?_alloc_lt _ _ _ (by simp; omega)]; exact c4
      have b0 : wr.cell? ⟨w.heap.size, 0, none⟩ = some (.int .i64 side) := by rw [hB.cells _ _ (by simp)]; simp [go_sem]
      have b1 : wr.cell? ⟨w.heap.size, 1, none⟩ = some (.slice (some ⟨b, o, none⟩) ps.length pc) := by rw [hB.cells _ _ (by simp)]; simp [go_sem]
      have HF : postB side ps[k] = false → Hid ((ps.all (postB side) && lensB ps.length ls) = false) := fun h => by
        rw [Hid, all_false _ ps k hlt h, Bool.false_and]
      have HT : postB side ps[k] = true → Hid ((ps.take (k + 1)).all (postB side) = true) := fun a => by
        rw [Hid, all_snoc _ _ _ hlt, hall.out, a]; rfl
      have HPB : Hid (postB side ps[k] = (withinB ps[k].xlo ps[k].xhi side && decide (ps[k].xhi - ps[k].xlo ≤ 2) && (withinB ps[k].ylo ps[k].yhi side && decide (ps[k].yhi - ps[k].ylo ≤ 2)))) := rfl
      clear hall hc c1 c2 c3 c4
      have hsz1 : w.heap.size < wr.heap.size + 1 := by omega
      have hsz2 : w.heap.size < wr.heap.size + 1 + 1 := by omega
      generalize ps[k].xlo = xlo at *
      generalize ps[k].xhi = xhi at *
      generalize ps[k].ylo = ylo at *
      generalize ps[k].yhi = yhi at *
      cases hx : withinB xlo xhi side with
      | false =>
        have HX := Lib.hid hx
        have HF := HF (by rw [HPB.out, hx]; rfl)
        clear hx
        go_wp2_with fail
        go_region
        all_goals
          go_wp2_with (go_at_call 74; refine (rspan0_any _ _ _ _).mono ?_; rintro e w1 ⟨rfl, hb1⟩; have hc1 := hb1.cells; obtain ⟨q1, q2⟩ := kept2 hb1; have q3 := Nat.lt_trans hsz q1; rw [HX.out])
          go_ret
          exact ⟨by rw [HF.out]; rfl, Kept.off _ _ ((((hB.alloc _).alloc _).drew).step0 hb1)⟩
      | true =>
        obtain ⟨x1, x2, x3⟩ := withinB_true hx
        cases hy : withinB ylo yhi side with
        | false =>
          have HX := Lib.hid hx
          have HY := Lib.hid hy
          have HF := HF (by rw [HPB.out, hx, hy]; simp)
          clear hx hy
          go_wp2_with fail
          go_region
          all_goals
            go_wp2_with (first
              | (go_at_call 74; have hbb := hb1; refine (rspan0_any _ _ _ _).mono ?_; rintro e w2 ⟨rfl, hb2⟩; have hc2 := hb2.cells; rw [HY.out])
              | (go_at_call 74; refine (rspan0_any _ _ _ _).mono ?_; rintro e w1 ⟨rfl, hb1⟩; have hc1 := hb1.cells; obtain ⟨q1, q2⟩ := kept2 hb1; have q3 := Nat.lt_trans hsz q1; rw [HX.out]))
            go_ret
            exact ⟨by rw [HF.out]; rfl, Kept.off _ _ (((((hB.alloc _).alloc _).drew).step0 hb1).step0 hb2)⟩
        | true =>
          obtain ⟨y1, y2, y3⟩ := withinB_true hy
          have HX := Lib.hid hx
          have HY := Lib.hid hy
          by_cases hxd : xhi - xlo ≤ 2
          · have hxd' : decide (2 < xhi - xlo) = false := by simp; omega
            by_cases hyd : yhi - ylo ≤ 2
            · have hyd' : decide (2 < yhi - ylo) = false := by simp; omega
              have HT := HT (by rw [HPB.out, hx, hy]; simp [hxd, hyd])
              clear hx hy
              go_wp2_with fail
              go_region
              all_goals
                go_wp2_with (first
                  | (go_at_call 74; have hbb := hb1; refine (rspan0_any _ _ _ _).mono ?_; rintro e w2 ⟨rfl, hb2⟩; have hc2 := hb2.cells; rw [HY.out])
                  | (go_at_call 74; refine (rspan0_any _ _ _ _).mono ?_; rintro e w1 ⟨rfl, hb1⟩; have hc1 := hb1.cells; obtain ⟨q1, q2⟩ := kept2 hb1; have q3 := Nat.lt_trans hsz q1; rw [HX.out]))
                go_roundw
                case rel => exact ⟨k + 1, by omega, by go_num, (((((hB.alloc _).alloc _).drew).step0 hb1).step0 hb2), HT⟩
                case measure => simp [intOf]; omega
            · have hyd' : decide (2 < yhi - ylo) = true := by simp; omega
              have HF := HF (by rw [HPB.out, hx, hy]; simp [hyd])
              clear hx hy
              go_wp2_with fail
              go_region
              all_goals
                go_wp2_with (first
                  | (go_at_call 74; have hbb := hb1; refine (rspan0_any _ _ _ _).mono ?_; rintro e w2 ⟨rfl, hb2⟩; have hc2 := hb2.cells; rw [HY.out])
                  | (go_at_call 74; refine (rspan0_any _ _ _ _).mono ?_; rintro e w1 ⟨rfl, hb1⟩; have hc1 := hb1.cells; obtain ⟨q1, q2⟩ := kept2 hb1; have q3 := Nat.lt_trans hsz q1; rw [HX.out]))
                go_ret
                exact ⟨by rw [HF.out]; rfl, Kept.off _ _ (((((hB.alloc _).alloc _).drew).step0 hb1).step0 hb2)⟩
          · have hxd' : decide (2 < xhi - xlo) = true := by simp; omega
            have HF := HF (by rw [HPB.out, hx, hy]; simp [hxd])
            clear hx hy
            go_wp2_with fail
            go_region
            all_goals
              go_wp2_with (first
                | (go_at_call 74; have hbb := hb1; refine (rspan0_any _ _ _ _).mono ?_; rintro e w2 ⟨rfl, hb2⟩; have hc2 := hb2.cells; rw [HY.out])
                | (go_at_call 74; refine (rspan0_any _ _ _ _).mono ?_; rintro e w1 ⟨rfl, hb1⟩; have hc1 := hb1.cells; obtain ⟨q1, q2⟩ := kept2 hb1; have q3 := Nat.lt_trans hsz q1; rw [HX.out]))
              go_ret
              exact ⟨by rw [HF.out]; rfl, Kept.off _ _ (((((hB.alloc _).alloc _).drew).step0 hb1).step0 hb2)⟩
    · have e : k = ps.length := by omega
      subst e
      have HT : Hid (ps.all (postB side) = true) := by rw [Hid, ← hall.out, List.take_length]
      clear hall
      have b0 : wr.cell? ⟨w.heap.size, 0, none⟩ = some (.int .i64 side) := by rw [hB.cells _ _ (by simp)]; simp [go_sem]
      have b1 : wr.cell? ⟨w.heap.size, 1, none⟩ = some (.slice pa ps.length pc) := by rw [hB.cells _ _ (by simp)]; simp [go_sem]
      have b2 : wr.cell? ⟨w.heap.size, 2, none⟩ = some (.slice la ls.length lc) := by rw [hB.cells _ _ (by simp)]; simp [go_sem]
      go_wp2
      go_loopw [6, 7] (fun i _ wr => ∃ k : Nat, k ≤ ls.length ∧ i = .int .i64 k ∧ Kept (w.alloc (Obj.cells #[Value.int IntKind.i64 side, Value.slice pa ps.length pc, Value.slice la ls.length lc] 25)) wr ∧ Hid ((ls.take k).all (lenB ps.length) = true)) (fun i _ _ => ls.length - (intOf i).toNat)
      case atStart => exact ⟨0, Nat.zero_le _, rfl, hB, rfl⟩
      case round =>
        clear hB hc hsz b0 b1 b2
        obtain ⟨k, hk, rfl, hB, hall⟩ := hrel
        have hsz : w.heap.size < wr.heap.size := hB.lt (by simp)
        have b0 : wr.cell? ⟨w.heap.size, 0, none⟩ = some (.int .i64 side) := by rw [hB.cells _ _ (by simp)]; simp [go_sem]
        have b1 : wr.cell? ⟨w.heap.size, 1, none⟩ = some (.slice pa ps.length pc) := by rw [hB.cells _ _ (by simp)]; simp [go_sem]
        have b2 : wr.cell? ⟨w.heap.size, 2, none⟩ = some (.slice la ls.length lc) := by rw [hB.cells _ _ (by simp)]; simp [go_sem]
        by_cases hlt : k < ls.length
        · obtain ⟨b, o, rfl, hbs, c1, c2, c3, c4⟩ := HL.out k (ls[k]) (by simp)
          have hbs2 : b < wr.heap.size := by omega
          have d1 : wr.cell? ⟨b, o + k * 4, none⟩ = some (.int .i64 ls[k].a) := by rw [hB.cells _ _ (by simp; omega), World.cell?_alloc_lt _ _ _ (by simp; omega)]; exact c1
          have d2 : wr.cell? ⟨b, o + k * 4 + 1, none⟩ = some (.int .i64 ls[k].b) := by rw [hB.cells _ _ (by simp; omega), World.cell?_alloc_lt _ _ _ (by simp; omega)]; exact c2
          have d3 : wr.cell? ⟨b, o + k * 4 + 2, none⟩ = some (.int .i64 ls[k].lo) := by rw [hB.cells _ _ (by simp; omega), World.cell?_alloc_lt _ _ _ (by simp; omega)]; exact c3
          have d4 : wr.cell? ⟨b, o + k * 4 + 3, none⟩ = some (.int .i64 ls[k].hi) := by rw [hB.cells _ _ (by simp; omega), World.cell?_alloc_lt _ _ _ (by simp; omega)]; exact c4
          have HF : lenB ps.length ls[k] = false → Hid ((ps.all (postB side) && lensB ps.length ls) = false) := fun h => by
            rw [Hid, show lensB ps.length ls = false from all_false _ ls k hlt h, Bool.and_false]
          have HT2 : lenB ps.length ls[k] = true → Hid ((ls.take (k + 1)).all (lenB ps.length) = true) := fun a => by
            rw [Hid, all_snoc _ _ _ hlt, hall.out, a]; rfl
          have HL2 : Hid (lenB ps.length ls[k] = (isPegB ps.length ls[k].a && isPegB ps.length ls[k].b && !decide (ls[k].a = ls[k].b) && withinB ls[k].lo ls[k].hi 30)) := rfl
          have hpm : ps.length ≤ 9223372036854775807 := by omega
          clear hall c1 c2 c3 c4
          go_wp2_with (first
            | (go_at_call 36; refine (rPeg_any _ _ _ _ _ _ _ _ _ hpm).mono ?_; rintro e w1 ⟨rfl, hb1⟩; have hc1 := hb1.cells; have hl1 := hb1.lts; (first | replace hB := Kept.step0 hB hb1 | replace hB := Kept.step1 hB hb1))
            | (go_at_call 74; refine (rspan0_any _ _ _ _).mono ?_; rintro e w1 ⟨rfl, hb1⟩; have hc1 := hb1.cells; have hl1 := hb1.lts; (first | replace hB := Kept.step0 hB hb1 | replace hB := Kept.step1 hB hb1)))
          case roundEnd =>
            go_roundw
            case rel => exact ⟨k + 1, by omega, by go_num, hB, HT2 (by rw [HL2.out]; simp_all)⟩
            case measure => simp [intOf]; omega
          all_goals
            go_ret
            exact ⟨ret_bool (HF (by rw [HL2.out]; simp_all)).out.symm, hB.off _ _⟩
        · have e : k = ls.length := by omega
          subst e
          have HT2 : Hid (ls.all (lenB ps.length) = true) := by rw [Hid, ← hall.out, List.take_length]
          clear hall
          go_wp2
          go_ret
          exact ⟨ret_bool (by rw [HT.out, lensB, HT2.out]; rfl), hB.off _ _⟩
end Go.Proofs.Ytkjciobphbcknaa
