/- Package peg: which pegs are valid. -/
import Derived.Test.YtkjciobphbcknaaA
namespace Go.Proofs.Ytkjciobphbcknaa
open Go.RowKit

def lensB (n : Nat) (ls : List Len) : Bool := ls.all (lenB n)

theorem all_snoc {α : Type} (p : α → Bool) (l : List α) (k : Nat) (h : k < l.length) : (l.take (k + 1)).all p = ((l.take k).all p && p l[k]) := by
  rw [List.take_succ_eq_append_getElem h, List.all_append]; simp
theorem all_false {α : Type} (p : α → Bool) (l : List α) (k : Nat) (h : k < l.length) (hp : p l[k] = false) : l.all p = false := by
  rw [List.all_eq_false]; exact ⟨l[k], List.getElem_mem h, by simp [hp]⟩
theorem ret_bool {a b : Bool} (h : a = b) : Ending.returned (.bool a) = .returned (.bool b) := by rw [h]
theorem ret_int {k : IntKind} {a b : Int} (h : a = b) : Ending.returned (.int k a) = .returned (.int k b) := by rw [h]

set_option maxHeartbeats 1000000 in
theorem valid_loops (side : Int) (pa la : Option Addr) (pc lc : Nat) (ps : List Post) (ls : List Len) (w : World) (hpl : ps.length ≤ 4) (hll : ls.length ≤ 6) (hs : 0 ≤ side) (hs2 : side ≤ 15)
   (hps : PostsIn w pa ps) (hls : LensIn w la ls) :
    Calls Try.prog 77 #[.agg #[.int .i64 side, .slice pa ps.length pc, .slice la ls.length lc]] w fun e w' => e = .returned (.bool (ps.all (postB side) && lensB ps.length ls)) ∧ Kept w w' := by
  have h0 : ¬ side < 0 := by omega
  have h1 : ¬ 15 < side := by omega
  have h2 : decide ((4 : Int) < (ps.length : Int)) = false := by simp; omega
  have h3 : decide ((6 : Int) < (ls.length : Int)) = false := by simp; omega
  have HP := Lib.hid hps
  have HL := Lib.hid hls
  clear hps hls
  go_enter Try.func77, Try.ntmps77
  go_wp2
  go_loopw [4, 30] (fun _ i wr => ∃ k : Nat, k ≤ ps.length ∧ i = .int .i64 k ∧ Kept (w.alloc (Obj.cells #[Value.int IntKind.i64 side, Value.slice pa ps.length pc, Value.slice la ls.length lc] 25)) wr ∧ Hid ((ps.take k).all (postB side) = true)) (fun _ i _ => ps.length - (intOf i).toNat)
  case atStart => exact ⟨0, Nat.zero_le _, rfl, Kept.refl _, rfl⟩
  case round =>
    obtain ⟨k, hk, rfl, hB, hall⟩ := hrel
    have hc := hB.cells
    have hsz : w.heap.size < wr.heap.size := hB.lt (by simp)
    by_cases hlt : k < ps.length
    · obtain ⟨b, o, rfl, hbs, c1, c2, c3, c4⟩ := HP.out k (ps[k]) (by simp)
      have hbs2 : b < wr.heap.size := by omega
      have HF : narrowB ps[k].xlo ps[k].xhi side = false ∨ narrowB ps[k].ylo ps[k].yhi side = false → Hid ((ps.all (postB side) && lensB ps.length ls) = false) := fun h => by
        rw [Hid, all_false _ ps k hlt (by rcases h with h | h <;> simp [postB, h]), Bool.false_and]
      have HT : narrowB ps[k].xlo ps[k].xhi side = true → narrowB ps[k].ylo ps[k].yhi side = true → Hid ((ps.take (k + 1)).all (postB side) = true) := fun a b => by
        rw [Hid, all_snoc _ _ _ hlt, hall.out]; simp [postB, a, b]
      clear hall
      go_wp2_with (go_at_call 88; refine (narrow_any _ _ _ _ (by omega)).mono ?_; rintro e w1 ⟨rfl, hb1⟩; have hc1 := hb1.cells; have hl1 := hb1.lts; (first | replace hB := Kept.step0 hB hb1 | replace hB := Kept.step1 hB hb1))
      · go_ret
        exact ⟨ret_bool (HF (.inr (by simpa using ‹(!_) = true›))).out.symm, hB.off _ _⟩
      · go_roundw
        case rel => exact ⟨k + 1, by omega, by go_num, hB, HT ‹_› (by simpa using ‹(!_) = false›)⟩
        case measure => simp [intOf]; omega
      · go_ret
        exact ⟨ret_bool (HF (.inl (Bool.eq_false_iff.2 ‹¬ _›))).out.symm, hB.off _ _⟩
    · have e : k = ps.length := by omega
      subst e
      have HT : Hid (ps.all (postB side) = true) := by rw [Hid, ← hall.out, List.take_length]
      clear hall
      go_wp2
      go_loopw [6, 52] (fun _ i wr => ∃ k : Nat, k ≤ ls.length ∧ i = .int .i64 k ∧ Kept (w.alloc (Obj.cells #[Value.int IntKind.i64 side, Value.slice pa ps.length pc, Value.slice la ls.length lc] 25)) wr ∧ Hid ((ls.take k).all (lenB ps.length) = true)) (fun _ i _ => ls.length - (intOf i).toNat)
      case atStart => exact ⟨0, Nat.zero_le _, rfl, hB, rfl⟩
      case round =>
        clear hB hc hsz
        obtain ⟨k, hk, rfl, hB, hall⟩ := hrel
        have hc := hB.cells
        have hsz : w.heap.size < wr.heap.size := hB.lt (by simp)
        by_cases hlt : k < ls.length
        · obtain ⟨b, o, rfl, hbs, c1, c2, c3, c4⟩ := HL.out k (ls[k]) (by simp)
          have hbs2 : b < wr.heap.size := by omega
          have HF : lenB ps.length ls[k] = false → Hid ((ps.all (postB side) && lensB ps.length ls) = false) := fun h => by
            rw [Hid, show lensB ps.length ls = false from all_false _ ls k hlt h, Bool.and_false]
          have HT2 : lenB ps.length ls[k] = true → Hid ((ls.take (k + 1)).all (lenB ps.length) = true) := fun a => by
            rw [Hid, all_snoc _ _ _ hlt, hall.out, a]; rfl
          have HL2 : Hid (lenB ps.length ls[k] = (isPegB ps.length ls[k].a && isPegB ps.length ls[k].b && !decide (ls[k].a = ls[k].b) && withinB ls[k].lo ls[k].hi 30)) := rfl
          clear hall
          go_wp2_with (first
            | (go_at_call 78; refine (isPeg_any _ _ _ _ _ _ _ _ _).mono ?_; rintro e w1 ⟨rfl, hb1⟩; have hc1 := hb1.cells; have hl1 := hb1.lts; (first | replace hB := Kept.step0 hB hb1 | replace hB := Kept.step1 hB hb1))
            | (go_at_call 89; refine (within_any _ _ _ _).mono ?_; rintro e w1 ⟨rfl, hb1⟩; have hc1 := hb1.cells; have hl1 := hb1.lts; (first | replace hB := Kept.step0 hB hb1 | replace hB := Kept.step1 hB hb1)))
          case roundEnd =>
            go_roundw
            case rel => exact ⟨k + 1, by omega, by go_num, hB, HT2 (by rw [HL2.out]; simp_all)⟩
            case measure => simp [intOf]; omega
          all_goals
            go_ret
            exact ⟨ret_bool (HF (by rw [HL2.out]; simp_all)).out.symm, hB.off _ _⟩
        · have e : k = ls.length := by omega
          subst e
          have HT2 : Hid (ls.all (lenB ps.length) = true) := by rw [Hid, ← hall.out, List.take_length]
          clear hall
          go_wp2
          go_ret
          exact ⟨ret_bool (by rw [HT.out, lensB, HT2.out]; rfl), hB.off _ _⟩
end Go.Proofs.Ytkjciobphbcknaa
