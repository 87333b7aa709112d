/- The laws of package peg: the examples' answers. -/
import Derived.Test.YtkjciobphbcknaaAM
namespace Go.Proofs.Ytkjciobphbcknaa
open Go.RowKit

def sampleLs : List Len := [⟨0, 1, 7, 7⟩, ⟨0, 2, 3, 3⟩, ⟨1, 2, 7, 8⟩]
def samplePs : List Post := [⟨0, 0, 0, 0⟩, ⟨4, 5, 0, 0⟩, ⟨0, 0, 3, 3⟩]
def sampleD (set : Nat) : PegsD := ⟨12, samplePs, partL set sampleLs⟩

set_option maxRecDepth 100000 in
set_option maxHeartbeats 4000000 in
theorem sample_any (set : Nat) (w : World) (hset : set < 64) :
    Calls Try.prog 27 #[.int .i64 set] w fun e w' => ∃ pa la lc, e = .returned (.agg #[.int .i64 12, .slice pa 3 3, .slice la (sampleD set).ls.length lc]) ∧ PegsIn w' (sampleD set) pa la ∧ Kept w w' := by
  go_enter Try.func27, Try.ntmps27
  go_wp2_with (first
    | (go_at_call 69; have hbx := hb2; refine (postL_any _ _ _ _ _).mono ?_; rintro e w3 ⟨rfl, hb3⟩)
    | (go_at_call 69; have hbx := hb1; refine (postL_any _ _ _ _ _).mono ?_; rintro e w2 ⟨rfl, hb2⟩)
    | (go_at_call 69; refine (postL_any _ _ _ _ _).mono ?_; rintro e w1 ⟨rfl, hb1⟩)
    | (go_at_call 28; refine (spanL_any _ _ _).mono ?_; rintro e w4 ⟨rfl, rfl⟩))
  have k3 : Kept w w3 := ((Kept.step1 (Kept.refl _) hb1).step0 hb2).step0 hb3
  refine (part_any 12 (.slice (some ⟨w3.heap.size, 0, none⟩) 3 3) (some ⟨w3.heap.size + 1 + 1 + 1 + 1, 0, none⟩) 3 sampleLs set _ hset (by simp [sampleLs]) ?_ ⟨_, _, _, rfl⟩).mono ?_
  · intro i l hi
    refine ⟨w3.heap.size + 1 + 1 + 1 + 1, 0, rfl, by simp, ?_⟩
    match i, hi with
    | 0, hi => simp [sampleLs] at hi; subst hi; simp [go_sem]
    | 1, hi => simp [sampleLs] at hi; subst hi; simp [go_sem]
    | 2, hi => simp [sampleLs] at hi; subst hi; simp [go_sem]
    | n + 3, hi => simp [sampleLs] at hi
  rintro e w5 ⟨la, lc, rfl, hls, hfar, hb5⟩
  have hps : PostsIn w5 (some ⟨w3.heap.size, 0, none⟩) samplePs := by
    refine PostsIn.kept ?_ hb5
    intro i l hi
    refine ⟨w3.heap.size, 0, rfl, by simp; omega, ?_⟩
    match i, hi with
    | 0, hi => simp [samplePs] at hi; subst hi; simp [go_sem]
    | 1, hi => simp [samplePs] at hi; subst hi; simp [go_sem]
    | 2, hi => simp [samplePs] at hi; subst hi; simp [go_sem]
    | n + 3, hi => simp [samplePs] at hi
  have k5 : Kept (w.alloc (Obj.cells #[.int .i64 0, .slice none 0 0, .slice none 0 0] 25)) w5 := ((((((((((Kept.step0 (Kept.refl _) hb1).step0 hb2).step0 hb3).alloc _).alloc _).alloc _).alloc _).alloc _).alloc _)).step0 hb5
  have d0 : w5.cell? ⟨w.heap.size, 0, none⟩ = some (.int .i64 0) := by rw [k5.cells _ _ (by simp)]; simp [go_sem]
  have d1 : w5.cell? ⟨w.heap.size, 1, none⟩ = some (.slice none 0 0) := by rw [k5.cells _ _ (by simp)]; simp [go_sem]
  have d2 : w5.cell? ⟨w.heap.size, 2, none⟩ = some (.slice none 0 0) := by rw [k5.cells _ _ (by simp)]; simp [go_sem]
  have z0 : w5.frozen? ⟨w.heap.size, 0, none⟩ = false := by rw [k5.frozens _ _ (by simp)]; simp [go_sem]
  have z1 : w5.frozen? ⟨w.heap.size, 1, none⟩ = false := by rw [k5.frozens _ _ (by simp)]; simp [go_sem]
  have z2 : w5.frozen? ⟨w.heap.size, 2, none⟩ = false := by rw [k5.frozens _ _ (by simp)]; simp [go_sem]
  have HPS := Lib.hid hps
  have HLS := Lib.hid hls
  have HK := Lib.hid (Kept.step1 (Kept.refl w) k5)
  have hw3 : w.heap.size < w3.heap.size := Kept.lt (((Kept.refl _).step0 hb1).step0 hb2 |>.step0 hb3) (by simp)
  clear hps hls hb1 hb2 hb3 hb5 k5 k3
  go_wp2
  refine bodyPost_ret (v := .agg #[.int .i64 12, .slice (some ⟨w3.heap.size, 0, none⟩) 3 3, .slice la (partL set sampleLs).length lc]) (by simp [results, Try.results27, go_sem, d0, d1, d2]) rfl ?_
  have kT : KeptT (fun q => q = w.heap.size) w5 (((w5.setCell ⟨w.heap.size, 0, none⟩ (.int .i64 12)).setCell ⟨w.heap.size, 1, none⟩ (.slice (some ⟨w3.heap.size, 0, none⟩) 3 3)).setCell ⟨w.heap.size, 2, none⟩ (.slice la (partL set sampleLs).length lc)) :=
    ((keptT_setCell _ _ _ _).trans (keptT_setCell _ _ _ _)).trans (keptT_setCell _ _ _ _)
  refine ⟨_, la, lc, rfl, ⟨?_, HLS.out.keptT kT (fun a e _ => by have := hfar a e; simp at this; omega)⟩, ((HK.out.setCell (p := ⟨w.heap.size, 0, none⟩) (by simp) _).setCell (p := ⟨w.heap.size, 1, none⟩) (by simp) _).setCell (p := ⟨w.heap.size, 2, none⟩) (by simp) _⟩
  intro i q hi
  obtain ⟨b, o, e, hl, h1, h2, h3, h4⟩ := HPS.out i q hi
  cases e
  have hne : ¬ w3.heap.size = w.heap.size := by omega
  exact ⟨w3.heap.size, 0, rfl, Nat.lt_of_lt_of_le hl kT.size, (kT.cells _ _ hl hne).trans h1, (kT.cells _ _ hl hne).trans h2, (kT.cells _ _ hl hne).trans h3, (kT.cells _ _ hl hne).trans h4⟩
end Go.Proofs.Ytkjciobphbcknaa
namespace Go.Proofs.Ytkjciobphbcknaa
open Go.RowKit

theorem s7_moved : movedR (sampleD 7) = .ok (7, 2, false) := by kernel_rfl
theorem s7_where1 : whereR (sampleD 7) 1 = .ok ((7, 7), (0, 0)) := by kernel_rfl
theorem s7_apart : apartR (sampleD 7) 1 2 = .ok (58, 58) := by kernel_rfl
theorem s7_area : areaR (sampleD 7) 0 1 2 = .ok (21, 21) := by kernel_rfl
theorem s7_back : backR (sampleD 7) 1 = .ok (4, 4) := by kernel_rfl
theorem s7_proof : proofR (sampleD 7) 1 = .ok 3 := by kernel_rfl
theorem s2_moved : movedR (sampleD 2) = .ok (7, 7, true) := by kernel_rfl
theorem s7_where2 : whereR (sampleD 7) 2 = .ok ((0, 0), (3, 3)) := by kernel_rfl
theorem s7_places : placesR (sampleD 7) 1 = .ok 1 := by kernel_rfl
set_option maxRecDepth 1000000 in
theorem s0_places : placesR (sampleD 0) 1 = .ok 169 := by kernel_rfl
theorem s7_back0 : backR (sampleD 7) 0 = .error 11 := by kernel_rfl
theorem s7_proof0 : proofR (sampleD 7) 0 = .error 4 := by kernel_rfl
theorem s2_proof : proofR (sampleD 2) 1 = .error 4 := by kernel_rfl
end Go.Proofs.Ytkjciobphbcknaa
