/- The laws of package peg: the examples' answers. -/
import Derived.Test.YtkjciobphbcknaaAN
namespace Go.Proofs.Ytkjciobphbcknaa
open Go.RowKit

theorem s7_moved : movedR (sampleD 7) = .ok (7, 2, false) := by kernel_rfl
theorem s7_where1 : whereR (sampleD 7) 1 = .ok ((7, 7), (0, 0)) := by kernel_rfl
theorem s7_apart : apartR (sampleD 7) 1 2 = .ok (58, 58) := by kernel_rfl
theorem s7_area : areaR (sampleD 7) 0 1 2 = .ok (21, 21) := by kernel_rfl
theorem s7_back : backR (sampleD 7) 1 = .ok (4, 4) := by kernel_rfl
theorem s7_proof : proofR (sampleD 7) 1 = .ok 3 := by kernel_rfl
theorem s2_moved : movedR (sampleD 2) = .ok (7, 7, true) := by kernel_rfl
theorem s7_where2 : whereR (sampleD 7) 2 = .ok ((0, 0), (3, 3)) := by kernel_rfl
theorem s7_places : placesR (sampleD 7) 1 = .ok 1 := by kernel_rfl
set_option maxRecDepth 1000000 in
theorem s0_places : placesR (sampleD 0) 1 = .ok 169 := by kernel_rfl
theorem s7_back0 : backR (sampleD 7) 0 = .error 11 := by kernel_rfl
theorem s7_proof0 : proofR (sampleD 7) 0 = .error 4 := by kernel_rfl
theorem s2_proof : proofR (sampleD 2) 1 = .error 4 := by kernel_rfl
end Go.Proofs.Ytkjciobphbcknaa
