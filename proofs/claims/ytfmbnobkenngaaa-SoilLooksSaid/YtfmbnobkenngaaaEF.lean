/- Facts on the types and functions of this program, each read off its tables. -/
import Derived.Test.YtfmbnobkenngaaaEL
import Derived.Test.YtfmbnobkenngaaaProg
namespace Go.Proofs.Ytfmbnobkenngaaa.En
open Go.RowKit
theorem kd3 : kindB Try.prog 3 = some false := by kernel_rfl
theorem sz3 : sizeB Try.prog 3 = some 1 := by kernel_rfl
theorem zr3 : zeroB Try.prog 3 = some [.int .i64 0] := by kernel_rfl
theorem kd4 : kindB Try.prog 4 = some false := by kernel_rfl
theorem sz4 : sizeB Try.prog 4 = some 1 := by kernel_rfl
theorem kd22 : kindB Try.prog 22 = some false := by kernel_rfl
theorem sz22 : sizeB Try.prog 22 = some 1 := by kernel_rfl
theorem sl22 : sliceB Try.prog 22 = true := by kernel_rfl
theorem el22 : elemB Try.prog 22 = some 9 := by kernel_rfl
theorem kd24 : kindB Try.prog 24 = some true := by kernel_rfl
theorem sz24 : sizeB Try.prog 24 = some 4 := by kernel_rfl
theorem zr24 : zeroB Try.prog 24 = some [.int .i64 0, .int .i64 0, .int .i64 0, .slice none 0 0] := by kernel_rfl
theorem fa24_0 : fieldB Try.prog 24 0 = some 0 := by kernel_rfl
theorem fa24_1 : fieldB Try.prog 24 1 = some 1 := by kernel_rfl
theorem fa24_2 : fieldB Try.prog 24 2 = some 2 := by kernel_rfl
theorem fa24_3 : fieldB Try.prog 24 3 = some 3 := by kernel_rfl
theorem kd28 : kindB Try.prog 28 = some true := by kernel_rfl
theorem sz28 : sizeB Try.prog 28 = some 2 := by kernel_rfl
theorem zr28 : zeroB Try.prog 28 = some [.int .i64 0, .int .i64 0] := by kernel_rfl
theorem fa28_0 : fieldB Try.prog 28 0 = some 0 := by kernel_rfl
theorem fa28_1 : fieldB Try.prog 28 1 = some 1 := by kernel_rfl
theorem kd29 : kindB Try.prog 29 = some false := by kernel_rfl
theorem sz29 : sizeB Try.prog 29 = some 1 := by kernel_rfl
theorem zr29 : zeroB Try.prog 29 = some [.int .i64 0] := by kernel_rfl
theorem if29 : ifaceB Try.prog 29 = some false := by kernel_rfl
theorem kd55 : kindB Try.prog 55 = some true := by kernel_rfl
theorem sz55 : sizeB Try.prog 55 = some 9 := by kernel_rfl
theorem zr55 : zeroB Try.prog 55 = some [.int .i64 0, .int .i64 0, .int .i64 0, .int .i64 0, .int .i64 0, .int .i64 0, .int .i64 0, .int .i64 0, .int .i64 0] := by kernel_rfl
theorem fa55_0 : fieldB Try.prog 55 0 = some 0 := by kernel_rfl
theorem fa55_1 : fieldB Try.prog 55 1 = some 1 := by kernel_rfl
theorem fa55_2 : fieldB Try.prog 55 2 = some 3 := by kernel_rfl
theorem fa55_3 : fieldB Try.prog 55 3 = some 5 := by kernel_rfl
theorem fa55_4 : fieldB Try.prog 55 4 = some 7 := by kernel_rfl
theorem kd58 : kindB Try.prog 58 = some false := by kernel_rfl
theorem sz58 : sizeB Try.prog 58 = some 1 := by kernel_rfl
theorem zr58 : zeroB Try.prog 58 = some [.slice none 0 0] := by kernel_rfl
theorem sl58 : sliceB Try.prog 58 = true := by kernel_rfl
theorem el58 : elemB Try.prog 58 = some 2 := by kernel_rfl
theorem kd76 : kindB Try.prog 76 = some false := by kernel_rfl
theorem sz76 : sizeB Try.prog 76 = some 1 := by kernel_rfl
theorem zr76 : zeroB Try.prog 76 = some [.slice none 0 0] := by kernel_rfl
theorem sl76 : sliceB Try.prog 76 = true := by kernel_rfl
theorem el76 : elemB Try.prog 76 = some 6 := by kernel_rfl
theorem kd78 : kindB Try.prog 78 = some true := by kernel_rfl
theorem sz78 : sizeB Try.prog 78 = some 6 := by kernel_rfl
theorem zr78 : zeroB Try.prog 78 = some [.int .i64 0, .int .i64 0, .int .i64 0, .slice none 0 0, .slice none 0 0, .slice none 0 0] := by kernel_rfl
theorem fa78_0 : fieldB Try.prog 78 0 = some 0 := by kernel_rfl
theorem fa78_1 : fieldB Try.prog 78 1 = some 4 := by kernel_rfl
theorem ft78_1 : fieldT Try.prog 78 1 = some (58, 4) := by kernel_rfl
theorem fa78_2 : fieldB Try.prog 78 2 = some 5 := by kernel_rfl
theorem ft78_2 : fieldT Try.prog 78 2 = some (76, 5) := by kernel_rfl
theorem kd85 : kindB Try.prog 85 = some true := by kernel_rfl
theorem sz85 : sizeB Try.prog 85 = some 6 := by kernel_rfl
theorem zr85 : zeroB Try.prog 85 = some [.int .i64 0, .int .i64 0, .int .i64 0, .int .i64 0, .int .i64 0, .int .i64 0] := by kernel_rfl
theorem fa85_0 : fieldB Try.prog 85 0 = some 0 := by kernel_rfl
theorem fa85_1 : fieldB Try.prog 85 1 = some 2 := by kernel_rfl
theorem fa85_2 : fieldB Try.prog 85 2 = some 4 := by kernel_rfl
theorem sl89 : sliceB Try.prog 89 = true := by kernel_rfl
theorem el89 : elemB Try.prog 89 = some 2 := by kernel_rfl
theorem kd92 : kindB Try.prog 92 = some true := by kernel_rfl
theorem sz92 : sizeB Try.prog 92 = some 2 := by kernel_rfl
theorem fa92_0 : fieldB Try.prog 92 0 = some 0 := by kernel_rfl
theorem fa92_1 : fieldB Try.prog 92 1 = some 1 := by kernel_rfl
theorem kd101 : kindB Try.prog 101 = some false := by kernel_rfl
theorem sl102 : sliceB Try.prog 102 = true := by kernel_rfl
theorem el102 : elemB Try.prog 102 = some 1 := by kernel_rfl
theorem kd104 : kindB Try.prog 104 = some true := by kernel_rfl
theorem sz104 : sizeB Try.prog 104 = some 2 := by kernel_rfl
theorem zr104 : zeroB Try.prog 104 = some [.int .i64 0, .int .i64 0] := by kernel_rfl
theorem fa104_0 : fieldB Try.prog 104 0 = some 0 := by kernel_rfl
theorem fa104_1 : fieldB Try.prog 104 1 = some 1 := by kernel_rfl
theorem sl128 : sliceB Try.prog 128 = true := by kernel_rfl
theorem el128 : elemB Try.prog 128 = some 1 := by kernel_rfl
theorem kd132 : kindB Try.prog 132 = some true := by kernel_rfl
theorem sz132 : sizeB Try.prog 132 = some 2 := by kernel_rfl
theorem if132 : ifaceB Try.prog 132 = some false := by kernel_rfl
theorem kd133 : kindB Try.prog 133 = some false := by kernel_rfl
theorem sz133 : sizeB Try.prog 133 = some 1 := by kernel_rfl
theorem zr133 : zeroB Try.prog 133 = some [.slice none 0 0] := by kernel_rfl
theorem sl133 : sliceB Try.prog 133 = true := by kernel_rfl
theorem el133 : elemB Try.prog 133 = some 1 := by kernel_rfl
theorem fa135_0 : fieldB Try.prog 135 0 = some 0 := by kernel_rfl
theorem fa135_1 : fieldB Try.prog 135 1 = some 9 := by kernel_rfl
theorem if135 : ifaceB Try.prog 135 = some false := by kernel_rfl
theorem kd138 : kindB Try.prog 138 = some false := by kernel_rfl
theorem sz138 : sizeB Try.prog 138 = some 1 := by kernel_rfl
theorem zr138 : zeroB Try.prog 138 = some [.nilFunc] := by kernel_rfl
theorem kd144 : kindB Try.prog 144 = some true := by kernel_rfl
theorem sz144 : sizeB Try.prog 144 = some 2 := by kernel_rfl
theorem zr144 : zeroB Try.prog 144 = some [.int .i64 0, .nilFunc] := by kernel_rfl
theorem fa144_0 : fieldB Try.prog 144 0 = some 0 := by kernel_rfl
theorem fa144_1 : fieldB Try.prog 144 1 = some 1 := by kernel_rfl
theorem kd145 : kindB Try.prog 145 = some true := by kernel_rfl
theorem sz145 : sizeB Try.prog 145 = some 6 := by kernel_rfl
theorem zr145 : zeroB Try.prog 145 = some [.int .i64 0, .nilFunc, .int .i64 0, .nilFunc, .int .i64 0, .nilFunc] := by kernel_rfl
theorem kd148 : kindB Try.prog 148 = some false := by kernel_rfl
set_option maxHeartbeats 4000000 in
theorem eql28 {a0 : Int} {a1 : Int} {b0 : Int} {b1 : Int} {r : Bool} (h : (decide (a0 = b0) && decide (a1 = b1)) = r) (w : World) : (binOp .eql 28 (.agg [.int .i64 a0, .int .i64 a1].toArray) (.agg [.int .i64 b0, .int .i64 b1].toArray)).run Try.prog w = .ok (.bool r) w := by
  subst h
  by_cases h0 : a0 = b0 <;> by_cases h1 : a1 = b1 <;> simp [go_sem, h0, h1]
theorem eg28 : Try.prog.eqGuardType Try.prog.depth 28 = false := by kernel_rfl
theorem ap22 : appB Try.prog 22 55 9 72 = true := by kernel_rfl
theorem bd28_  (w : World) : (Instr.build 28 [].toArray).run Try.prog w = .ok (.agg [.int .i64 0, .int .i64 0].toArray) w := by simp [go_sem]
set_option maxHeartbeats 4000000 in
theorem neq28 {a0 : Int} {a1 : Int} {b0 : Int} {b1 : Int} {r : Bool} (h : (!(decide (a0 = b0) && decide (a1 = b1))) = r) (w : World) : (binOp .neq 28 (.agg [.int .i64 a0, .int .i64 a1].toArray) (.agg [.int .i64 b0, .int .i64 b1].toArray)).run Try.prog w = .ok (.bool r) w := by
  subst h
  by_cases h0 : a0 = b0 <;> by_cases h1 : a1 = b1 <;> simp [go_sem, h0, h1]

theorem bs22_3_0_1_2 {x0_0 : Int} {x0_1 : Int} {x0_2 : Int} {x0_3 : Int} {x0_4 : Int} {x0_5 : Int} {x0_6 : Int} {x0_7 : Int} {x0_8 : Int} {x1_0 : Int} {x1_1 : Int} {x1_2 : Int} {x1_3 : Int} {x1_4 : Int} {x1_5 : Int} {x1_6 : Int} {x1_7 : Int} {x1_8 : Int} {x2_0 : Int} {x2_1 : Int} {x2_2 : Int} {x2_3 : Int} {x2_4 : Int} {x2_5 : Int} {x2_6 : Int} {x2_7 : Int} {x2_8 : Int} (w : World) : (Instr.buildSlice 22 3 [(0, .agg #[.int .i64 x0_0, .int .i64 x0_1, .int .i64 x0_2, .int .i64 x0_3, .int .i64 x0_4, .int .i64 x0_5, .int .i64 x0_6, .int .i64 x0_7, .int .i64 x0_8]), (1, .agg #[.int .i64 x1_0, .int .i64 x1_1, .int .i64 x1_2, .int .i64 x1_3, .int .i64 x1_4, .int .i64 x1_5, .int .i64 x1_6, .int .i64 x1_7, .int .i64 x1_8]), (2, .agg #[.int .i64 x2_0, .int .i64 x2_1, .int .i64 x2_2, .int .i64 x2_3, .int .i64 x2_4, .int .i64 x2_5, .int .i64 x2_6, .int .i64 x2_7, .int .i64 x2_8])].toArray).run Try.prog w = .ok (.slice (some ⟨w.heap.size, 0, none⟩) 3 3) (w.alloc (Obj.cells [.int .i64 x0_0, .int .i64 x0_1, .int .i64 x0_2, .int .i64 x0_3, .int .i64 x0_4, .int .i64 x0_5, .int .i64 x0_6, .int .i64 x0_7, .int .i64 x0_8, .int .i64 x1_0, .int .i64 x1_1, .int .i64 x1_2, .int .i64 x1_3, .int .i64 x1_4, .int .i64 x1_5, .int .i64 x1_6, .int .i64 x1_7, .int .i64 x1_8, .int .i64 x2_0, .int .i64 x2_1, .int .i64 x2_2, .int .i64 x2_3, .int .i64 x2_4, .int .i64 x2_5, .int .i64 x2_6, .int .i64 x2_7, .int .i64 x2_8].toArray 55 (0, 0))) := by simp [go_sem]
theorem bd28_0_1 {x0_ : Int} {x1_ : Int} (w : World) : (Instr.build 28 [(0, .int .i64 x0_), (1, .int .i64 x1_)].toArray).run Try.prog w = .ok (.agg [.int .i64 x0_, .int .i64 x1_].toArray) w := by simp [go_sem]
theorem bs102_1_0 {x0_ : Int} (w : World) : (Instr.buildSlice 102 1 [(0, .int .i64 x0_)].toArray).run Try.prog w = .ok (.slice (some ⟨w.heap.size, 0, none⟩) 1 1) (w.alloc (Obj.cells [.int .i64 x0_].toArray 3 (0, 0))) := by simp [go_sem]
theorem ap102 : appB Try.prog 102 3 1 8 = true := by kernel_rfl
theorem bd55_0_1_2_3_4 {x0_ : Int} {x1_0 : Int} {x1_1 : Int} {x2_0 : Int} {x2_1 : Int} {x3_0 : Int} {x3_1 : Int} {x4_0 : Int} {x4_1 : Int} (w : World) : (Instr.build 55 [(0, .int .i64 x0_), (1, .agg #[.int .i64 x1_0, .int .i64 x1_1]), (2, .agg #[.int .i64 x2_0, .int .i64 x2_1]), (3, .agg #[.int .i64 x3_0, .int .i64 x3_1]), (4, .agg #[.int .i64 x4_0, .int .i64 x4_1])].toArray).run Try.prog w = .ok (.agg [.int .i64 x0_, .int .i64 x1_0, .int .i64 x1_1, .int .i64 x2_0, .int .i64 x2_1, .int .i64 x3_0, .int .i64 x3_1, .int .i64 x4_0, .int .i64 x4_1].toArray) w := by simp [go_sem]
theorem bd92_0_1 {x0_ : Int} {x1_ : Int} (w : World) : (Instr.build 92 [(0, .int .i64 x0_), (1, .int .i64 x1_)].toArray).run Try.prog w = .ok (.agg [.int .i64 x0_, .int .i64 x1_].toArray) w := by simp [go_sem]
theorem bs22_2_0_1 {x0_0 : Int} {x0_1 : Int} {x0_2 : Int} {x0_3 : Int} {x0_4 : Int} {x0_5 : Int} {x0_6 : Int} {x0_7 : Int} {x0_8 : Int} {x1_0 : Int} {x1_1 : Int} {x1_2 : Int} {x1_3 : Int} {x1_4 : Int} {x1_5 : Int} {x1_6 : Int} {x1_7 : Int} {x1_8 : Int} (w : World) : (Instr.buildSlice 22 2 [(0, .agg #[.int .i64 x0_0, .int .i64 x0_1, .int .i64 x0_2, .int .i64 x0_3, .int .i64 x0_4, .int .i64 x0_5, .int .i64 x0_6, .int .i64 x0_7, .int .i64 x0_8]), (1, .agg #[.int .i64 x1_0, .int .i64 x1_1, .int .i64 x1_2, .int .i64 x1_3, .int .i64 x1_4, .int .i64 x1_5, .int .i64 x1_6, .int .i64 x1_7, .int .i64 x1_8])].toArray).run Try.prog w = .ok (.slice (some ⟨w.heap.size, 0, none⟩) 2 2) (w.alloc (Obj.cells [.int .i64 x0_0, .int .i64 x0_1, .int .i64 x0_2, .int .i64 x0_3, .int .i64 x0_4, .int .i64 x0_5, .int .i64 x0_6, .int .i64 x0_7, .int .i64 x0_8, .int .i64 x1_0, .int .i64 x1_1, .int .i64 x1_2, .int .i64 x1_3, .int .i64 x1_4, .int .i64 x1_5, .int .i64 x1_6, .int .i64 x1_7, .int .i64 x1_8].toArray 55 (0, 0))) := by simp [go_sem]
theorem bd24_0_1_2_3 {x0_ : Int} {x1_ : Int} {x2_ : Int} {x3_a : Option Addr} {x3_l x3_c : Nat} (w : World) : (Instr.build 24 [(0, .int .i64 x0_), (1, .int .i64 x1_), (2, .int .i64 x2_), (3, .slice x3_a x3_l x3_c)].toArray).run Try.prog w = .ok (.agg [.int .i64 x0_, .int .i64 x1_, .int .i64 x2_, .slice x3_a x3_l x3_c].toArray) w := by simp [go_sem]
theorem bd78_0 {x0_0 : Int} {x0_1 : Int} {x0_2 : Int} {x0_3a : Option Addr} {x0_3l x0_3c : Nat} (w : World) : (Instr.build 78 [(0, .agg #[.int .i64 x0_0, .int .i64 x0_1, .int .i64 x0_2, .slice x0_3a x0_3l x0_3c])].toArray).run Try.prog w = .ok (.agg [.int .i64 x0_0, .int .i64 x0_1, .int .i64 x0_2, .slice x0_3a x0_3l x0_3c, .slice none 0 0, .slice none 0 0].toArray) w := by simp [go_sem]
theorem bs58_1_0 {x0_0 : Int} {x0_1 : Int} (w : World) : (Instr.buildSlice 58 1 [(0, .agg #[.int .i64 x0_0, .int .i64 x0_1])].toArray).run Try.prog w = .ok (.slice (some ⟨w.heap.size, 0, none⟩) 1 1) (w.alloc (Obj.cells [.int .i64 x0_0, .int .i64 x0_1].toArray 28 (0, 0))) := by simp [go_sem]
theorem ap58 : appB Try.prog 58 28 2 16 = true := by kernel_rfl
set_option maxHeartbeats 4000000 in
theorem eql92 {a0 : Int} {a1 : Int} {b0 : Int} {b1 : Int} {r : Bool} (h : (decide (a0 = b0) && decide (a1 = b1)) = r) (w : World) : (binOp .eql 92 (.agg [.int .i64 a0, .int .i64 a1].toArray) (.agg [.int .i64 b0, .int .i64 b1].toArray)).run Try.prog w = .ok (.bool r) w := by
  subst h
  by_cases h0 : a0 = b0 <;> by_cases h1 : a1 = b1 <;> simp [go_sem, h0, h1]
theorem eg92 : Try.prog.eqGuardType Try.prog.depth 92 = false := by kernel_rfl
theorem bs89_1_0 {x0_0 : Int} {x0_1 : Int} (w : World) : (Instr.buildSlice 89 1 [(0, .agg #[.int .i64 x0_0, .int .i64 x0_1])].toArray).run Try.prog w = .ok (.slice (some ⟨w.heap.size, 0, none⟩) 1 1) (w.alloc (Obj.cells [.int .i64 x0_0, .int .i64 x0_1].toArray 92 (0, 0))) := by simp [go_sem]
theorem ap89 : appB Try.prog 89 92 2 16 = true := by kernel_rfl
theorem bs102_2_0_1 {x0_ : Int} {x1_ : Int} (w : World) : (Instr.buildSlice 102 2 [(0, .int .i64 x0_), (1, .int .i64 x1_)].toArray).run Try.prog w = .ok (.slice (some ⟨w.heap.size, 0, none⟩) 2 2) (w.alloc (Obj.cells [.int .i64 x0_, .int .i64 x1_].toArray 3 (0, 0))) := by simp [go_sem]
theorem bd104_0_1 {x0_ : Int} {x1_ : Int} (w : World) : (Instr.build 104 [(0, .int .i64 x0_), (1, .int .i64 x1_)].toArray).run Try.prog w = .ok (.agg [.int .i64 x0_, .int .i64 x1_].toArray) w := by simp [go_sem]
theorem bs128_2_0_1 {x0_a : Option Addr} {x0_l x0_c : Nat} {x1_a : Option Addr} {x1_l x1_c : Nat} (w : World) : (Instr.buildSlice 128 2 [(0, .slice x0_a x0_l x0_c), (1, .slice x1_a x1_l x1_c)].toArray).run Try.prog w = .ok (.slice (some ⟨w.heap.size, 0, none⟩) 2 2) (w.alloc (Obj.cells [.slice x0_a x0_l x0_c, .slice x1_a x1_l x1_c].toArray 22 (0, 0))) := by simp [go_sem]
theorem bd132_0_1 {x0_ : Int} {x1_ : Int} (w : World) : (Instr.build 132 [(0, .int .i64 x0_), (1, .int .i64 x1_)].toArray).run Try.prog w = .ok (.agg [.int .i64 x0_, .int .i64 x1_].toArray) w := by simp [go_sem]
theorem bd135_0_1 {x0_0 : Int} {x0_1 : Int} {x0_2 : Int} {x0_3 : Int} {x0_4 : Int} {x0_5 : Int} {x0_6 : Int} {x0_7 : Int} {x0_8 : Int} {x1_ : Int} (w : World) : (Instr.build 135 [(0, .agg #[.int .i64 x0_0, .int .i64 x0_1, .int .i64 x0_2, .int .i64 x0_3, .int .i64 x0_4, .int .i64 x0_5, .int .i64 x0_6, .int .i64 x0_7, .int .i64 x0_8]), (1, .int .i64 x1_)].toArray).run Try.prog w = .ok (.agg [.int .i64 x0_0, .int .i64 x0_1, .int .i64 x0_2, .int .i64 x0_3, .int .i64 x0_4, .int .i64 x0_5, .int .i64 x0_6, .int .i64 x0_7, .int .i64 x0_8, .int .i64 x1_].toArray) w := by simp [go_sem]
theorem ap133 : appB Try.prog 133 148 1 16 = true := by kernel_rfl
theorem bd137_0_1 {x0_ : Bool} {x1_ : Bool} (w : World) : (Instr.build 137 [(0, .bool x0_), (1, .bool x1_)].toArray).run Try.prog w = .ok (.agg [.bool x0_, .bool x1_].toArray) w := by simp [go_sem]
theorem bd85_  (w : World) : (Instr.build 85 [].toArray).run Try.prog w = .ok (.agg [.int .i64 0, .int .i64 0, .int .i64 0, .int .i64 0, .int .i64 0, .int .i64 0].toArray) w := by simp [go_sem]
set_option maxHeartbeats 4000000 in
theorem eql85 {a0 : Int} {a1 : Int} {a2 : Int} {a3 : Int} {a4 : Int} {a5 : Int} {b0 : Int} {b1 : Int} {b2 : Int} {b3 : Int} {b4 : Int} {b5 : Int} {r : Bool} (h : (decide (a0 = b0) && decide (a1 = b1) && decide (a2 = b2) && decide (a3 = b3) && decide (a4 = b4) && decide (a5 = b5)) = r) (w : World) : (binOp .eql 85 (.agg [.int .i64 a0, .int .i64 a1, .int .i64 a2, .int .i64 a3, .int .i64 a4, .int .i64 a5].toArray) (.agg [.int .i64 b0, .int .i64 b1, .int .i64 b2, .int .i64 b3, .int .i64 b4, .int .i64 b5].toArray)).run Try.prog w = .ok (.bool r) w := by
  subst h
  by_cases h0 : a0 = b0 <;> by_cases h1 : a1 = b1 <;> by_cases h2 : a2 = b2 <;> by_cases h3 : a3 = b3 <;> by_cases h4 : a4 = b4 <;> by_cases h5 : a5 = b5 <;> simp [go_sem, h0, h1, h2, h3, h4, h5]
theorem eg85 : Try.prog.eqGuardType Try.prog.depth 85 = false := by kernel_rfl
theorem bd85_0_1_2 {x0_0 : Int} {x0_1 : Int} {x1_0 : Int} {x1_1 : Int} {x2_0 : Int} {x2_1 : Int} (w : World) : (Instr.build 85 [(0, .agg #[.int .i64 x0_0, .int .i64 x0_1]), (1, .agg #[.int .i64 x1_0, .int .i64 x1_1]), (2, .agg #[.int .i64 x2_0, .int .i64 x2_1])].toArray).run Try.prog w = .ok (.agg [.int .i64 x0_0, .int .i64 x0_1, .int .i64 x1_0, .int .i64 x1_1, .int .i64 x2_0, .int .i64 x2_1].toArray) w := by simp [go_sem]
theorem cb11 : callB Try.prog 11 = true := by kernel_rfl
theorem cb12 : callB Try.prog 12 = true := by kernel_rfl
theorem cb13 : callB Try.prog 13 = true := by kernel_rfl
theorem cb14 : callB Try.prog 14 = true := by kernel_rfl
theorem cb15 : callB Try.prog 15 = true := by kernel_rfl
theorem cb16 : callB Try.prog 16 = true := by kernel_rfl
theorem cb17 : callB Try.prog 17 = true := by kernel_rfl
theorem cb18 : callB Try.prog 18 = true := by kernel_rfl
theorem cb19 : callB Try.prog 19 = true := by kernel_rfl
theorem cb20 : callB Try.prog 20 = true := by kernel_rfl
theorem cb21 : callB Try.prog 21 = true := by kernel_rfl
theorem cb23 : callB Try.prog 23 = true := by kernel_rfl
theorem cb25 : callB Try.prog 25 = true := by kernel_rfl
theorem cb31 : callB Try.prog 31 = true := by kernel_rfl
theorem cb32 : callB Try.prog 32 = true := by kernel_rfl
theorem cb36 : callB Try.prog 36 = true := by kernel_rfl
theorem cb41 : callB Try.prog 41 = true := by kernel_rfl
theorem cb42 : callB Try.prog 42 = true := by kernel_rfl
theorem cb43 : callB Try.prog 43 = true := by kernel_rfl
theorem cb44 : callB Try.prog 44 = true := by kernel_rfl
theorem cb45 : callB Try.prog 45 = true := by kernel_rfl
theorem cb46 : callB Try.prog 46 = true := by kernel_rfl
theorem cb47 : callB Try.prog 47 = true := by kernel_rfl
theorem cb48 : callB Try.prog 48 = true := by kernel_rfl
theorem cb49 : callB Try.prog 49 = true := by kernel_rfl
theorem cb50 : callB Try.prog 50 = true := by kernel_rfl
theorem cb51 : callB Try.prog 51 = true := by kernel_rfl
theorem cb52 : callB Try.prog 52 = true := by kernel_rfl
theorem cb53 : callB Try.prog 53 = true := by kernel_rfl
theorem cb54 : callB Try.prog 54 = true := by kernel_rfl
theorem cb55 : callB Try.prog 55 = true := by kernel_rfl
theorem cb56 : callB Try.prog 56 = true := by kernel_rfl
theorem cb57 : callB Try.prog 57 = true := by kernel_rfl
theorem cb58 : callB Try.prog 58 = true := by kernel_rfl
theorem cb59 : callB Try.prog 59 = true := by kernel_rfl
theorem cb60 : callB Try.prog 60 = true := by kernel_rfl
theorem cb61 : callB Try.prog 61 = true := by kernel_rfl
theorem cb62 : callB Try.prog 62 = true := by kernel_rfl
theorem cb63 : callB Try.prog 63 = true := by kernel_rfl
theorem cb64 : callB Try.prog 64 = true := by kernel_rfl
theorem cb65 : callB Try.prog 65 = true := by kernel_rfl
theorem cb66 : callB Try.prog 66 = true := by kernel_rfl
theorem cb67 : callB Try.prog 67 = true := by kernel_rfl
theorem cb68 : callB Try.prog 68 = true := by kernel_rfl
theorem cb69 : callB Try.prog 69 = true := by kernel_rfl
theorem cb70 : callB Try.prog 70 = true := by kernel_rfl
theorem cb71 : callB Try.prog 71 = true := by kernel_rfl
theorem cb75 : callB Try.prog 75 = true := by kernel_rfl
theorem cb76 : callB Try.prog 76 = true := by kernel_rfl
theorem cb78 : callB Try.prog 78 = true := by kernel_rfl
theorem cb79 : callB Try.prog 79 = true := by kernel_rfl
theorem cb80 : callB Try.prog 80 = true := by kernel_rfl
theorem cb81 : callB Try.prog 81 = true := by kernel_rfl
theorem cb82 : callB Try.prog 82 = true := by kernel_rfl
theorem cb83 : callB Try.prog 83 = true := by kernel_rfl
theorem cb84 : callB Try.prog 84 = true := by kernel_rfl
theorem cb85 : callB Try.prog 85 = true := by kernel_rfl
theorem cb86 : callB Try.prog 86 = true := by kernel_rfl
theorem cb87 : callB Try.prog 87 = true := by kernel_rfl
theorem cb88 : callB Try.prog 88 = true := by kernel_rfl
theorem cb89 : callB Try.prog 89 = true := by kernel_rfl
theorem cb90 : callB Try.prog 90 = true := by kernel_rfl
theorem cb91 : callB Try.prog 91 = true := by kernel_rfl
theorem cb92 : callB Try.prog 92 = true := by kernel_rfl
theorem cb93 : callB Try.prog 93 = true := by kernel_rfl
theorem cb94 : callB Try.prog 94 = true := by kernel_rfl
theorem cb95 : callB Try.prog 95 = true := by kernel_rfl
theorem cb96 : callB Try.prog 96 = true := by kernel_rfl
theorem cb97 : callB Try.prog 97 = true := by kernel_rfl
theorem cb98 : callB Try.prog 98 = true := by kernel_rfl
theorem cb99 : callB Try.prog 99 = true := by kernel_rfl
theorem cb100 : callB Try.prog 100 = true := by kernel_rfl
theorem cb101 : callB Try.prog 101 = true := by kernel_rfl
theorem cb102 : callB Try.prog 102 = true := by kernel_rfl
theorem cb103 : callB Try.prog 103 = true := by kernel_rfl
theorem cb104 : callB Try.prog 104 = true := by kernel_rfl
theorem cb105 : callB Try.prog 105 = true := by kernel_rfl
theorem cb106 : callB Try.prog 106 = true := by kernel_rfl
theorem cb107 : callB Try.prog 107 = true := by kernel_rfl
theorem cb108 : callB Try.prog 108 = true := by kernel_rfl
theorem cb109 : callB Try.prog 109 = true := by kernel_rfl
theorem cb110 : callB Try.prog 110 = true := by kernel_rfl
theorem cb111 : callB Try.prog 111 = true := by kernel_rfl
theorem cb112 : callB Try.prog 112 = true := by kernel_rfl
theorem cb113 : callB Try.prog 113 = true := by kernel_rfl
theorem cb114 : callB Try.prog 114 = true := by kernel_rfl
theorem cb115 : callB Try.prog 115 = true := by kernel_rfl
theorem cb116 : callB Try.prog 116 = true := by kernel_rfl
theorem cb117 : callB Try.prog 117 = true := by kernel_rfl
theorem cb118 : callB Try.prog 118 = true := by kernel_rfl
theorem cb134 : callB Try.prog 134 = true := by kernel_rfl
theorem cb135 : callB Try.prog 135 = true := by kernel_rfl
end Go.Proofs.Ytfmbnobkenngaaa.En
