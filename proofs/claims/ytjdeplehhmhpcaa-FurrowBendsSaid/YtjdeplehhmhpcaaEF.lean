/- Facts on the types and functions of this program, each read off its tables. -/
import Derived.Test.YtjdeplehhmhpcaaEL
import Derived.Test.YtjdeplehhmhpcaaProg
namespace Go.Proofs.Ytjdeplehhmhpcaa.En
open Go.RowKit
theorem kd0 : kindB Try.prog 0 = some false := by kernel_rfl
theorem sz0 : sizeB Try.prog 0 = some 1 := by kernel_rfl
theorem if0 : ifaceB Try.prog 0 = some false := by kernel_rfl
theorem kd1 : kindB Try.prog 1 = some false := by kernel_rfl
theorem sz1 : sizeB Try.prog 1 = some 1 := by kernel_rfl
theorem zr1 : zeroB Try.prog 1 = some [.nilFunc] := by kernel_rfl
theorem if1 : ifaceB Try.prog 1 = some false := by kernel_rfl
theorem kd2 : kindB Try.prog 2 = some false := by kernel_rfl
theorem sz2 : sizeB Try.prog 2 = some 1 := by kernel_rfl
theorem zr2 : zeroB Try.prog 2 = some [.int .i64 0] := by kernel_rfl
theorem if2 : ifaceB Try.prog 2 = some false := by kernel_rfl
theorem kd3 : kindB Try.prog 3 = some false := by kernel_rfl
theorem sz3 : sizeB Try.prog 3 = some 1 := by kernel_rfl
theorem zr3 : zeroB Try.prog 3 = some [.int .i64 0] := by kernel_rfl
theorem if3 : ifaceB Try.prog 3 = some false := by kernel_rfl
theorem kd4 : kindB Try.prog 4 = some false := by kernel_rfl
theorem sz4 : sizeB Try.prog 4 = some 1 := by kernel_rfl
theorem zr4 : zeroB Try.prog 4 = some [.bool false] := by kernel_rfl
theorem if4 : ifaceB Try.prog 4 = some false := by kernel_rfl
theorem kd5 : kindB Try.prog 5 = some false := by kernel_rfl
theorem sz5 : sizeB Try.prog 5 = some 1 := by kernel_rfl
theorem zr5 : zeroB Try.prog 5 = some [.int .u8 0] := by kernel_rfl
theorem if5 : ifaceB Try.prog 5 = some false := by kernel_rfl
theorem kd6 : kindB Try.prog 6 = some false := by kernel_rfl
theorem sz6 : sizeB Try.prog 6 = some 1 := by kernel_rfl
theorem zr6 : zeroB Try.prog 6 = some [.int .u8 0] := by kernel_rfl
theorem if6 : ifaceB Try.prog 6 = some false := by kernel_rfl
theorem kd7 : kindB Try.prog 7 = some true := by kernel_rfl
theorem sz7 : sizeB Try.prog 7 = some 4 := by kernel_rfl
theorem zr7 : zeroB Try.prog 7 = some [.int .i64 0, .int .i64 0, .bool false, .int .u8 0] := by kernel_rfl
theorem fa7_0 : fieldB Try.prog 7 0 = some 0 := by kernel_rfl
theorem ft7_0 : fieldT Try.prog 7 0 = some (2, 0) := by kernel_rfl
theorem fa7_1 : fieldB Try.prog 7 1 = some 1 := by kernel_rfl
theorem ft7_1 : fieldT Try.prog 7 1 = some (3, 1) := by kernel_rfl
theorem fa7_2 : fieldB Try.prog 7 2 = some 2 := by kernel_rfl
theorem ft7_2 : fieldT Try.prog 7 2 = some (4, 2) := by kernel_rfl
theorem fa7_3 : fieldB Try.prog 7 3 = some 3 := by kernel_rfl
theorem ft7_3 : fieldT Try.prog 7 3 = some (6, 3) := by kernel_rfl
theorem if7 : ifaceB Try.prog 7 = some false := by kernel_rfl
theorem kd8 : kindB Try.prog 8 = some true := by kernel_rfl
theorem sz8 : sizeB Try.prog 8 = some 4 := by kernel_rfl
theorem zr8 : zeroB Try.prog 8 = some [.int .i64 0, .int .i64 0, .bool false, .int .u8 0] := by kernel_rfl
theorem fa8_0 : fieldB Try.prog 8 0 = some 0 := by kernel_rfl
theorem ft8_0 : fieldT Try.prog 8 0 = some (2, 0) := by kernel_rfl
theorem fa8_1 : fieldB Try.prog 8 1 = some 1 := by kernel_rfl
theorem ft8_1 : fieldT Try.prog 8 1 = some (3, 1) := by kernel_rfl
theorem fa8_2 : fieldB Try.prog 8 2 = some 2 := by kernel_rfl
theorem ft8_2 : fieldT Try.prog 8 2 = some (4, 2) := by kernel_rfl
theorem fa8_3 : fieldB Try.prog 8 3 = some 3 := by kernel_rfl
theorem ft8_3 : fieldT Try.prog 8 3 = some (6, 3) := by kernel_rfl
theorem if8 : ifaceB Try.prog 8 = some false := by kernel_rfl
theorem kd9 : kindB Try.prog 9 = some false := by kernel_rfl
theorem sz9 : sizeB Try.prog 9 = some 1 := by kernel_rfl
theorem if9 : ifaceB Try.prog 9 = some false := by kernel_rfl
theorem kd10 : kindB Try.prog 10 = some false := by kernel_rfl
theorem sz10 : sizeB Try.prog 10 = some 1 := by kernel_rfl
theorem if10 : ifaceB Try.prog 10 = some false := by kernel_rfl
theorem kd11 : kindB Try.prog 11 = some false := by kernel_rfl
theorem sz11 : sizeB Try.prog 11 = some 1 := by kernel_rfl
theorem if11 : ifaceB Try.prog 11 = some false := by kernel_rfl
theorem kd12 : kindB Try.prog 12 = some false := by kernel_rfl
theorem sz12 : sizeB Try.prog 12 = some 1 := by kernel_rfl
theorem zr12 : zeroB Try.prog 12 = some [.int .u64 0] := by kernel_rfl
theorem if12 : ifaceB Try.prog 12 = some false := by kernel_rfl
theorem kd13 : kindB Try.prog 13 = some true := by kernel_rfl
theorem sz13 : sizeB Try.prog 13 = some 2 := by kernel_rfl
theorem fa13_0 : fieldB Try.prog 13 0 = some 0 := by kernel_rfl
theorem ft13_0 : fieldT Try.prog 13 0 = some (9, 0) := by kernel_rfl
theorem fa13_1 : fieldB Try.prog 13 1 = some 1 := by kernel_rfl
theorem ft13_1 : fieldT Try.prog 13 1 = some (12, 1) := by kernel_rfl
theorem if13 : ifaceB Try.prog 13 = some false := by kernel_rfl
theorem kd14 : kindB Try.prog 14 = some true := by kernel_rfl
theorem sz14 : sizeB Try.prog 14 = some 2 := by kernel_rfl
theorem fa14_0 : fieldB Try.prog 14 0 = some 0 := by kernel_rfl
theorem ft14_0 : fieldT Try.prog 14 0 = some (9, 0) := by kernel_rfl
theorem fa14_1 : fieldB Try.prog 14 1 = some 1 := by kernel_rfl
theorem ft14_1 : fieldT Try.prog 14 1 = some (12, 1) := by kernel_rfl
theorem if14 : ifaceB Try.prog 14 = some false := by kernel_rfl
theorem kd15 : kindB Try.prog 15 = some false := by kernel_rfl
theorem sz15 : sizeB Try.prog 15 = some 1 := by kernel_rfl
theorem zr15 : zeroB Try.prog 15 = some [.pointer none] := by kernel_rfl
theorem if15 : ifaceB Try.prog 15 = some false := by kernel_rfl
theorem kd16 : kindB Try.prog 16 = some false := by kernel_rfl
theorem sz16 : sizeB Try.prog 16 = some 1 := by kernel_rfl
theorem zr16 : zeroB Try.prog 16 = some [.pointer none] := by kernel_rfl
theorem if16 : ifaceB Try.prog 16 = some false := by kernel_rfl
theorem kd17 : kindB Try.prog 17 = some false := by kernel_rfl
theorem sz17 : sizeB Try.prog 17 = some 1 := by kernel_rfl
theorem zr17 : zeroB Try.prog 17 = some [.pointer none] := by kernel_rfl
theorem if17 : ifaceB Try.prog 17 = some false := by kernel_rfl
theorem kd18 : kindB Try.prog 18 = some true := by kernel_rfl
theorem sz18 : sizeB Try.prog 18 = some 1 := by kernel_rfl
theorem zr18 : zeroB Try.prog 18 = some [.pointer none] := by kernel_rfl
theorem fa18_0 : fieldB Try.prog 18 0 = some 0 := by kernel_rfl
theorem ft18_0 : fieldT Try.prog 18 0 = some (17, 0) := by kernel_rfl
theorem if18 : ifaceB Try.prog 18 = some false := by kernel_rfl
theorem kd19 : kindB Try.prog 19 = some true := by kernel_rfl
theorem sz19 : sizeB Try.prog 19 = some 1 := by kernel_rfl
theorem zr19 : zeroB Try.prog 19 = some [.pointer none] := by kernel_rfl
theorem fa19_0 : fieldB Try.prog 19 0 = some 0 := by kernel_rfl
theorem ft19_0 : fieldT Try.prog 19 0 = some (17, 0) := by kernel_rfl
theorem if19 : ifaceB Try.prog 19 = some false := by kernel_rfl
theorem kd20 : kindB Try.prog 20 = some false := by kernel_rfl
theorem sz20 : sizeB Try.prog 20 = some 1 := by kernel_rfl
theorem zr20 : zeroB Try.prog 20 = some [.nilIface] := by kernel_rfl
theorem kd21 : kindB Try.prog 21 = some false := by kernel_rfl
theorem sz21 : sizeB Try.prog 21 = some 1 := by kernel_rfl
theorem zr21 : zeroB Try.prog 21 = some [.int .i32 0] := by kernel_rfl
theorem if21 : ifaceB Try.prog 21 = some false := by kernel_rfl
theorem kd22 : kindB Try.prog 22 = some false := by kernel_rfl
theorem sz22 : sizeB Try.prog 22 = some 1 := by kernel_rfl
theorem zr22 : zeroB Try.prog 22 = some [.slice none 0 0] := by kernel_rfl
theorem sl22 : sliceB Try.prog 22 = true := by kernel_rfl
theorem el22 : elemB Try.prog 22 = some 2 := by kernel_rfl
theorem if22 : ifaceB Try.prog 22 = some false := by kernel_rfl
theorem kd23 : kindB Try.prog 23 = some true := by kernel_rfl
theorem sz23 : sizeB Try.prog 23 = some 3 := by kernel_rfl
theorem zr23 : zeroB Try.prog 23 = some [.slice none 0 0, .slice none 0 0, .slice none 0 0] := by kernel_rfl
theorem fa23_0 : fieldB Try.prog 23 0 = some 0 := by kernel_rfl
theorem ft23_0 : fieldT Try.prog 23 0 = some (22, 0) := by kernel_rfl
theorem fa23_1 : fieldB Try.prog 23 1 = some 1 := by kernel_rfl
theorem ft23_1 : fieldT Try.prog 23 1 = some (22, 1) := by kernel_rfl
theorem fa23_2 : fieldB Try.prog 23 2 = some 2 := by kernel_rfl
theorem ft23_2 : fieldT Try.prog 23 2 = some (22, 2) := by kernel_rfl
theorem if23 : ifaceB Try.prog 23 = some false := by kernel_rfl
theorem kd24 : kindB Try.prog 24 = some true := by kernel_rfl
theorem sz24 : sizeB Try.prog 24 = some 3 := by kernel_rfl
theorem zr24 : zeroB Try.prog 24 = some [.slice none 0 0, .slice none 0 0, .slice none 0 0] := by kernel_rfl
theorem fa24_0 : fieldB Try.prog 24 0 = some 0 := by kernel_rfl
theorem ft24_0 : fieldT Try.prog 24 0 = some (22, 0) := by kernel_rfl
theorem fa24_1 : fieldB Try.prog 24 1 = some 1 := by kernel_rfl
theorem ft24_1 : fieldT Try.prog 24 1 = some (22, 1) := by kernel_rfl
theorem fa24_2 : fieldB Try.prog 24 2 = some 2 := by kernel_rfl
theorem ft24_2 : fieldT Try.prog 24 2 = some (22, 2) := by kernel_rfl
theorem if24 : ifaceB Try.prog 24 = some false := by kernel_rfl
theorem kd25 : kindB Try.prog 25 = some false := by kernel_rfl
theorem sz25 : sizeB Try.prog 25 = some 1 := by kernel_rfl
theorem zr25 : zeroB Try.prog 25 = some [.nilFunc] := by kernel_rfl
theorem if25 : ifaceB Try.prog 25 = some false := by kernel_rfl
theorem kd26 : kindB Try.prog 26 = some false := by kernel_rfl
theorem sz26 : sizeB Try.prog 26 = some 1 := by kernel_rfl
theorem zr26 : zeroB Try.prog 26 = some [.nilFunc] := by kernel_rfl
theorem if26 : ifaceB Try.prog 26 = some false := by kernel_rfl
theorem kd27 : kindB Try.prog 27 = some true := by kernel_rfl
theorem sz27 : sizeB Try.prog 27 = some 2 := by kernel_rfl
theorem zr27 : zeroB Try.prog 27 = some [.int .i64 0, .int .i64 0] := by kernel_rfl
theorem fa27_0 : fieldB Try.prog 27 0 = some 0 := by kernel_rfl
theorem ft27_0 : fieldT Try.prog 27 0 = some (3, 0) := by kernel_rfl
theorem fa27_1 : fieldB Try.prog 27 1 = some 1 := by kernel_rfl
theorem ft27_1 : fieldT Try.prog 27 1 = some (3, 1) := by kernel_rfl
theorem if27 : ifaceB Try.prog 27 = some false := by kernel_rfl
theorem kd28 : kindB Try.prog 28 = some true := by kernel_rfl
theorem sz28 : sizeB Try.prog 28 = some 2 := by kernel_rfl
theorem zr28 : zeroB Try.prog 28 = some [.int .i64 0, .int .i64 0] := by kernel_rfl
theorem fa28_0 : fieldB Try.prog 28 0 = some 0 := by kernel_rfl
theorem ft28_0 : fieldT Try.prog 28 0 = some (3, 0) := by kernel_rfl
theorem fa28_1 : fieldB Try.prog 28 1 = some 1 := by kernel_rfl
theorem ft28_1 : fieldT Try.prog 28 1 = some (3, 1) := by kernel_rfl
theorem if28 : ifaceB Try.prog 28 = some false := by kernel_rfl
theorem kd29 : kindB Try.prog 29 = some false := by kernel_rfl
theorem sz29 : sizeB Try.prog 29 = some 1 := by kernel_rfl
theorem zr29 : zeroB Try.prog 29 = some [.int .i64 0] := by kernel_rfl
theorem if29 : ifaceB Try.prog 29 = some false := by kernel_rfl
theorem kd30 : kindB Try.prog 30 = some false := by kernel_rfl
theorem sz30 : sizeB Try.prog 30 = some 1 := by kernel_rfl
theorem if30 : ifaceB Try.prog 30 = some false := by kernel_rfl
theorem kd31 : kindB Try.prog 31 = some false := by kernel_rfl
theorem sz31 : sizeB Try.prog 31 = some 1 := by kernel_rfl
theorem zr31 : zeroB Try.prog 31 = some [.nilFunc] := by kernel_rfl
theorem if31 : ifaceB Try.prog 31 = some false := by kernel_rfl
theorem kd32 : kindB Try.prog 32 = some false := by kernel_rfl
theorem sz32 : sizeB Try.prog 32 = some 1 := by kernel_rfl
theorem zr32 : zeroB Try.prog 32 = some [.nilFunc] := by kernel_rfl
theorem if32 : ifaceB Try.prog 32 = some false := by kernel_rfl
theorem kd33 : kindB Try.prog 33 = some false := by kernel_rfl
theorem sz33 : sizeB Try.prog 33 = some 1 := by kernel_rfl
theorem zr33 : zeroB Try.prog 33 = some [.slice none 0 0] := by kernel_rfl
theorem sl33 : sliceB Try.prog 33 = true := by kernel_rfl
theorem el33 : elemB Try.prog 33 = some 1 := by kernel_rfl
theorem if33 : ifaceB Try.prog 33 = some false := by kernel_rfl
theorem kd34 : kindB Try.prog 34 = some false := by kernel_rfl
theorem sz34 : sizeB Try.prog 34 = some 1 := by kernel_rfl
theorem if34 : ifaceB Try.prog 34 = some false := by kernel_rfl
theorem kd35 : kindB Try.prog 35 = some false := by kernel_rfl
theorem sz35 : sizeB Try.prog 35 = some 1 := by kernel_rfl
theorem zr35 : zeroB Try.prog 35 = some [.nilFunc] := by kernel_rfl
theorem if35 : ifaceB Try.prog 35 = some false := by kernel_rfl
theorem kd36 : kindB Try.prog 36 = some false := by kernel_rfl
theorem sz36 : sizeB Try.prog 36 = some 1 := by kernel_rfl
theorem if36 : ifaceB Try.prog 36 = some false := by kernel_rfl
theorem kd37 : kindB Try.prog 37 = some false := by kernel_rfl
theorem sz37 : sizeB Try.prog 37 = some 1 := by kernel_rfl
theorem zr37 : zeroB Try.prog 37 = some [.nilFunc] := by kernel_rfl
theorem if37 : ifaceB Try.prog 37 = some false := by kernel_rfl
theorem kd38 : kindB Try.prog 38 = some false := by kernel_rfl
theorem sz38 : sizeB Try.prog 38 = some 1 := by kernel_rfl
theorem zr38 : zeroB Try.prog 38 = some [.nilFunc] := by kernel_rfl
theorem if38 : ifaceB Try.prog 38 = some false := by kernel_rfl
theorem kd39 : kindB Try.prog 39 = some false := by kernel_rfl
theorem sz39 : sizeB Try.prog 39 = some 1 := by kernel_rfl
theorem zr39 : zeroB Try.prog 39 = some [.nilFunc] := by kernel_rfl
theorem if39 : ifaceB Try.prog 39 = some false := by kernel_rfl
theorem kd40 : kindB Try.prog 40 = some false := by kernel_rfl
theorem sz40 : sizeB Try.prog 40 = some 1 := by kernel_rfl
theorem if40 : ifaceB Try.prog 40 = some false := by kernel_rfl
theorem kd41 : kindB Try.prog 41 = some false := by kernel_rfl
theorem sz41 : sizeB Try.prog 41 = some 1 := by kernel_rfl
theorem zr41 : zeroB Try.prog 41 = some [.nilFunc] := by kernel_rfl
theorem if41 : ifaceB Try.prog 41 = some false := by kernel_rfl
theorem kd42 : kindB Try.prog 42 = some false := by kernel_rfl
theorem sz42 : sizeB Try.prog 42 = some 1 := by kernel_rfl
theorem zr42 : zeroB Try.prog 42 = some [.nilFunc] := by kernel_rfl
theorem if42 : ifaceB Try.prog 42 = some false := by kernel_rfl
theorem kd43 : kindB Try.prog 43 = some false := by kernel_rfl
theorem sz43 : sizeB Try.prog 43 = some 1 := by kernel_rfl
theorem zr43 : zeroB Try.prog 43 = some [.nilFunc] := by kernel_rfl
theorem if43 : ifaceB Try.prog 43 = some false := by kernel_rfl
theorem kd44 : kindB Try.prog 44 = some false := by kernel_rfl
theorem sz44 : sizeB Try.prog 44 = some 1 := by kernel_rfl
theorem zr44 : zeroB Try.prog 44 = some [.nilFunc] := by kernel_rfl
theorem if44 : ifaceB Try.prog 44 = some false := by kernel_rfl
theorem kd45 : kindB Try.prog 45 = some false := by kernel_rfl
theorem sz45 : sizeB Try.prog 45 = some 1 := by kernel_rfl
theorem zr45 : zeroB Try.prog 45 = some [.slice none 0 0] := by kernel_rfl
theorem sl45 : sliceB Try.prog 45 = true := by kernel_rfl
theorem el45 : elemB Try.prog 45 = some 1 := by kernel_rfl
theorem if45 : ifaceB Try.prog 45 = some false := by kernel_rfl
theorem kd46 : kindB Try.prog 46 = some false := by kernel_rfl
theorem sz46 : sizeB Try.prog 46 = some 1 := by kernel_rfl
theorem zr46 : zeroB Try.prog 46 = some [.nilFunc] := by kernel_rfl
theorem if46 : ifaceB Try.prog 46 = some false := by kernel_rfl
theorem kd47 : kindB Try.prog 47 = some false := by kernel_rfl
theorem sz47 : sizeB Try.prog 47 = some 1 := by kernel_rfl
theorem zr47 : zeroB Try.prog 47 = some [.nilFunc] := by kernel_rfl
theorem if47 : ifaceB Try.prog 47 = some false := by kernel_rfl
theorem kd48 : kindB Try.prog 48 = some false := by kernel_rfl
theorem sz48 : sizeB Try.prog 48 = some 1 := by kernel_rfl
theorem zr48 : zeroB Try.prog 48 = some [.nilFunc] := by kernel_rfl
theorem if48 : ifaceB Try.prog 48 = some false := by kernel_rfl
theorem kd49 : kindB Try.prog 49 = some false := by kernel_rfl
theorem sz49 : sizeB Try.prog 49 = some 1 := by kernel_rfl
theorem zr49 : zeroB Try.prog 49 = some [.nilFunc] := by kernel_rfl
theorem if49 : ifaceB Try.prog 49 = some false := by kernel_rfl
theorem kd50 : kindB Try.prog 50 = some false := by kernel_rfl
theorem sz50 : sizeB Try.prog 50 = some 1 := by kernel_rfl
theorem zr50 : zeroB Try.prog 50 = some [.nilFunc] := by kernel_rfl
theorem if50 : ifaceB Try.prog 50 = some false := by kernel_rfl
theorem kd51 : kindB Try.prog 51 = some false := by kernel_rfl
theorem sz51 : sizeB Try.prog 51 = some 1 := by kernel_rfl
theorem zr51 : zeroB Try.prog 51 = some [.nilFunc] := by kernel_rfl
theorem if51 : ifaceB Try.prog 51 = some false := by kernel_rfl
theorem kd52 : kindB Try.prog 52 = some false := by kernel_rfl
theorem sz52 : sizeB Try.prog 52 = some 1 := by kernel_rfl
theorem zr52 : zeroB Try.prog 52 = some [.slice none 0 0] := by kernel_rfl
theorem sl52 : sliceB Try.prog 52 = true := by kernel_rfl
theorem el52 : elemB Try.prog 52 = some 1 := by kernel_rfl
theorem if52 : ifaceB Try.prog 52 = some false := by kernel_rfl
theorem kd53 : kindB Try.prog 53 = some false := by kernel_rfl
theorem sz53 : sizeB Try.prog 53 = some 1 := by kernel_rfl
theorem zr53 : zeroB Try.prog 53 = some [.nilFunc] := by kernel_rfl
theorem if53 : ifaceB Try.prog 53 = some false := by kernel_rfl
theorem kd54 : kindB Try.prog 54 = some false := by kernel_rfl
theorem sz54 : sizeB Try.prog 54 = some 1 := by kernel_rfl
theorem zr54 : zeroB Try.prog 54 = some [.nilFunc] := by kernel_rfl
theorem if54 : ifaceB Try.prog 54 = some false := by kernel_rfl
theorem kd55 : kindB Try.prog 55 = some false := by kernel_rfl
theorem sz55 : sizeB Try.prog 55 = some 1 := by kernel_rfl
theorem zr55 : zeroB Try.prog 55 = some [.nilFunc] := by kernel_rfl
theorem if55 : ifaceB Try.prog 55 = some false := by kernel_rfl
theorem kd56 : kindB Try.prog 56 = some false := by kernel_rfl
theorem sz56 : sizeB Try.prog 56 = some 1 := by kernel_rfl
theorem zr56 : zeroB Try.prog 56 = some [.nilFunc] := by kernel_rfl
theorem if56 : ifaceB Try.prog 56 = some false := by kernel_rfl
theorem kd57 : kindB Try.prog 57 = some false := by kernel_rfl
theorem sz57 : sizeB Try.prog 57 = some 1 := by kernel_rfl
theorem zr57 : zeroB Try.prog 57 = some [.slice none 0 0] := by kernel_rfl
theorem sl57 : sliceB Try.prog 57 = true := by kernel_rfl
theorem el57 : elemB Try.prog 57 = some 1 := by kernel_rfl
theorem if57 : ifaceB Try.prog 57 = some false := by kernel_rfl
theorem kd58 : kindB Try.prog 58 = some false := by kernel_rfl
theorem sz58 : sizeB Try.prog 58 = some 1 := by kernel_rfl
theorem zr58 : zeroB Try.prog 58 = some [.pointer none] := by kernel_rfl
theorem if58 : ifaceB Try.prog 58 = some false := by kernel_rfl
theorem kd59 : kindB Try.prog 59 = some false := by kernel_rfl
theorem sz59 : sizeB Try.prog 59 = some 1 := by kernel_rfl
theorem zr59 : zeroB Try.prog 59 = some [.nilFunc] := by kernel_rfl
theorem if59 : ifaceB Try.prog 59 = some false := by kernel_rfl
theorem kd60 : kindB Try.prog 60 = some false := by kernel_rfl
theorem sz60 : sizeB Try.prog 60 = some 1 := by kernel_rfl
theorem zr60 : zeroB Try.prog 60 = some [.nilFunc] := by kernel_rfl
theorem if60 : ifaceB Try.prog 60 = some false := by kernel_rfl
theorem kd61 : kindB Try.prog 61 = some false := by kernel_rfl
theorem sz61 : sizeB Try.prog 61 = some 1 := by kernel_rfl
theorem zr61 : zeroB Try.prog 61 = some [.int .i8 0] := by kernel_rfl
theorem if61 : ifaceB Try.prog 61 = some false := by kernel_rfl
theorem kd62 : kindB Try.prog 62 = some false := by kernel_rfl
theorem sz62 : sizeB Try.prog 62 = some 1 := by kernel_rfl
theorem zr62 : zeroB Try.prog 62 = some [.slice none 0 0] := by kernel_rfl
theorem sl62 : sliceB Try.prog 62 = true := by kernel_rfl
theorem el62 : elemB Try.prog 62 = some 3 := by kernel_rfl
theorem if62 : ifaceB Try.prog 62 = some false := by kernel_rfl
theorem kd63 : kindB Try.prog 63 = some false := by kernel_rfl
theorem sz63 : sizeB Try.prog 63 = some 1 := by kernel_rfl
theorem zr63 : zeroB Try.prog 63 = some [.nilFunc] := by kernel_rfl
theorem if63 : ifaceB Try.prog 63 = some false := by kernel_rfl
theorem kd64 : kindB Try.prog 64 = some false := by kernel_rfl
theorem sz64 : sizeB Try.prog 64 = some 1 := by kernel_rfl
theorem zr64 : zeroB Try.prog 64 = some [.nilFunc] := by kernel_rfl
theorem if64 : ifaceB Try.prog 64 = some false := by kernel_rfl
theorem kd65 : kindB Try.prog 65 = some false := by kernel_rfl
theorem sz65 : sizeB Try.prog 65 = some 1 := by kernel_rfl
theorem zr65 : zeroB Try.prog 65 = some [.nilFunc] := by kernel_rfl
theorem if65 : ifaceB Try.prog 65 = some false := by kernel_rfl
theorem kd66 : kindB Try.prog 66 = some true := by kernel_rfl
theorem sz66 : sizeB Try.prog 66 = some 2 := by kernel_rfl
theorem zr66 : zeroB Try.prog 66 = some [.int .i64 0, .int .i64 0] := by kernel_rfl
theorem fa66_0 : fieldB Try.prog 66 0 = some 0 := by kernel_rfl
theorem ft66_0 : fieldT Try.prog 66 0 = some (28, 0) := by kernel_rfl
theorem if66 : ifaceB Try.prog 66 = some false := by kernel_rfl
theorem kd67 : kindB Try.prog 67 = some true := by kernel_rfl
theorem sz67 : sizeB Try.prog 67 = some 2 := by kernel_rfl
theorem zr67 : zeroB Try.prog 67 = some [.int .i64 0, .int .i64 0] := by kernel_rfl
theorem fa67_0 : fieldB Try.prog 67 0 = some 0 := by kernel_rfl
theorem ft67_0 : fieldT Try.prog 67 0 = some (28, 0) := by kernel_rfl
theorem if67 : ifaceB Try.prog 67 = some false := by kernel_rfl
theorem kd68 : kindB Try.prog 68 = some false := by kernel_rfl
theorem sz68 : sizeB Try.prog 68 = some 1 := by kernel_rfl
theorem zr68 : zeroB Try.prog 68 = some [.slice none 0 0] := by kernel_rfl
theorem sl68 : sliceB Try.prog 68 = true := by kernel_rfl
theorem el68 : elemB Try.prog 68 = some 2 := by kernel_rfl
theorem if68 : ifaceB Try.prog 68 = some false := by kernel_rfl
theorem kd69 : kindB Try.prog 69 = some false := by kernel_rfl
theorem sz69 : sizeB Try.prog 69 = some 1 := by kernel_rfl
theorem zr69 : zeroB Try.prog 69 = some [.slice none 0 0] := by kernel_rfl
theorem sl69 : sliceB Try.prog 69 = true := by kernel_rfl
theorem el69 : elemB Try.prog 69 = some 2 := by kernel_rfl
theorem if69 : ifaceB Try.prog 69 = some false := by kernel_rfl
theorem kd70 : kindB Try.prog 70 = some false := by kernel_rfl
theorem sz70 : sizeB Try.prog 70 = some 1 := by kernel_rfl
theorem zr70 : zeroB Try.prog 70 = some [.nilFunc] := by kernel_rfl
theorem if70 : ifaceB Try.prog 70 = some false := by kernel_rfl
theorem kd71 : kindB Try.prog 71 = some false := by kernel_rfl
theorem sz71 : sizeB Try.prog 71 = some 1 := by kernel_rfl
theorem zr71 : zeroB Try.prog 71 = some [.nilFunc] := by kernel_rfl
theorem if71 : ifaceB Try.prog 71 = some false := by kernel_rfl
theorem kd72 : kindB Try.prog 72 = some false := by kernel_rfl
theorem sz72 : sizeB Try.prog 72 = some 1 := by kernel_rfl
theorem zr72 : zeroB Try.prog 72 = some [.nilFunc] := by kernel_rfl
theorem if72 : ifaceB Try.prog 72 = some false := by kernel_rfl
theorem kd73 : kindB Try.prog 73 = some false := by kernel_rfl
theorem sz73 : sizeB Try.prog 73 = some 1 := by kernel_rfl
theorem zr73 : zeroB Try.prog 73 = some [.slice none 0 0] := by kernel_rfl
theorem sl73 : sliceB Try.prog 73 = true := by kernel_rfl
theorem el73 : elemB Try.prog 73 = some 1 := by kernel_rfl
theorem if73 : ifaceB Try.prog 73 = some false := by kernel_rfl
theorem kd74 : kindB Try.prog 74 = some false := by kernel_rfl
theorem sz74 : sizeB Try.prog 74 = some 1 := by kernel_rfl
theorem zr74 : zeroB Try.prog 74 = some [.nilFunc] := by kernel_rfl
theorem if74 : ifaceB Try.prog 74 = some false := by kernel_rfl
theorem kd75 : kindB Try.prog 75 = some false := by kernel_rfl
theorem sz75 : sizeB Try.prog 75 = some 1 := by kernel_rfl
theorem zr75 : zeroB Try.prog 75 = some [.nilFunc] := by kernel_rfl
theorem if75 : ifaceB Try.prog 75 = some false := by kernel_rfl
theorem kd76 : kindB Try.prog 76 = some false := by kernel_rfl
theorem sz76 : sizeB Try.prog 76 = some 1 := by kernel_rfl
theorem zr76 : zeroB Try.prog 76 = some [.nilFunc] := by kernel_rfl
theorem if76 : ifaceB Try.prog 76 = some false := by kernel_rfl
theorem kd77 : kindB Try.prog 77 = some false := by kernel_rfl
theorem sz77 : sizeB Try.prog 77 = some 1 := by kernel_rfl
theorem zr77 : zeroB Try.prog 77 = some [.nilFunc] := by kernel_rfl
theorem if77 : ifaceB Try.prog 77 = some false := by kernel_rfl
theorem kd78 : kindB Try.prog 78 = some false := by kernel_rfl
theorem sz78 : sizeB Try.prog 78 = some 1 := by kernel_rfl
theorem zr78 : zeroB Try.prog 78 = some [.nilFunc] := by kernel_rfl
theorem if78 : ifaceB Try.prog 78 = some false := by kernel_rfl
theorem kd79 : kindB Try.prog 79 = some false := by kernel_rfl
theorem sz79 : sizeB Try.prog 79 = some 1 := by kernel_rfl
theorem zr79 : zeroB Try.prog 79 = some [.nilFunc] := by kernel_rfl
theorem if79 : ifaceB Try.prog 79 = some false := by kernel_rfl
theorem kd80 : kindB Try.prog 80 = some true := by kernel_rfl
theorem sz80 : sizeB Try.prog 80 = some 2 := by kernel_rfl
theorem zr80 : zeroB Try.prog 80 = some [.int .i64 0, .int .i64 0] := by kernel_rfl
theorem fa80_0 : fieldB Try.prog 80 0 = some 0 := by kernel_rfl
theorem ft80_0 : fieldT Try.prog 80 0 = some (3, 0) := by kernel_rfl
theorem fa80_1 : fieldB Try.prog 80 1 = some 1 := by kernel_rfl
theorem ft80_1 : fieldT Try.prog 80 1 = some (3, 1) := by kernel_rfl
theorem if80 : ifaceB Try.prog 80 = some false := by kernel_rfl
theorem kd81 : kindB Try.prog 81 = some true := by kernel_rfl
theorem sz81 : sizeB Try.prog 81 = some 2 := by kernel_rfl
theorem zr81 : zeroB Try.prog 81 = some [.int .i64 0, .int .i64 0] := by kernel_rfl
theorem fa81_0 : fieldB Try.prog 81 0 = some 0 := by kernel_rfl
theorem ft81_0 : fieldT Try.prog 81 0 = some (3, 0) := by kernel_rfl
theorem fa81_1 : fieldB Try.prog 81 1 = some 1 := by kernel_rfl
theorem ft81_1 : fieldT Try.prog 81 1 = some (3, 1) := by kernel_rfl
theorem if81 : ifaceB Try.prog 81 = some false := by kernel_rfl
theorem kd82 : kindB Try.prog 82 = some false := by kernel_rfl
theorem sz82 : sizeB Try.prog 82 = some 1 := by kernel_rfl
theorem if82 : ifaceB Try.prog 82 = some false := by kernel_rfl
theorem kd83 : kindB Try.prog 83 = some false := by kernel_rfl
theorem sz83 : sizeB Try.prog 83 = some 1 := by kernel_rfl
theorem zr83 : zeroB Try.prog 83 = some [.nilFunc] := by kernel_rfl
theorem if83 : ifaceB Try.prog 83 = some false := by kernel_rfl
theorem kd84 : kindB Try.prog 84 = some false := by kernel_rfl
theorem sz84 : sizeB Try.prog 84 = some 1 := by kernel_rfl
theorem zr84 : zeroB Try.prog 84 = some [.nilFunc] := by kernel_rfl
theorem if84 : ifaceB Try.prog 84 = some false := by kernel_rfl
theorem kd85 : kindB Try.prog 85 = some false := by kernel_rfl
theorem sz85 : sizeB Try.prog 85 = some 1 := by kernel_rfl
theorem zr85 : zeroB Try.prog 85 = some [.nilFunc] := by kernel_rfl
theorem if85 : ifaceB Try.prog 85 = some false := by kernel_rfl
theorem kd86 : kindB Try.prog 86 = some false := by kernel_rfl
theorem sz86 : sizeB Try.prog 86 = some 1 := by kernel_rfl
theorem if86 : ifaceB Try.prog 86 = some false := by kernel_rfl
theorem kd87 : kindB Try.prog 87 = some false := by kernel_rfl
theorem sz87 : sizeB Try.prog 87 = some 1 := by kernel_rfl
theorem zr87 : zeroB Try.prog 87 = some [.nilFunc] := by kernel_rfl
theorem if87 : ifaceB Try.prog 87 = some false := by kernel_rfl
theorem kd88 : kindB Try.prog 88 = some false := by kernel_rfl
theorem sz88 : sizeB Try.prog 88 = some 1 := by kernel_rfl
theorem zr88 : zeroB Try.prog 88 = some [.nilFunc] := by kernel_rfl
theorem if88 : ifaceB Try.prog 88 = some false := by kernel_rfl
theorem kd89 : kindB Try.prog 89 = some false := by kernel_rfl
theorem sz89 : sizeB Try.prog 89 = some 1 := by kernel_rfl
theorem zr89 : zeroB Try.prog 89 = some [.nilFunc] := by kernel_rfl
theorem if89 : ifaceB Try.prog 89 = some false := by kernel_rfl
theorem kd90 : kindB Try.prog 90 = some false := by kernel_rfl
theorem sz90 : sizeB Try.prog 90 = some 1 := by kernel_rfl
theorem zr90 : zeroB Try.prog 90 = some [.nilFunc] := by kernel_rfl
theorem if90 : ifaceB Try.prog 90 = some false := by kernel_rfl
theorem kd91 : kindB Try.prog 91 = some true := by kernel_rfl
theorem sz91 : sizeB Try.prog 91 = some 2 := by kernel_rfl
theorem zr91 : zeroB Try.prog 91 = some [.slice none 0 0, .int .i64 0] := by kernel_rfl
theorem fa91_0 : fieldB Try.prog 91 0 = some 0 := by kernel_rfl
theorem ft91_0 : fieldT Try.prog 91 0 = some (69, 0) := by kernel_rfl
theorem fa91_1 : fieldB Try.prog 91 1 = some 1 := by kernel_rfl
theorem ft91_1 : fieldT Try.prog 91 1 = some (3, 1) := by kernel_rfl
theorem if91 : ifaceB Try.prog 91 = some false := by kernel_rfl
theorem kd92 : kindB Try.prog 92 = some true := by kernel_rfl
theorem sz92 : sizeB Try.prog 92 = some 2 := by kernel_rfl
theorem zr92 : zeroB Try.prog 92 = some [.slice none 0 0, .int .i64 0] := by kernel_rfl
theorem fa92_0 : fieldB Try.prog 92 0 = some 0 := by kernel_rfl
theorem ft92_0 : fieldT Try.prog 92 0 = some (69, 0) := by kernel_rfl
theorem fa92_1 : fieldB Try.prog 92 1 = some 1 := by kernel_rfl
theorem ft92_1 : fieldT Try.prog 92 1 = some (3, 1) := by kernel_rfl
theorem if92 : ifaceB Try.prog 92 = some false := by kernel_rfl
theorem kd93 : kindB Try.prog 93 = some false := by kernel_rfl
theorem sz93 : sizeB Try.prog 93 = some 1 := by kernel_rfl
theorem zr93 : zeroB Try.prog 93 = some [.nilFunc] := by kernel_rfl
theorem if93 : ifaceB Try.prog 93 = some false := by kernel_rfl
theorem kd94 : kindB Try.prog 94 = some false := by kernel_rfl
theorem sz94 : sizeB Try.prog 94 = some 1 := by kernel_rfl
theorem zr94 : zeroB Try.prog 94 = some [.nilFunc] := by kernel_rfl
theorem if94 : ifaceB Try.prog 94 = some false := by kernel_rfl
theorem kd95 : kindB Try.prog 95 = some false := by kernel_rfl
theorem sz95 : sizeB Try.prog 95 = some 1 := by kernel_rfl
theorem zr95 : zeroB Try.prog 95 = some [.nilFunc] := by kernel_rfl
theorem if95 : ifaceB Try.prog 95 = some false := by kernel_rfl
theorem kd96 : kindB Try.prog 96 = some false := by kernel_rfl
theorem sz96 : sizeB Try.prog 96 = some 1 := by kernel_rfl
theorem zr96 : zeroB Try.prog 96 = some [.nilFunc] := by kernel_rfl
theorem if96 : ifaceB Try.prog 96 = some false := by kernel_rfl
theorem kd97 : kindB Try.prog 97 = some false := by kernel_rfl
theorem sz97 : sizeB Try.prog 97 = some 1 := by kernel_rfl
theorem zr97 : zeroB Try.prog 97 = some [.nilFunc] := by kernel_rfl
theorem if97 : ifaceB Try.prog 97 = some false := by kernel_rfl
theorem kd98 : kindB Try.prog 98 = some true := by kernel_rfl
theorem sz98 : sizeB Try.prog 98 = some 3 := by kernel_rfl
theorem zr98 : zeroB Try.prog 98 = some [.slice none 0 0, .slice none 0 0, .slice none 0 0] := by kernel_rfl
theorem fa98_0 : fieldB Try.prog 98 0 = some 0 := by kernel_rfl
theorem ft98_0 : fieldT Try.prog 98 0 = some (24, 0) := by kernel_rfl
theorem if98 : ifaceB Try.prog 98 = some false := by kernel_rfl
theorem kd99 : kindB Try.prog 99 = some true := by kernel_rfl
theorem sz99 : sizeB Try.prog 99 = some 3 := by kernel_rfl
theorem zr99 : zeroB Try.prog 99 = some [.slice none 0 0, .slice none 0 0, .slice none 0 0] := by kernel_rfl
theorem fa99_0 : fieldB Try.prog 99 0 = some 0 := by kernel_rfl
theorem ft99_0 : fieldT Try.prog 99 0 = some (24, 0) := by kernel_rfl
theorem if99 : ifaceB Try.prog 99 = some false := by kernel_rfl
theorem kd100 : kindB Try.prog 100 = some false := by kernel_rfl
theorem sz100 : sizeB Try.prog 100 = some 1 := by kernel_rfl
theorem zr100 : zeroB Try.prog 100 = some [.nilFunc] := by kernel_rfl
theorem if100 : ifaceB Try.prog 100 = some false := by kernel_rfl
theorem kd101 : kindB Try.prog 101 = some true := by kernel_rfl
theorem sz101 : sizeB Try.prog 101 = some 3 := by kernel_rfl
theorem zr101 : zeroB Try.prog 101 = some [.slice none 0 0, .slice none 0 0, .slice none 0 0] := by kernel_rfl
theorem fa101_0 : fieldB Try.prog 101 0 = some 0 := by kernel_rfl
theorem ft101_0 : fieldT Try.prog 101 0 = some (24, 0) := by kernel_rfl
theorem if101 : ifaceB Try.prog 101 = some false := by kernel_rfl
theorem kd102 : kindB Try.prog 102 = some false := by kernel_rfl
theorem sz102 : sizeB Try.prog 102 = some 1 := by kernel_rfl
theorem zr102 : zeroB Try.prog 102 = some [.int .u16 0] := by kernel_rfl
theorem if102 : ifaceB Try.prog 102 = some false := by kernel_rfl
theorem kd103 : kindB Try.prog 103 = some false := by kernel_rfl
theorem sz103 : sizeB Try.prog 103 = some 1 := by kernel_rfl
theorem zr103 : zeroB Try.prog 103 = some [.nilFunc] := by kernel_rfl
theorem if103 : ifaceB Try.prog 103 = some false := by kernel_rfl
theorem kd104 : kindB Try.prog 104 = some false := by kernel_rfl
theorem sz104 : sizeB Try.prog 104 = some 1 := by kernel_rfl
theorem zr104 : zeroB Try.prog 104 = some [.nilFunc] := by kernel_rfl
theorem if104 : ifaceB Try.prog 104 = some false := by kernel_rfl
theorem kd105 : kindB Try.prog 105 = some false := by kernel_rfl
theorem sz105 : sizeB Try.prog 105 = some 1 := by kernel_rfl
theorem zr105 : zeroB Try.prog 105 = some [.nilFunc] := by kernel_rfl
theorem if105 : ifaceB Try.prog 105 = some false := by kernel_rfl
theorem kd106 : kindB Try.prog 106 = some false := by kernel_rfl
theorem sz106 : sizeB Try.prog 106 = some 1 := by kernel_rfl
theorem zr106 : zeroB Try.prog 106 = some [.nilFunc] := by kernel_rfl
theorem if106 : ifaceB Try.prog 106 = some false := by kernel_rfl
theorem kd107 : kindB Try.prog 107 = some false := by kernel_rfl
theorem sz107 : sizeB Try.prog 107 = some 1 := by kernel_rfl
theorem zr107 : zeroB Try.prog 107 = some [.nilFunc] := by kernel_rfl
theorem if107 : ifaceB Try.prog 107 = some false := by kernel_rfl
theorem kd108 : kindB Try.prog 108 = some false := by kernel_rfl
theorem sz108 : sizeB Try.prog 108 = some 1 := by kernel_rfl
theorem zr108 : zeroB Try.prog 108 = some [.slice none 0 0] := by kernel_rfl
theorem sl108 : sliceB Try.prog 108 = true := by kernel_rfl
theorem el108 : elemB Try.prog 108 = some 3 := by kernel_rfl
theorem if108 : ifaceB Try.prog 108 = some false := by kernel_rfl
theorem kd109 : kindB Try.prog 109 = some false := by kernel_rfl
theorem sz109 : sizeB Try.prog 109 = some 1 := by kernel_rfl
theorem zr109 : zeroB Try.prog 109 = some [.nilFunc] := by kernel_rfl
theorem if109 : ifaceB Try.prog 109 = some false := by kernel_rfl
theorem kd110 : kindB Try.prog 110 = some false := by kernel_rfl
theorem sz110 : sizeB Try.prog 110 = some 1 := by kernel_rfl
theorem zr110 : zeroB Try.prog 110 = some [.nilFunc] := by kernel_rfl
theorem if110 : ifaceB Try.prog 110 = some false := by kernel_rfl
theorem kd111 : kindB Try.prog 111 = some false := by kernel_rfl
theorem sz111 : sizeB Try.prog 111 = some 1 := by kernel_rfl
theorem zr111 : zeroB Try.prog 111 = some [.nilFunc] := by kernel_rfl
theorem if111 : ifaceB Try.prog 111 = some false := by kernel_rfl
theorem kd112 : kindB Try.prog 112 = some false := by kernel_rfl
theorem sz112 : sizeB Try.prog 112 = some 1 := by kernel_rfl
theorem zr112 : zeroB Try.prog 112 = some [.nilFunc] := by kernel_rfl
theorem if112 : ifaceB Try.prog 112 = some false := by kernel_rfl
theorem kd113 : kindB Try.prog 113 = some false := by kernel_rfl
theorem sz113 : sizeB Try.prog 113 = some 1 := by kernel_rfl
theorem zr113 : zeroB Try.prog 113 = some [.nilFunc] := by kernel_rfl
theorem if113 : ifaceB Try.prog 113 = some false := by kernel_rfl
theorem kd114 : kindB Try.prog 114 = some false := by kernel_rfl
theorem sz114 : sizeB Try.prog 114 = some 1 := by kernel_rfl
theorem if114 : ifaceB Try.prog 114 = some false := by kernel_rfl
theorem kd115 : kindB Try.prog 115 = some false := by kernel_rfl
theorem sz115 : sizeB Try.prog 115 = some 1 := by kernel_rfl
theorem zr115 : zeroB Try.prog 115 = some [.nilFunc] := by kernel_rfl
theorem if115 : ifaceB Try.prog 115 = some false := by kernel_rfl
theorem kd116 : kindB Try.prog 116 = some false := by kernel_rfl
theorem sz116 : sizeB Try.prog 116 = some 1 := by kernel_rfl
theorem zr116 : zeroB Try.prog 116 = some [.nilFunc] := by kernel_rfl
theorem if116 : ifaceB Try.prog 116 = some false := by kernel_rfl
theorem kd117 : kindB Try.prog 117 = some false := by kernel_rfl
theorem sz117 : sizeB Try.prog 117 = some 1 := by kernel_rfl
theorem zr117 : zeroB Try.prog 117 = some [.nilFunc] := by kernel_rfl
theorem if117 : ifaceB Try.prog 117 = some false := by kernel_rfl
theorem kd118 : kindB Try.prog 118 = some false := by kernel_rfl
theorem sz118 : sizeB Try.prog 118 = some 1 := by kernel_rfl
theorem zr118 : zeroB Try.prog 118 = some [.int .u64 0] := by kernel_rfl
theorem if118 : ifaceB Try.prog 118 = some false := by kernel_rfl
theorem kd119 : kindB Try.prog 119 = some false := by kernel_rfl
theorem sz119 : sizeB Try.prog 119 = some 1 := by kernel_rfl
theorem zr119 : zeroB Try.prog 119 = some [.nilFunc] := by kernel_rfl
theorem if119 : ifaceB Try.prog 119 = some false := by kernel_rfl
theorem kd120 : kindB Try.prog 120 = some false := by kernel_rfl
theorem sz120 : sizeB Try.prog 120 = some 1 := by kernel_rfl
theorem zr120 : zeroB Try.prog 120 = some [.nilIface] := by kernel_rfl
theorem kd121 : kindB Try.prog 121 = some false := by kernel_rfl
theorem sz121 : sizeB Try.prog 121 = some 1 := by kernel_rfl
theorem zr121 : zeroB Try.prog 121 = some [.nilIface] := by kernel_rfl
theorem kd122 : kindB Try.prog 122 = some false := by kernel_rfl
theorem sz122 : sizeB Try.prog 122 = some 1 := by kernel_rfl
theorem if122 : ifaceB Try.prog 122 = some false := by kernel_rfl
theorem kd123 : kindB Try.prog 123 = some true := by kernel_rfl
theorem sz123 : sizeB Try.prog 123 = some 3 := by kernel_rfl
theorem zr123 : zeroB Try.prog 123 = some [.int .i64 0, .int .i64 0, .nilFunc] := by kernel_rfl
theorem fa123_0 : fieldB Try.prog 123 0 = some 0 := by kernel_rfl
theorem ft123_0 : fieldT Try.prog 123 0 = some (67, 0) := by kernel_rfl
theorem fa123_1 : fieldB Try.prog 123 1 = some 2 := by kernel_rfl
theorem ft123_1 : fieldT Try.prog 123 1 = some (76, 2) := by kernel_rfl
theorem if123 : ifaceB Try.prog 123 = some false := by kernel_rfl
theorem kd124 : kindB Try.prog 124 = some true := by kernel_rfl
theorem sz124 : sizeB Try.prog 124 = some 3 := by kernel_rfl
theorem zr124 : zeroB Try.prog 124 = some [.int .i64 0, .int .i64 0, .nilFunc] := by kernel_rfl
theorem fa124_0 : fieldB Try.prog 124 0 = some 0 := by kernel_rfl
theorem ft124_0 : fieldT Try.prog 124 0 = some (67, 0) := by kernel_rfl
theorem fa124_1 : fieldB Try.prog 124 1 = some 2 := by kernel_rfl
theorem ft124_1 : fieldT Try.prog 124 1 = some (76, 2) := by kernel_rfl
theorem if124 : ifaceB Try.prog 124 = some false := by kernel_rfl
theorem kd125 : kindB Try.prog 125 = some false := by kernel_rfl
theorem sz125 : sizeB Try.prog 125 = some 1 := by kernel_rfl
theorem zr125 : zeroB Try.prog 125 = some [.map none] := by kernel_rfl
theorem if125 : ifaceB Try.prog 125 = some false := by kernel_rfl
theorem kd126 : kindB Try.prog 126 = some false := by kernel_rfl
theorem sz126 : sizeB Try.prog 126 = some 1 := by kernel_rfl
theorem zr126 : zeroB Try.prog 126 = some [.nilFunc] := by kernel_rfl
theorem if126 : ifaceB Try.prog 126 = some false := by kernel_rfl
theorem kd127 : kindB Try.prog 127 = some true := by kernel_rfl
theorem sz127 : sizeB Try.prog 127 = some 2 := by kernel_rfl
theorem zr127 : zeroB Try.prog 127 = some [.int .i64 0, .int .i64 0] := by kernel_rfl
theorem ar127 : arrB Try.prog 127 = some (2, 1) := by kernel_rfl
theorem if127 : ifaceB Try.prog 127 = some false := by kernel_rfl
theorem kd128 : kindB Try.prog 128 = some true := by kernel_rfl
theorem sz128 : sizeB Try.prog 128 = some 3 := by kernel_rfl
theorem zr128 : zeroB Try.prog 128 = some [.int .i64 0, .int .i64 0, .int .i64 0] := by kernel_rfl
theorem fa128_0 : fieldB Try.prog 128 0 = some 0 := by kernel_rfl
theorem ft128_0 : fieldT Try.prog 128 0 = some (3, 0) := by kernel_rfl
theorem fa128_1 : fieldB Try.prog 128 1 = some 1 := by kernel_rfl
theorem ft128_1 : fieldT Try.prog 128 1 = some (127, 1) := by kernel_rfl
theorem if128 : ifaceB Try.prog 128 = some false := by kernel_rfl
theorem kd129 : kindB Try.prog 129 = some true := by kernel_rfl
theorem sz129 : sizeB Try.prog 129 = some 3 := by kernel_rfl
theorem zr129 : zeroB Try.prog 129 = some [.int .i64 0, .int .i64 0, .int .i64 0] := by kernel_rfl
theorem fa129_0 : fieldB Try.prog 129 0 = some 0 := by kernel_rfl
theorem ft129_0 : fieldT Try.prog 129 0 = some (3, 0) := by kernel_rfl
theorem fa129_1 : fieldB Try.prog 129 1 = some 1 := by kernel_rfl
theorem ft129_1 : fieldT Try.prog 129 1 = some (127, 1) := by kernel_rfl
theorem if129 : ifaceB Try.prog 129 = some false := by kernel_rfl
theorem kd130 : kindB Try.prog 130 = some false := by kernel_rfl
theorem sz130 : sizeB Try.prog 130 = some 1 := by kernel_rfl
theorem zr130 : zeroB Try.prog 130 = some [.nilFunc] := by kernel_rfl
theorem if130 : ifaceB Try.prog 130 = some false := by kernel_rfl
theorem kd131 : kindB Try.prog 131 = some false := by kernel_rfl
theorem sz131 : sizeB Try.prog 131 = some 1 := by kernel_rfl
theorem zr131 : zeroB Try.prog 131 = some [.nilFunc] := by kernel_rfl
theorem if131 : ifaceB Try.prog 131 = some false := by kernel_rfl
theorem kd132 : kindB Try.prog 132 = some false := by kernel_rfl
theorem sz132 : sizeB Try.prog 132 = some 1 := by kernel_rfl
theorem zr132 : zeroB Try.prog 132 = some [.pointer none] := by kernel_rfl
theorem if132 : ifaceB Try.prog 132 = some false := by kernel_rfl
theorem kd133 : kindB Try.prog 133 = some false := by kernel_rfl
theorem sz133 : sizeB Try.prog 133 = some 1 := by kernel_rfl
theorem zr133 : zeroB Try.prog 133 = some [.nilFunc] := by kernel_rfl
theorem if133 : ifaceB Try.prog 133 = some false := by kernel_rfl
theorem kd134 : kindB Try.prog 134 = some false := by kernel_rfl
theorem sz134 : sizeB Try.prog 134 = some 1 := by kernel_rfl
theorem zr134 : zeroB Try.prog 134 = some [.int .u32 0] := by kernel_rfl
theorem if134 : ifaceB Try.prog 134 = some false := by kernel_rfl
theorem kd135 : kindB Try.prog 135 = some false := by kernel_rfl
theorem sz135 : sizeB Try.prog 135 = some 1 := by kernel_rfl
theorem zr135 : zeroB Try.prog 135 = some [.nilFunc] := by kernel_rfl
theorem if135 : ifaceB Try.prog 135 = some false := by kernel_rfl
theorem kd136 : kindB Try.prog 136 = some false := by kernel_rfl
theorem sz136 : sizeB Try.prog 136 = some 1 := by kernel_rfl
theorem zr136 : zeroB Try.prog 136 = some [.int .u64 0] := by kernel_rfl
theorem if136 : ifaceB Try.prog 136 = some false := by kernel_rfl
theorem kd137 : kindB Try.prog 137 = some false := by kernel_rfl
theorem sz137 : sizeB Try.prog 137 = some 1 := by kernel_rfl
theorem zr137 : zeroB Try.prog 137 = some [.nilFunc] := by kernel_rfl
theorem if137 : ifaceB Try.prog 137 = some false := by kernel_rfl
theorem kd138 : kindB Try.prog 138 = some true := by kernel_rfl
theorem sz138 : sizeB Try.prog 138 = some 4 := by kernel_rfl
theorem fa138_0 : fieldB Try.prog 138 0 = some 0 := by kernel_rfl
theorem ft138_0 : fieldT Try.prog 138 0 = some (17, 0) := by kernel_rfl
theorem fa138_1 : fieldB Try.prog 138 1 = some 1 := by kernel_rfl
theorem ft138_1 : fieldT Try.prog 138 1 = some (17, 1) := by kernel_rfl
theorem fa138_2 : fieldB Try.prog 138 2 = some 2 := by kernel_rfl
theorem ft138_2 : fieldT Try.prog 138 2 = some (17, 2) := by kernel_rfl
theorem fa138_3 : fieldB Try.prog 138 3 = some 3 := by kernel_rfl
theorem ft138_3 : fieldT Try.prog 138 3 = some (9, 3) := by kernel_rfl
theorem if138 : ifaceB Try.prog 138 = some false := by kernel_rfl
theorem kd139 : kindB Try.prog 139 = some true := by kernel_rfl
theorem sz139 : sizeB Try.prog 139 = some 4 := by kernel_rfl
theorem fa139_0 : fieldB Try.prog 139 0 = some 0 := by kernel_rfl
theorem ft139_0 : fieldT Try.prog 139 0 = some (17, 0) := by kernel_rfl
theorem fa139_1 : fieldB Try.prog 139 1 = some 1 := by kernel_rfl
theorem ft139_1 : fieldT Try.prog 139 1 = some (17, 1) := by kernel_rfl
theorem fa139_2 : fieldB Try.prog 139 2 = some 2 := by kernel_rfl
theorem ft139_2 : fieldT Try.prog 139 2 = some (17, 2) := by kernel_rfl
theorem fa139_3 : fieldB Try.prog 139 3 = some 3 := by kernel_rfl
theorem ft139_3 : fieldT Try.prog 139 3 = some (9, 3) := by kernel_rfl
theorem if139 : ifaceB Try.prog 139 = some false := by kernel_rfl
theorem kd140 : kindB Try.prog 140 = some true := by kernel_rfl
theorem sz140 : sizeB Try.prog 140 = some 0 := by kernel_rfl
theorem zr140 : zeroB Try.prog 140 = some [] := by kernel_rfl
theorem ar140 : arrB Try.prog 140 = some (0, 1) := by kernel_rfl
theorem if140 : ifaceB Try.prog 140 = some false := by kernel_rfl
theorem kd141 : kindB Try.prog 141 = some true := by kernel_rfl
theorem sz141 : sizeB Try.prog 141 = some 0 := by kernel_rfl
theorem zr141 : zeroB Try.prog 141 = some [] := by kernel_rfl
theorem if141 : ifaceB Try.prog 141 = some false := by kernel_rfl
theorem kd142 : kindB Try.prog 142 = some true := by kernel_rfl
theorem sz142 : sizeB Try.prog 142 = some 0 := by kernel_rfl
theorem zr142 : zeroB Try.prog 142 = some [] := by kernel_rfl
theorem if142 : ifaceB Try.prog 142 = some false := by kernel_rfl
theorem kd143 : kindB Try.prog 143 = some false := by kernel_rfl
theorem sz143 : sizeB Try.prog 143 = some 1 := by kernel_rfl
theorem zr143 : zeroB Try.prog 143 = some [.int .u8 0] := by kernel_rfl
theorem if143 : ifaceB Try.prog 143 = some false := by kernel_rfl
theorem kd144 : kindB Try.prog 144 = some false := by kernel_rfl
theorem sz144 : sizeB Try.prog 144 = some 1 := by kernel_rfl
theorem zr144 : zeroB Try.prog 144 = some [.int .u8 0] := by kernel_rfl
theorem if144 : ifaceB Try.prog 144 = some false := by kernel_rfl
theorem kd145 : kindB Try.prog 145 = some false := by kernel_rfl
theorem sz145 : sizeB Try.prog 145 = some 1 := by kernel_rfl
theorem zr145 : zeroB Try.prog 145 = some [.nilFunc] := by kernel_rfl
theorem if145 : ifaceB Try.prog 145 = some false := by kernel_rfl
theorem kd146 : kindB Try.prog 146 = some false := by kernel_rfl
theorem sz146 : sizeB Try.prog 146 = some 1 := by kernel_rfl
theorem zr146 : zeroB Try.prog 146 = some [.pointer none] := by kernel_rfl
theorem if146 : ifaceB Try.prog 146 = some false := by kernel_rfl
theorem kd147 : kindB Try.prog 147 = some false := by kernel_rfl
theorem sz147 : sizeB Try.prog 147 = some 1 := by kernel_rfl
theorem zr147 : zeroB Try.prog 147 = some [.int .i32 0] := by kernel_rfl
theorem if147 : ifaceB Try.prog 147 = some false := by kernel_rfl
theorem kd148 : kindB Try.prog 148 = some false := by kernel_rfl
theorem sz148 : sizeB Try.prog 148 = some 1 := by kernel_rfl
theorem zr148 : zeroB Try.prog 148 = some [.int .i32 0] := by kernel_rfl
theorem if148 : ifaceB Try.prog 148 = some false := by kernel_rfl
theorem kd149 : kindB Try.prog 149 = some true := by kernel_rfl
theorem sz149 : sizeB Try.prog 149 = some 11 := by kernel_rfl
theorem zr149 : zeroB Try.prog 149 = some [.int .u64 0, .int .u64 0, .int .u32 0, .int .u8 0, .int .u8 0, .int .u8 0, .int .u8 0, .nilFunc, .pointer none, .int .i32 0, .int .i32 0] := by kernel_rfl
theorem fa149_0 : fieldB Try.prog 149 0 = some 0 := by kernel_rfl
theorem ft149_0 : fieldT Try.prog 149 0 = some (12, 0) := by kernel_rfl
theorem fa149_1 : fieldB Try.prog 149 1 = some 1 := by kernel_rfl
theorem ft149_1 : fieldT Try.prog 149 1 = some (12, 1) := by kernel_rfl
theorem fa149_2 : fieldB Try.prog 149 2 = some 2 := by kernel_rfl
theorem ft149_2 : fieldT Try.prog 149 2 = some (134, 2) := by kernel_rfl
theorem fa149_3 : fieldB Try.prog 149 3 = some 3 := by kernel_rfl
theorem ft149_3 : fieldT Try.prog 149 3 = some (143, 3) := by kernel_rfl
theorem fa149_4 : fieldB Try.prog 149 4 = some 4 := by kernel_rfl
theorem ft149_4 : fieldT Try.prog 149 4 = some (5, 4) := by kernel_rfl
theorem fa149_5 : fieldB Try.prog 149 5 = some 5 := by kernel_rfl
theorem ft149_5 : fieldT Try.prog 149 5 = some (5, 5) := by kernel_rfl
theorem fa149_6 : fieldB Try.prog 149 6 = some 6 := by kernel_rfl
theorem ft149_6 : fieldT Try.prog 149 6 = some (144, 6) := by kernel_rfl
theorem fa149_7 : fieldB Try.prog 149 7 = some 7 := by kernel_rfl
theorem ft149_7 : fieldT Try.prog 149 7 = some (145, 7) := by kernel_rfl
theorem fa149_8 : fieldB Try.prog 149 8 = some 8 := by kernel_rfl
theorem ft149_8 : fieldT Try.prog 149 8 = some (146, 8) := by kernel_rfl
theorem fa149_9 : fieldB Try.prog 149 9 = some 9 := by kernel_rfl
theorem ft149_9 : fieldT Try.prog 149 9 = some (147, 9) := by kernel_rfl
theorem fa149_10 : fieldB Try.prog 149 10 = some 10 := by kernel_rfl
theorem ft149_10 : fieldT Try.prog 149 10 = some (148, 10) := by kernel_rfl
theorem if149 : ifaceB Try.prog 149 = some false := by kernel_rfl
theorem kd150 : kindB Try.prog 150 = some true := by kernel_rfl
theorem sz150 : sizeB Try.prog 150 = some 11 := by kernel_rfl
theorem zr150 : zeroB Try.prog 150 = some [.int .u64 0, .int .u64 0, .int .u32 0, .int .u8 0, .int .u8 0, .int .u8 0, .int .u8 0, .nilFunc, .pointer none, .int .i32 0, .int .i32 0] := by kernel_rfl
theorem fa150_0 : fieldB Try.prog 150 0 = some 0 := by kernel_rfl
theorem ft150_0 : fieldT Try.prog 150 0 = some (12, 0) := by kernel_rfl
theorem fa150_1 : fieldB Try.prog 150 1 = some 1 := by kernel_rfl
theorem ft150_1 : fieldT Try.prog 150 1 = some (12, 1) := by kernel_rfl
theorem fa150_2 : fieldB Try.prog 150 2 = some 2 := by kernel_rfl
theorem ft150_2 : fieldT Try.prog 150 2 = some (134, 2) := by kernel_rfl
theorem fa150_3 : fieldB Try.prog 150 3 = some 3 := by kernel_rfl
theorem ft150_3 : fieldT Try.prog 150 3 = some (143, 3) := by kernel_rfl
theorem fa150_4 : fieldB Try.prog 150 4 = some 4 := by kernel_rfl
theorem ft150_4 : fieldT Try.prog 150 4 = some (5, 4) := by kernel_rfl
theorem fa150_5 : fieldB Try.prog 150 5 = some 5 := by kernel_rfl
theorem ft150_5 : fieldT Try.prog 150 5 = some (5, 5) := by kernel_rfl
theorem fa150_6 : fieldB Try.prog 150 6 = some 6 := by kernel_rfl
theorem ft150_6 : fieldT Try.prog 150 6 = some (144, 6) := by kernel_rfl
theorem fa150_7 : fieldB Try.prog 150 7 = some 7 := by kernel_rfl
theorem ft150_7 : fieldT Try.prog 150 7 = some (145, 7) := by kernel_rfl
theorem fa150_8 : fieldB Try.prog 150 8 = some 8 := by kernel_rfl
theorem ft150_8 : fieldT Try.prog 150 8 = some (146, 8) := by kernel_rfl
theorem fa150_9 : fieldB Try.prog 150 9 = some 9 := by kernel_rfl
theorem ft150_9 : fieldT Try.prog 150 9 = some (147, 9) := by kernel_rfl
theorem fa150_10 : fieldB Try.prog 150 10 = some 10 := by kernel_rfl
theorem ft150_10 : fieldT Try.prog 150 10 = some (148, 10) := by kernel_rfl
theorem if150 : ifaceB Try.prog 150 = some false := by kernel_rfl
theorem kd151 : kindB Try.prog 151 = some false := by kernel_rfl
theorem sz151 : sizeB Try.prog 151 = some 1 := by kernel_rfl
theorem zr151 : zeroB Try.prog 151 = some [.nilFunc] := by kernel_rfl
theorem if151 : ifaceB Try.prog 151 = some false := by kernel_rfl
theorem kd152 : kindB Try.prog 152 = some false := by kernel_rfl
theorem sz152 : sizeB Try.prog 152 = some 1 := by kernel_rfl
theorem zr152 : zeroB Try.prog 152 = some [.pointer none] := by kernel_rfl
theorem if152 : ifaceB Try.prog 152 = some false := by kernel_rfl
set_option maxHeartbeats 4000000 in
theorem eql28 {a0 : Int} {a1 : Int} {b0 : Int} {b1 : Int} {r : Bool} (h : (decide (a0 = b0) && decide (a1 = b1)) = r) (w : World) : (binOp .eql 28 (.agg [.int .i64 a0, .int .i64 a1].toArray) (.agg [.int .i64 b0, .int .i64 b1].toArray)).run Try.prog w = .ok (.bool r) w := by
  subst h
  by_cases h0 : a0 = b0 <;> by_cases h1 : a1 = b1 <;> simp [go_sem, h0, h1]
theorem eg28 : Try.prog.eqGuardType Try.prog.depth 28 = false := by kernel_rfl
theorem bs33_1_0 {x0_ : Int} (w : World) : (Instr.buildSlice 33 1 [(0, .int .i64 x0_)].toArray).run Try.prog w = .ok (.slice (some ⟨w.heap.size, 0, none⟩) 1 1) (w.alloc (Obj.cells [.int .i64 x0_].toArray 3 (0, 0))) := by simp [go_sem]
theorem ap33 : appB Try.prog 33 3 1 8 = true := by kernel_rfl
theorem bs22_1_0 {x0_0 : Int} {x0_1 : Int} (w : World) : (Instr.buildSlice 22 1 [(0, .agg #[.int .i64 x0_0, .int .i64 x0_1])].toArray).run Try.prog w = .ok (.slice (some ⟨w.heap.size, 0, none⟩) 1 1) (w.alloc (Obj.cells [.int .i64 x0_0, .int .i64 x0_1].toArray 28 (0, 0))) := by simp [go_sem]
theorem ap22 : appB Try.prog 22 28 2 16 = true := by kernel_rfl
theorem bd28_  (w : World) : (Instr.build 28 [].toArray).run Try.prog w = .ok (.agg [.int .i64 0, .int .i64 0].toArray) w := by simp [go_sem]
theorem cv5_3 {a c : Int} (h : IntKind.i64.wrap a = c) (w : World) : (convert 5 3 (.int .u8 a)).run Try.prog w = .ok (.int .i64 c) w := by
  subst h
  simp [go_sem, convert]
theorem bl4 : boolB Try.prog 4 = true := by kernel_rfl
theorem bs22_0_  (w : World) : (Instr.buildSlice 22 0 [].toArray).run Try.prog w = .ok (.slice (some ⟨w.heap.size, 0, none⟩) 0 0) (w.alloc (Obj.cells [].toArray 28 (0, 0))) := by simp [go_sem]
theorem bs57_3_0_1_2 {x0_a : Option Addr} {x0_l x0_c : Nat} {x1_a : Option Addr} {x1_l x1_c : Nat} {x2_a : Option Addr} {x2_l x2_c : Nat} (w : World) : (Instr.buildSlice 57 3 [(0, .slice x0_a x0_l x0_c), (1, .slice x1_a x1_l x1_c), (2, .slice x2_a x2_l x2_c)].toArray).run Try.prog w = .ok (.slice (some ⟨w.heap.size, 0, none⟩) 3 3) (w.alloc (Obj.cells [.slice x0_a x0_l x0_c, .slice x1_a x1_l x1_c, .slice x2_a x2_l x2_c].toArray 22 (0, 0))) := by simp [go_sem]
theorem bd24_  (w : World) : (Instr.build 24 [].toArray).run Try.prog w = .ok (.agg [.slice none 0 0, .slice none 0 0, .slice none 0 0].toArray) w := by simp [go_sem]
theorem cv61_3 {a c : Int} (h : IntKind.i64.wrap a = c) (w : World) : (convert 61 3 (.int .i8 a)).run Try.prog w = .ok (.int .i64 c) w := by
  subst h
  simp [go_sem, convert]
theorem bs62_3_0_1_2 {x0_0a : Option Addr} {x0_0l x0_0c : Nat} {x0_1a : Option Addr} {x0_1l x0_1c : Nat} {x0_2a : Option Addr} {x0_2l x0_2c : Nat} {x1_0a : Option Addr} {x1_0l x1_0c : Nat} {x1_1a : Option Addr} {x1_1l x1_1c : Nat} {x1_2a : Option Addr} {x1_2l x1_2c : Nat} {x2_0a : Option Addr} {x2_0l x2_0c : Nat} {x2_1a : Option Addr} {x2_1l x2_1c : Nat} {x2_2a : Option Addr} {x2_2l x2_2c : Nat} (w : World) : (Instr.buildSlice 62 3 [(0, .agg #[.slice x0_0a x0_0l x0_0c, .slice x0_1a x0_1l x0_1c, .slice x0_2a x0_2l x0_2c]), (1, .agg #[.slice x1_0a x1_0l x1_0c, .slice x1_1a x1_1l x1_1c, .slice x1_2a x1_2l x1_2c]), (2, .agg #[.slice x2_0a x2_0l x2_0c, .slice x2_1a x2_1l x2_1c, .slice x2_2a x2_2l x2_2c])].toArray).run Try.prog w = .ok (.slice (some ⟨w.heap.size, 0, none⟩) 3 3) (w.alloc (Obj.cells [.slice x0_0a x0_0l x0_0c, .slice x0_1a x0_1l x0_1c, .slice x0_2a x0_2l x0_2c, .slice x1_0a x1_0l x1_0c, .slice x1_1a x1_1l x1_1c, .slice x1_2a x1_2l x1_2c, .slice x2_0a x2_0l x2_0c, .slice x2_1a x2_1l x2_1c, .slice x2_2a x2_2l x2_2c].toArray 24 (0, 0))) := by simp [go_sem]
set_option maxHeartbeats 4000000 in
theorem neq28 {a0 : Int} {a1 : Int} {b0 : Int} {b1 : Int} {r : Bool} (h : (!(decide (a0 = b0) && decide (a1 = b1))) = r) (w : World) : (binOp .neq 28 (.agg [.int .i64 a0, .int .i64 a1].toArray) (.agg [.int .i64 b0, .int .i64 b1].toArray)).run Try.prog w = .ok (.bool r) w := by
  subst h
  by_cases h0 : a0 = b0 <;> by_cases h1 : a1 = b1 <;> simp [go_sem, h0, h1]

theorem bs33_5_0_1_2_3_4 {x0_ : Int} {x1_ : Int} {x2_ : Int} {x3_ : Int} {x4_ : Int} (w : World) : (Instr.buildSlice 33 5 [(0, .int .i64 x0_), (1, .int .i64 x1_), (2, .int .i64 x2_), (3, .int .i64 x3_), (4, .int .i64 x4_)].toArray).run Try.prog w = .ok (.slice (some ⟨w.heap.size, 0, none⟩) 5 5) (w.alloc (Obj.cells [.int .i64 x0_, .int .i64 x1_, .int .i64 x2_, .int .i64 x3_, .int .i64 x4_].toArray 3 (0, 0))) := by simp [go_sem]
theorem bd28_0_1 {x0_ : Int} {x1_ : Int} (w : World) : (Instr.build 28 [(0, .int .i64 x0_), (1, .int .i64 x1_)].toArray).run Try.prog w = .ok (.agg [.int .i64 x0_, .int .i64 x1_].toArray) w := by simp [go_sem]
theorem bs22_5_0_1_2_3_4 {x0_0 : Int} {x0_1 : Int} {x1_0 : Int} {x1_1 : Int} {x2_0 : Int} {x2_1 : Int} {x3_0 : Int} {x3_1 : Int} {x4_0 : Int} {x4_1 : Int} (w : World) : (Instr.buildSlice 22 5 [(0, .agg #[.int .i64 x0_0, .int .i64 x0_1]), (1, .agg #[.int .i64 x1_0, .int .i64 x1_1]), (2, .agg #[.int .i64 x2_0, .int .i64 x2_1]), (3, .agg #[.int .i64 x3_0, .int .i64 x3_1]), (4, .agg #[.int .i64 x4_0, .int .i64 x4_1])].toArray).run Try.prog w = .ok (.slice (some ⟨w.heap.size, 0, none⟩) 5 5) (w.alloc (Obj.cells [.int .i64 x0_0, .int .i64 x0_1, .int .i64 x1_0, .int .i64 x1_1, .int .i64 x2_0, .int .i64 x2_1, .int .i64 x3_0, .int .i64 x3_1, .int .i64 x4_0, .int .i64 x4_1].toArray 28 (0, 0))) := by simp [go_sem]
theorem bd24_0_2 {x0_a : Option Addr} {x0_l x0_c : Nat} {x2_a : Option Addr} {x2_l x2_c : Nat} (w : World) : (Instr.build 24 [(0, .slice x0_a x0_l x0_c), (2, .slice x2_a x2_l x2_c)].toArray).run Try.prog w = .ok (.agg [.slice x0_a x0_l x0_c, .slice none 0 0, .slice x2_a x2_l x2_c].toArray) w := by simp [go_sem]
theorem bd67_0 {x0_0 : Int} {x0_1 : Int} (w : World) : (Instr.build 67 [(0, .agg #[.int .i64 x0_0, .int .i64 x0_1])].toArray).run Try.prog w = .ok (.agg [.int .i64 x0_0, .int .i64 x0_1].toArray) w := by simp [go_sem]
theorem bs69_1_0 {x0_0 : Int} {x0_1 : Int} (w : World) : (Instr.buildSlice 69 1 [(0, .agg #[.int .i64 x0_0, .int .i64 x0_1])].toArray).run Try.prog w = .ok (.slice (some ⟨w.heap.size, 0, none⟩) 1 1) (w.alloc (Obj.cells [.int .i64 x0_0, .int .i64 x0_1].toArray 67 (0, 0))) := by simp [go_sem]
theorem ap69 : appB Try.prog 69 67 2 16 = true := by kernel_rfl
theorem bd92_0_1 {x0_a : Option Addr} {x0_l x0_c : Nat} {x1_ : Int} (w : World) : (Instr.build 92 [(0, .slice x0_a x0_l x0_c), (1, .int .i64 x1_)].toArray).run Try.prog w = .ok (.agg [.slice x0_a x0_l x0_c, .int .i64 x1_].toArray) w := by simp [go_sem]
theorem bs33_0_  (w : World) : (Instr.buildSlice 33 0 [].toArray).run Try.prog w = .ok (.slice (some ⟨w.heap.size, 0, none⟩) 0 0) (w.alloc (Obj.cells [].toArray 3 (0, 0))) := by simp [go_sem]
theorem bd99_0 {x0_0a : Option Addr} {x0_0l x0_0c : Nat} {x0_1a : Option Addr} {x0_1l x0_1c : Nat} {x0_2a : Option Addr} {x0_2l x0_2c : Nat} (w : World) : (Instr.build 99 [(0, .agg #[.slice x0_0a x0_0l x0_0c, .slice x0_1a x0_1l x0_1c, .slice x0_2a x0_2l x0_2c])].toArray).run Try.prog w = .ok (.agg [.slice x0_0a x0_0l x0_0c, .slice x0_1a x0_1l x0_1c, .slice x0_2a x0_2l x0_2c].toArray) w := by simp [go_sem]
theorem bs68_1_0 {x0_0 : Int} {x0_1 : Int} (w : World) : (Instr.buildSlice 68 1 [(0, .agg #[.int .i64 x0_0, .int .i64 x0_1])].toArray).run Try.prog w = .ok (.slice (some ⟨w.heap.size, 0, none⟩) 1 1) (w.alloc (Obj.cells [.int .i64 x0_0, .int .i64 x0_1].toArray 67 (0, 0))) := by simp [go_sem]
theorem ap68 : appB Try.prog 68 67 2 16 = true := by kernel_rfl
theorem bd101_0 {x0_0a : Option Addr} {x0_0l x0_0c : Nat} {x0_1a : Option Addr} {x0_1l x0_1c : Nat} {x0_2a : Option Addr} {x0_2l x0_2c : Nat} (w : World) : (Instr.build 101 [(0, .agg #[.slice x0_0a x0_0l x0_0c, .slice x0_1a x0_1l x0_1c, .slice x0_2a x0_2l x0_2c])].toArray).run Try.prog w = .ok (.agg [.slice x0_0a x0_0l x0_0c, .slice x0_1a x0_1l x0_1c, .slice x0_2a x0_2l x0_2c].toArray) w := by simp [go_sem]
theorem cv102_3 {a c : Int} (h : IntKind.i64.wrap a = c) (w : World) : (convert 102 3 (.int .u16 a)).run Try.prog w = .ok (.int .i64 c) w := by
  subst h
  simp [go_sem, convert]
theorem ap108 : appB Try.prog 108 124 3 24 = true := by kernel_rfl
theorem bs73_1_0 {x0_a : Option Addr} {x0_l x0_c : Nat} (w : World) : (Instr.buildSlice 73 1 [(0, .slice x0_a x0_l x0_c)].toArray).run Try.prog w = .ok (.slice (some ⟨w.heap.size, 0, none⟩) 1 1) (w.alloc (Obj.cells [.slice x0_a x0_l x0_c].toArray 33 (0, 0))) := by simp [go_sem]
theorem ap73 : appB Try.prog 73 33 1 24 = true := by kernel_rfl
theorem bd129_  (w : World) : (Instr.build 129 [].toArray).run Try.prog w = .ok (.agg [.int .i64 0, .int .i64 0, .int .i64 0].toArray) w := by simp [go_sem]
theorem cv3_118 {a c : Int} (h : IntKind.u64.wrap a = c) (w : World) : (convert 3 118 (.int .i64 a)).run Try.prog w = .ok (.int .u64 c) w := by
  subst h
  simp [go_sem, convert]
theorem bd127_0_1 {x0_ : Int} {x1_ : Int} (w : World) : (Instr.build 127 [(0, .int .i64 x0_), (1, .int .i64 x1_)].toArray).run Try.prog w = .ok (.agg [.int .i64 x0_, .int .i64 x1_].toArray) w := by simp [go_sem]
theorem bd129_0_1 {x0_ : Int} {x1_0 : Int} {x1_1 : Int} (w : World) : (Instr.build 129 [(0, .int .i64 x0_), (1, .agg #[.int .i64 x1_0, .int .i64 x1_1])].toArray).run Try.prog w = .ok (.agg [.int .i64 x0_, .int .i64 x1_0, .int .i64 x1_1].toArray) w := by simp [go_sem]
theorem cb2 : callB Try.prog 2 = true := by kernel_rfl
theorem cb3 : callB Try.prog 3 = true := by kernel_rfl
theorem cb4 : callB Try.prog 4 = true := by kernel_rfl
theorem cb5 : callB Try.prog 5 = true := by kernel_rfl
theorem cb6 : callB Try.prog 6 = true := by kernel_rfl
theorem cb7 : callB Try.prog 7 = true := by kernel_rfl
theorem cb8 : callB Try.prog 8 = true := by kernel_rfl
theorem cb9 : callB Try.prog 9 = true := by kernel_rfl
theorem cb10 : callB Try.prog 10 = true := by kernel_rfl
theorem cb11 : callB Try.prog 11 = true := by kernel_rfl
theorem cb12 : callB Try.prog 12 = true := by kernel_rfl
theorem cb13 : callB Try.prog 13 = true := by kernel_rfl
theorem cb14 : callB Try.prog 14 = true := by kernel_rfl
theorem cb15 : callB Try.prog 15 = true := by kernel_rfl
theorem cb16 : callB Try.prog 16 = true := by kernel_rfl
theorem cb17 : callB Try.prog 17 = true := by kernel_rfl
theorem cb18 : callB Try.prog 18 = true := by kernel_rfl
theorem cb19 : callB Try.prog 19 = true := by kernel_rfl
theorem cb20 : callB Try.prog 20 = true := by kernel_rfl
theorem cb21 : callB Try.prog 21 = true := by kernel_rfl
theorem cb22 : callB Try.prog 22 = true := by kernel_rfl
theorem cb23 : callB Try.prog 23 = true := by kernel_rfl
theorem cb24 : callB Try.prog 24 = true := by kernel_rfl
theorem cb25 : callB Try.prog 25 = true := by kernel_rfl
theorem cb26 : callB Try.prog 26 = true := by kernel_rfl
theorem cb27 : callB Try.prog 27 = true := by kernel_rfl
theorem cb28 : callB Try.prog 28 = true := by kernel_rfl
theorem cb29 : callB Try.prog 29 = true := by kernel_rfl
theorem cb30 : callB Try.prog 30 = true := by kernel_rfl
theorem cb31 : callB Try.prog 31 = true := by kernel_rfl
theorem cb32 : callB Try.prog 32 = true := by kernel_rfl
theorem cb33 : callB Try.prog 33 = true := by kernel_rfl
theorem cb34 : callB Try.prog 34 = true := by kernel_rfl
theorem cb35 : callB Try.prog 35 = true := by kernel_rfl
theorem cb36 : callB Try.prog 36 = true := by kernel_rfl
theorem cb37 : callB Try.prog 37 = true := by kernel_rfl
theorem cb38 : callB Try.prog 38 = true := by kernel_rfl
theorem cb39 : callB Try.prog 39 = true := by kernel_rfl
theorem cb40 : callB Try.prog 40 = true := by kernel_rfl
theorem cb41 : callB Try.prog 41 = true := by kernel_rfl
theorem cb42 : callB Try.prog 42 = true := by kernel_rfl
theorem cb43 : callB Try.prog 43 = true := by kernel_rfl
theorem cb44 : callB Try.prog 44 = true := by kernel_rfl
theorem cb45 : callB Try.prog 45 = true := by kernel_rfl
theorem cb46 : callB Try.prog 46 = true := by kernel_rfl
theorem cb47 : callB Try.prog 47 = true := by kernel_rfl
theorem cb48 : callB Try.prog 48 = true := by kernel_rfl
theorem cb49 : callB Try.prog 49 = true := by kernel_rfl
theorem cb50 : callB Try.prog 50 = true := by kernel_rfl
theorem cb51 : callB Try.prog 51 = true := by kernel_rfl
theorem cb52 : callB Try.prog 52 = true := by kernel_rfl
theorem cb53 : callB Try.prog 53 = true := by kernel_rfl
theorem cb54 : callB Try.prog 54 = true := by kernel_rfl
theorem cb55 : callB Try.prog 55 = true := by kernel_rfl
theorem cb56 : callB Try.prog 56 = true := by kernel_rfl
theorem cb57 : callB Try.prog 57 = true := by kernel_rfl
theorem cb58 : callB Try.prog 58 = true := by kernel_rfl
theorem cb59 : callB Try.prog 59 = true := by kernel_rfl
theorem cb60 : callB Try.prog 60 = true := by kernel_rfl
theorem cb61 : callB Try.prog 61 = true := by kernel_rfl
theorem cb62 : callB Try.prog 62 = true := by kernel_rfl
theorem cb63 : callB Try.prog 63 = true := by kernel_rfl
theorem cb64 : callB Try.prog 64 = true := by kernel_rfl
theorem cb65 : callB Try.prog 65 = true := by kernel_rfl
theorem cb66 : callB Try.prog 66 = true := by kernel_rfl
theorem cb67 : callB Try.prog 67 = true := by kernel_rfl
theorem cb68 : callB Try.prog 68 = true := by kernel_rfl
theorem cb69 : callB Try.prog 69 = true := by kernel_rfl
theorem cb70 : callB Try.prog 70 = true := by kernel_rfl
theorem cb71 : callB Try.prog 71 = true := by kernel_rfl
theorem cb72 : callB Try.prog 72 = true := by kernel_rfl
theorem cb73 : callB Try.prog 73 = true := by kernel_rfl
theorem cb74 : callB Try.prog 74 = true := by kernel_rfl
theorem cb75 : callB Try.prog 75 = true := by kernel_rfl
theorem cb76 : callB Try.prog 76 = true := by kernel_rfl
theorem cb77 : callB Try.prog 77 = true := by kernel_rfl
theorem cb78 : callB Try.prog 78 = true := by kernel_rfl
theorem cb79 : callB Try.prog 79 = true := by kernel_rfl
theorem cb80 : callB Try.prog 80 = true := by kernel_rfl
theorem cb81 : callB Try.prog 81 = true := by kernel_rfl
theorem cb82 : callB Try.prog 82 = true := by kernel_rfl
theorem cb83 : callB Try.prog 83 = true := by kernel_rfl
theorem cb84 : callB Try.prog 84 = true := by kernel_rfl
theorem cb85 : callB Try.prog 85 = true := by kernel_rfl
theorem cb86 : callB Try.prog 86 = true := by kernel_rfl
theorem cb87 : callB Try.prog 87 = true := by kernel_rfl
theorem cb88 : callB Try.prog 88 = true := by kernel_rfl
theorem cb89 : callB Try.prog 89 = true := by kernel_rfl
theorem cb90 : callB Try.prog 90 = true := by kernel_rfl
theorem cb91 : callB Try.prog 91 = true := by kernel_rfl
theorem cb92 : callB Try.prog 92 = true := by kernel_rfl
theorem cb93 : callB Try.prog 93 = true := by kernel_rfl
theorem cb94 : callB Try.prog 94 = true := by kernel_rfl
theorem cb95 : callB Try.prog 95 = true := by kernel_rfl
theorem cb96 : callB Try.prog 96 = true := by kernel_rfl
theorem cb97 : callB Try.prog 97 = true := by kernel_rfl
theorem cb98 : callB Try.prog 98 = true := by kernel_rfl
theorem cb99 : callB Try.prog 99 = true := by kernel_rfl
theorem cb100 : callB Try.prog 100 = true := by kernel_rfl
theorem cb101 : callB Try.prog 101 = true := by kernel_rfl
theorem cb102 : callB Try.prog 102 = true := by kernel_rfl
theorem cb103 : callB Try.prog 103 = true := by kernel_rfl
theorem cb104 : callB Try.prog 104 = true := by kernel_rfl
theorem cb105 : callB Try.prog 105 = true := by kernel_rfl
theorem cb106 : callB Try.prog 106 = true := by kernel_rfl
theorem cb107 : callB Try.prog 107 = true := by kernel_rfl
theorem cb108 : callB Try.prog 108 = true := by kernel_rfl
theorem cb109 : callB Try.prog 109 = true := by kernel_rfl
theorem cb110 : callB Try.prog 110 = true := by kernel_rfl
theorem cb111 : callB Try.prog 111 = true := by kernel_rfl
theorem cb112 : callB Try.prog 112 = true := by kernel_rfl
theorem cb128 : callB Try.prog 128 = true := by kernel_rfl
theorem cb129 : callB Try.prog 129 = true := by kernel_rfl
theorem cb130 : callB Try.prog 130 = true := by kernel_rfl
end Go.Proofs.Ytjdeplehhmhpcaa.En
