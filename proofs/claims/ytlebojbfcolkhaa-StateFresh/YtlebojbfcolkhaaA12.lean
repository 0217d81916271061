/- Qe, Qf, Qg. -/
import Derived.Test.YtlebojbfcolkhaaQa
/- The sums that the law's own anchor asks for, worked out. -/
namespace Go.Proofs.Ytlebojbfcolkhaa
open Go.RowKit
set_option maxRecDepth 100000
set_option linter.unusedVariables false
set_option linter.unusedSimpArgs false

theorem t2_st : shaSt (bat (1 :: (t1 ++ t1))) 1 1 = ⟨2979605295, 1627163409, 3090967965, 3184645803, 2985684881, 3232213582, 2103612722, 76350064⟩ := by kernel_rfl
theorem t2_eq : pr t1 t1 = t2 := shl_of (L := 1 :: (t1 ++ t1)) (a := 1) (b := 1) rfl rfl t2_st (by kernel_rfl)
theorem e3_st : shaSt (bat (1 :: (e2 ++ e2))) 1 1 = ⟨3198247266, 1914423883, 1847034571, 3697891911, 354555260, 1729557768, 3678913945, 424886516⟩ := by kernel_rfl
theorem e3_eq : pr e2 e2 = e3 := shl_of (L := 1 :: (e2 ++ e2)) (a := 1) (b := 1) rfl rfl e3_st (by kernel_rfl)
theorem p4_st : shaSt (bat (1 :: (p3 ++ t3))) 1 1 = ⟨185351752, 2112256657, 1109401339, 3772297315, 402618960, 2502329474, 1678719555, 2408050743⟩ := by kernel_rfl
theorem p4_eq : pr p3 t3 = p4 := shl_of (L := 1 :: (p3 ++ t3)) (a := 1) (b := 1) rfl rfl p4_st (by kernel_rfl)
end Go.Proofs.Ytlebojbfcolkhaa
/- The sums that the law's own anchor asks for, worked out. -/
namespace Go.Proofs.Ytlebojbfcolkhaa
open Go.RowKit
set_option maxRecDepth 100000
set_option linter.unusedVariables false
set_option linter.unusedSimpArgs false

theorem t3_st : shaSt (bat (1 :: (t2 ++ t2))) 1 1 = ⟨101842048, 1117776715, 1451327296, 1892845925, 180398314, 2861135304, 3430070078, 2520214527⟩ := by kernel_rfl
theorem t3_eq : pr t2 t2 = t3 := shl_of (L := 1 :: (t2 ++ t2)) (a := 1) (b := 1) rfl rfl t3_st (by kernel_rfl)
theorem e4_st : shaSt (bat (1 :: (e3 ++ e3))) 1 1 = ⟨813064175, 874242023, 1237553599, 2506792707, 3546518555, 783874138, 2976626411, 222055919⟩ := by kernel_rfl
theorem e4_eq : pr e3 e3 = e4 := shl_of (L := 1 :: (e3 ++ e3)) (a := 1) (b := 1) rfl rfl e4_st (by kernel_rfl)
theorem p5_st : shaSt (bat (1 :: (p4 ++ t4))) 1 1 = ⟨3260804442, 2433659258, 3832206576, 1121516200, 1350643260, 2763306855, 3618257050, 297775968⟩ := by kernel_rfl
theorem p5_eq : pr p4 t4 = p5 := shl_of (L := 1 :: (p4 ++ t4)) (a := 1) (b := 1) rfl rfl p5_st (by kernel_rfl)
end Go.Proofs.Ytlebojbfcolkhaa
/- The sums that the law's own anchor asks for, worked out. -/
namespace Go.Proofs.Ytlebojbfcolkhaa
open Go.RowKit
set_option maxRecDepth 100000
set_option linter.unusedVariables false
set_option linter.unusedSimpArgs false

theorem t4_st : shaSt (bat (1 :: (t3 ++ t3))) 1 1 = ⟨1356328194, 2974066516, 2272275615, 1605036551, 3147461509, 3780255360, 4127720345, 4221177853⟩ := by kernel_rfl
theorem t4_eq : pr t3 t3 = t4 := shl_of (L := 1 :: (t3 ++ t3)) (a := 1) (b := 1) rfl rfl t4_st (by kernel_rfl)
theorem e5_st : shaSt (bat (1 :: (e4 ++ e4))) 1 1 = ⟨4053837594, 1699791899, 3369392836, 4052137682, 1957181938, 4183480803, 3143966021, 2165070367⟩ := by kernel_rfl
theorem e5_eq : pr e4 e4 = e5 := shl_of (L := 1 :: (e4 ++ e4)) (a := 1) (b := 1) rfl rfl e5_st (by kernel_rfl)
theorem q1_st : shaSt (bat (1 :: (t5 ++ e5))) 1 1 = ⟨1801549750, 3971030975, 2949916376, 3602722821, 2983048709, 2756748190, 2200171052, 101770774⟩ := by kernel_rfl
theorem q1_eq : pr t5 e5 = q1 := shl_of (L := 1 :: (t5 ++ e5)) (a := 1) (b := 1) rfl rfl q1_st (by kernel_rfl)
end Go.Proofs.Ytlebojbfcolkhaa
