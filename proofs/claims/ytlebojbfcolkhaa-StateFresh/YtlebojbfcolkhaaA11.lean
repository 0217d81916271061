/- Qb, Qc, Qd. -/
import Derived.Test.YtlebojbfcolkhaaQa
/- The sums that the law's own anchor asks for, worked out. -/
namespace Go.Proofs.Ytlebojbfcolkhaa
open Go.RowKit
set_option maxRecDepth 100000
set_option linter.unusedVariables false
set_option linter.unusedSimpArgs false

theorem v0_st : shaSt (bat (0 :: acb ⟨0, 0, Z32⟩)) 0 49 = ⟨2022145960, 2565911748, 1553740718, 2485010529, 2060961893, 2049998262, 734357791, 2465527310⟩ := by kernel_rfl
theorem v0_eq : lf (acb ⟨0, 0, Z32⟩) = v0 := shl_of (L := 0 :: acb ⟨0, 0, Z32⟩) (a := 0) (b := 49) (by kernel_rfl) (by kernel_rfl) v0_st (by kernel_rfl)
theorem t5_st : shaSt (bat (1 :: (t4 ++ t4))) 1 1 = ⟨3733333064, 1544166287, 2664203651, 311517444, 3426673645, 1612595292, 300612037, 3420475671⟩ := by kernel_rfl
theorem t5_eq : pr t4 t4 = t5 := shl_of (L := 1 :: (t4 ++ t4)) (a := 1) (b := 1) rfl rfl t5_st (by kernel_rfl)
theorem p1_st : shaSt (bat (1 :: (v0 ++ v1))) 1 1 = ⟨2256983451, 3929110579, 3998955860, 2336728747, 3251984372, 3512667466, 603726883, 266657580⟩ := by kernel_rfl
theorem p1_eq : pr v0 v1 = p1 := shl_of (L := 1 :: (v0 ++ v1)) (a := 1) (b := 1) rfl rfl p1_st (by kernel_rfl)
theorem q2_st : shaSt (bat (1 :: (q1 ++ c0))) 1 1 = ⟨1616852037, 3435453096, 1796129936, 2443722123, 3939595265, 4159286127, 2562096454, 3935061750⟩ := by kernel_rfl
theorem q2_eq : pr q1 c0 = q2 := shl_of (L := 1 :: (q1 ++ c0)) (a := 1) (b := 1) rfl rfl q2_st (by kernel_rfl)
end Go.Proofs.Ytlebojbfcolkhaa
/- The sums that the law's own anchor asks for, worked out. -/
namespace Go.Proofs.Ytlebojbfcolkhaa
open Go.RowKit
set_option maxRecDepth 100000
set_option linter.unusedVariables false
set_option linter.unusedSimpArgs false

theorem v1_st : shaSt (bat (0 :: acb ⟨1, 0, Z32⟩)) 0 49 = ⟨2247771741, 765268755, 314882831, 2308362853, 814410305, 2536203505, 3577008521, 3023088949⟩ := by kernel_rfl
theorem v1_eq : lf (acb ⟨1, 0, Z32⟩) = v1 := shl_of (L := 0 :: acb ⟨1, 0, Z32⟩) (a := 0) (b := 49) (by kernel_rfl) (by kernel_rfl) v1_st (by kernel_rfl)
theorem e1_st : shaSt (bat (1 :: (vz ++ vz))) 1 1 = ⟨2919733456, 3970880183, 2028854975, 418410917, 1640314456, 3227416270, 3737921482, 4225484151⟩ := by kernel_rfl
theorem e1_eq : pr vz vz = e1 := shl_of (L := 1 :: (vz ++ vz)) (a := 1) (b := 1) rfl rfl e1_st (by kernel_rfl)
theorem p2_st : shaSt (bat (1 :: (t1 ++ p1))) 1 1 = ⟨1760535450, 2987855477, 1971726885, 3130899264, 4103192174, 535781847, 4053731584, 2730984136⟩ := by kernel_rfl
theorem p2_eq : pr t1 p1 = p2 := shl_of (L := 1 :: (t1 ++ p1)) (a := 1) (b := 1) rfl rfl p2_st (by kernel_rfl)
theorem r1_st : shaSt (bat (1 :: (p5 ++ e5))) 1 1 = ⟨2328710199, 2093263355, 1260374905, 4181871000, 2156326558, 723929910, 4121534972, 3231176556⟩ := by kernel_rfl
theorem r1_eq : pr p5 e5 = r1 := shl_of (L := 1 :: (p5 ++ e5)) (a := 1) (b := 1) rfl rfl r1_st (by kernel_rfl)
end Go.Proofs.Ytlebojbfcolkhaa
/- The sums that the law's own anchor asks for, worked out. -/
namespace Go.Proofs.Ytlebojbfcolkhaa
open Go.RowKit
set_option maxRecDepth 100000
set_option linter.unusedVariables false
set_option linter.unusedSimpArgs false

theorem t1_st : shaSt (bat (1 :: (v0 ++ v0))) 1 1 = ⟨2174079911, 3897998747, 4147405924, 740200823, 3353410537, 3480508642, 1462718076, 645297863⟩ := by kernel_rfl
theorem t1_eq : pr v0 v0 = t1 := shl_of (L := 1 :: (v0 ++ v0)) (a := 1) (b := 1) rfl rfl t1_st (by kernel_rfl)
theorem e2_st : shaSt (bat (1 :: (e1 ++ e1))) 1 1 = ⟨2421379040, 2952190878, 3676958439, 1316529030, 2439665692, 2388944180, 2492719526, 3362931169⟩ := by kernel_rfl
theorem e2_eq : pr e1 e1 = e2 := shl_of (L := 1 :: (e1 ++ e1)) (a := 1) (b := 1) rfl rfl e2_st (by kernel_rfl)
theorem p3_st : shaSt (bat (1 :: (p2 ++ t2))) 1 1 = ⟨3322174634, 620488180, 1020240630, 745952137, 2827334777, 1523552327, 1191369173, 3384527101⟩ := by kernel_rfl
theorem p3_eq : pr p2 t2 = p3 := shl_of (L := 1 :: (p2 ++ t2)) (a := 1) (b := 1) rfl rfl p3_st (by kernel_rfl)
theorem r2_st : shaSt (bat (1 :: (r1 ++ c0))) 1 1 = ⟨2135616862, 1909218230, 2267466692, 1152826460, 195915967, 1453657117, 1319634485, 1707197650⟩ := by kernel_rfl
theorem r2_eq : pr r1 c0 = r2 := shl_of (L := 1 :: (r1 ++ c0)) (a := 1) (b := 1) rfl rfl r2_st (by kernel_rfl)
end Go.Proofs.Ytlebojbfcolkhaa
