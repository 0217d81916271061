/- Layer msg, the document: which messages may be. -/
import Derived.Test.YtoanfiikeeacdaaD
namespace Go.Proofs.Ytoanfiikeeacdaa
set_option linter.unusedSectionVars false
set_option maxHeartbeats 1000000
open Go.RowKit
set_option maxRecDepth 100000
set_option linter.unusedVariables false
set_option linter.unusedSimpArgs false

variable [DecidableEq Mg]
set_option maxHeartbeats 1000000 in
theorem refMay_any (m : Mg) (w : World) (hm : MgOK m) :
    Calls Try.prog 9 #[.agg m.arr] w fun e w' => e = .returned (.bool m.may) ∧ Below w.heap.size w w' := by
  have A0 := Arr.new w 27 m.arr
  have hB := alloc_bel' w (.cells m.arr 27)
  have c0 := mg_c0 A0
  have c1 := mg_c1 A0
  have c2 := mg_c2 A0
  have c3 := mg_c3 A0
  have c4 := mg_c4 A0
  have rk := mg_ky A0
  have rn := mg_nx A0 hm.kl
  have hkl := hm.kl
  have hnl := hm.nl
  obtain ⟨ZZ, hZZ⟩ : ∃ Z : List Int, Hid (Z = Z32) := ⟨_, rfl⟩
  have hZ32 : ZZ.length = 32 := by rw [hZZ.out]; simp [Z32]
  have hbZ : Try.prog.built 25 [] = some (h8 ZZ) := by rw [hZZ.out]; kernel_rfl
  have EK : ∀ u, (binOp .eql 25 (.agg (h8 m.ky)) (.agg (h8 ZZ))).run Try.prog u = .ok (.bool (decide (m.ky = ZZ))) u := run_eq24 hkl hZ32
  have EN : ∀ u, (binOp .eql 25 (.agg (h8 m.nx)) (.agg (h8 ZZ))).run Try.prog u = .ok (.bool (decide (m.nx = ZZ))) u := run_eq24 hnl hZ32
  have HK : Hid (decide (m.ky = ZZ) = decide (m.ky = Z32)) := Hid.mk' (by rw [hZZ.out])
  have HN : Hid (decide (m.nx = ZZ) = decide (m.nx = Z32)) := Hid.mk' (by rw [hZZ.out])
  generalize hbk : decide (m.ky = ZZ) = bk at EK HK
  generalize hbn : decide (m.nx = ZZ) = bn at EN HN
  clear hbk hbn
  have M : Hid (m.may = ((m.kd == 1 && m.fr == 0 && decide (m.tw < 32) && decide (0 < m.am) && m.no == 0 && bk && bn) || (m.kd == 2 && decide (m.fr < 32) && decide (m.tw < 32)) || (m.kd == 3 && decide (m.fr < 32) && decide (0 < m.am)))) := Hid.mk' (by rw [HK.out, HN.out]; rfl)
  clear A0 HK HN
  go_enter Try.func9, Try.ntmps9
  have q : ∃ zb, Hid (zb = (m.no == 0 && bk && bn)) := ⟨_, rfl⟩
  by_cases g4 : m.no = 0
  case' pos => cases bk
  case' pos.true => cases bn
  all_goals
    go_upto_region 2 with (first
      | (refine atL 25 (.tmp 8) ?_; refine ld25 (by rfl) (.tmp 8) (by rfl) w.heap.size 5 (by rfl) m.ky hkl rk ?_)
      | (refine atL 25 (.tmp 14) ?_; refine ld25 (by rfl) (.tmp 14) (by rfl) w.heap.size 37 (by rfl) m.nx hnl rn ?_)
      | (refine atB 25 ?_; refine bdT (by rfl) 25 #[] (by rfl) (ps := []) (by rfl) hbZ ?_))
    clear EK EN rk rn
    by_cases h1 : m.kd = 1
    · by_cases p1 : m.fr = 0 <;> by_cases p2 : m.tw < 32 <;> by_cases p3 : 0 < m.am
      all_goals
        go_wp2_with fail
        go_ret
        exact ⟨by rw [M.out]; simp [h1, p1, p2, p3, g4], hB⟩
    · have e1 : (m.kd == 1) = false := by simpa using h1
      by_cases h2 : m.kd = 2
      · by_cases p1 : m.fr < 32 <;> by_cases p2 : m.tw < 32
        all_goals
          go_wp2_with fail
          go_ret
          exact ⟨by rw [M.out]; simp [h2, p1, p2], hB⟩
      · have e2 : (m.kd == 2) = false := by simpa using h2
        by_cases h3 : m.kd = 3
        · by_cases p1 : m.fr < 32 <;> by_cases p3 : 0 < m.am
          all_goals
            go_wp2_with fail
            go_ret
            exact ⟨by rw [M.out]; simp [h3, p1, p3], hB⟩
        · have e3 : (m.kd == 3) = false := by simpa using h3
          go_wp2_with fail
          go_ret
          exact ⟨by rw [M.out]; simp [h1, h2, h3], hB⟩
end Go.Proofs.Ytoanfiikeeacdaa
