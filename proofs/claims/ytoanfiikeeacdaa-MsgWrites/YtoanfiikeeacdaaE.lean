/- Layer msg: which messages may be. -/
import Derived.Test.YtoanfiikeeacdaaD
namespace Go.Proofs.Ytoanfiikeeacdaa
set_option linter.unusedSectionVars false
set_option maxHeartbeats 1000000
open Go.RowKit
set_option maxRecDepth 100000
set_option linter.unusedVariables false
set_option linter.unusedSimpArgs false

variable [DecidableEq Mg]
theorem Below.only {B g : Nat} {w w1 w2 : World} (h : Below B w w1) (ho : Only g w1 w2) (hg : B ≤ g) : Below B w w2 := h.trans (ho.bel.mono hg)
theorem setKd (m : Mg) (z : Int) : m.arr.setIfInBounds 0 (.int .u8 z) = ({ m with kd := z } : Mg).arr := by simp [Mg.arr, Mg.cells]
theorem setFr (m : Mg) (z : Int) : m.arr.setIfInBounds 1 (.int .u64 z) = ({ m with fr := z } : Mg).arr := by simp [Mg.arr, Mg.cells]
theorem setTo (m : Mg) (z : Int) : m.arr.setIfInBounds 2 (.int .u64 z) = ({ m with tw := z } : Mg).arr := by simp [Mg.arr, Mg.cells]
theorem setAm (m : Mg) (z : Int) : m.arr.setIfInBounds 3 (.int .u64 z) = ({ m with am := z } : Mg).arr := by simp [Mg.arr, Mg.cells]
theorem setNo (m : Mg) (z : Int) : m.arr.setIfInBounds 4 (.int .u64 z) = ({ m with no := z } : Mg).arr := by simp [Mg.arr, Mg.cells]
theorem Mg.ok2 {m : Mg} (h : MgOK m) {k f t a n : Int} (hk : 0 ≤ k ∧ k < 256) (hf : 0 ≤ f ∧ f < 18446744073709551616) (ht : 0 ≤ t ∧ t < 18446744073709551616) (ha : 0 ≤ a ∧ a < 18446744073709551616) (hn : 0 ≤ n ∧ n < 18446744073709551616) {x y : List Int} (hx : x.length = 32 ∧ Bts x) (hy : y.length = 32 ∧ Bts y) : MgOK ⟨k, f, t, a, n, x, y⟩ :=
  ⟨hk.1, hk.2, hf.1, hf.2, ht.1, ht.2, ha.1, ha.2, hn.1, hn.2, hx.1, hx.2, hy.1, hy.2⟩
set_option maxHeartbeats 1000000 in
theorem unnamed_any (m : Mg) (w : World) (hm : MgOK m) :
    Calls Try.prog 18 #[.agg m.arr] w fun e w' => e = .returned (.agg (unn m).arr) ∧ Below w.heap.size w w' := by
  have A0 := (Arr.new w 27 m.arr).alloc (.cells mg0.arr 27)
  have R0 : Arr ((w.alloc (.cells m.arr 27)).alloc (.cells mg0.arr 27)) (w.heap.size + 1) 27 mg0.arr := by simpa using Arr.new (w.alloc (.cells m.arr 27)) 27 mg0.arr
  have hB := (alloc_bel' w (.cells m.arr 27)).alloc (by simp) (.cells mg0.arr 27)
  have z27 := zv27
  go_enter Try.func18, Try.ntmps18
  go_upto_region 1 with fail
  generalize (w.alloc (.cells m.arr 27)).alloc (.cells mg0.arr 27) = W0 at A0 R0 hB ⊢
  have c0 := mg_c0 A0
  by_cases h23 : m.kd = 2 ∨ m.kd = 3
  · have hu : unn m = mg0 := by unfold unn; rw [if_pos h23]
    have hm1 : MgOK { m with fr := 0, no := 0 } := Mg.ok2 hm ⟨hm.k0, hm.k1⟩ (by omega) ⟨hm.t0, hm.t1⟩ ⟨hm.a0, hm.a1⟩ (by omega) ⟨hm.kl, hm.kb⟩ ⟨hm.nl, hm.nb⟩
    have hm2 : MgOK { m with fr := 0, no := 0, ky := Z32 } := Mg.ok2 hm ⟨hm.k0, hm.k1⟩ (by omega) ⟨hm.t0, hm.t1⟩ ⟨hm.a0, hm.a1⟩ (by omega) ⟨(by simp [Z32]), Z32_bts⟩ ⟨hm.nl, hm.nb⟩
    have A1 := (A0.set 1 (.int .u64 0)).set 4 (.int .u64 0)
    rw [setFr, setNo] at A1
    have R1 := (R0.setOther (a := ⟨w.heap.size, 1, none⟩) (.int .u64 0) (by simp)).setOther (a := ⟨w.heap.size, 4, none⟩) (.int .u64 0) (by simp)
    have B1 := (hB.setCell (p := ⟨w.heap.size, 1, none⟩) (by simp) (.int .u64 0)).setCell (p := ⟨w.heap.size, 4, none⟩) (by simp) (.int .u64 0)
    have f1 := A0.frozen 1
    have f4 := A0.frozen 4
    have c1 := mg_c1 A0
    have c4 := mg_c4 A0
    obtain ⟨ZZ, hZZ⟩ : ∃ Z : List Int, Hid (Z = Z32) := ⟨_, rfl⟩
    have hZ32 : ZZ.length = 32 := by rw [hZZ.out]; simp [Z32]
    have hbZ : Try.prog.built 25 [] = some (h8 ZZ) := by rw [hZZ.out]; kernel_rfl
    rw [← hZZ.out] at hm2
    have e2 : (m.kd == 2) = decide (m.kd = 2) := rfl
    have e3 : (m.kd == 3) = decide (m.kd = 3) := rfl
    by_cases h2 : m.kd = 2
    case' neg => have h3 : m.kd = 3 := by omega
    all_goals
      go_upto_region 6 with (first
        | (refine atB 25 ?_; refine bdT (by rfl) 25 #[] (by rfl) (ps := []) (by rfl) hbZ ?_)
        | (refine atS 25 (.tmp 15) (.tmp 11) ?_; refine stNx (by rfl) (.tmp 15) (.tmp 11) (by rfl) w.heap.size _ ZZ (by rfl) (by rfl) hm2 hZ32 AK ?_; intro wN AN ON; have RN := ON.arr RK (by omega); have BN := Below.only BK ON (Nat.le_refl _))
        | (refine atS 25 (.tmp 14) (.tmp 10) ?_; refine stKy (by rfl) (.tmp 14) (.tmp 10) (by rfl) w.heap.size _ ZZ (by rfl) (by rfl) hm1 hZ32 A1 ?_; intro wK AK OK; have RK := OK.arr R1 (by omega); have BK := Below.only B1 OK (Nat.le_refl _)))
      clear c0 c1 c4 f1 f4 A0 A1 AK R0 R1 RK hB B1 BK
      rw [hZZ.out] at AN
      have d0 := mg_c0 AN
      have d2 := mg_c2 AN
      have d3 := mg_c3 AN
      have f0 := AN.frozen 0
      have f2 := AN.frozen 2
      have f3 := AN.frozen 3
      have A4 := ((AN.set 0 (.int .u8 0)).set 2 (.int .u64 0)).set 3 (.int .u64 0)
      rw [setKd, setTo, setAm] at A4
      have R4 := ((RN.setOther (a := ⟨w.heap.size, 0, none⟩) (.int .u8 0) (by simp)).setOther (a := ⟨w.heap.size, 2, none⟩) (.int .u64 0) (by simp)).setOther (a := ⟨w.heap.size, 3, none⟩) (.int .u64 0) (by simp)
      have B4 := ((BN.setCell (p := ⟨w.heap.size, 0, none⟩) (by simp) (.int .u8 0)).setCell (p := ⟨w.heap.size, 2, none⟩) (by simp) (.int .u64 0)).setCell (p := ⟨w.heap.size, 3, none⟩) (by simp) (.int .u64 0)
      go_wp2_with (first
        | (refine atL 27 (.tmp 1) ?_; refine ld27 (by rfl) (.tmp 1) (by rfl) w.heap.size 27 (by rfl) mg0 mg0_ok A4 ?_)
        | (refine atS 27 (.tmp 2) (.tmp 19) ?_; refine st27 (by rfl) (.tmp 2) (.tmp 19) (by rfl) (w.heap.size + 1) mg0 (by rfl) (by rfl) mg0_ok (Mg.size mg0_ok) R4 ?_))
      exact bodyPost_ret (v := .agg mg0.arr) (res27 Try.results18 rfl mg0_ok (R4.setRow _)) rfl ⟨by first | rfl | rw [hu], below_setRow B4 (by omega) _⟩
  · have n2 : ¬ m.kd = 2 := by omega
    have n3 : ¬ m.kd = 3 := by omega
    have e2 : (m.kd == 2) = false := by simpa using n2
    have e3 : (m.kd == 3) = false := by simpa using n3
    by_cases h1 : m.kd = 1
    · have e1 : (m.kd == 1) = true := by simpa using h1
      have hu : unn m = { m with kd := 0, tw := 0, am := 0 } := by unfold unn; rw [if_neg h23, if_pos h1]
      have ho := unn_ok hm
      rw [hu] at ho
      have d2 := mg_c2 A0
      have d3 := mg_c3 A0
      have f0 := A0.frozen 0
      have f2 := A0.frozen 2
      have f3 := A0.frozen 3
      have A4 := ((A0.set 0 (.int .u8 0)).set 2 (.int .u64 0)).set 3 (.int .u64 0)
      rw [setKd, setTo, setAm] at A4
      have R4 := ((R0.setOther (a := ⟨w.heap.size, 0, none⟩) (.int .u8 0) (by simp)).setOther (a := ⟨w.heap.size, 2, none⟩) (.int .u64 0) (by simp)).setOther (a := ⟨w.heap.size, 3, none⟩) (.int .u64 0) (by simp)
      have B4 := ((hB.setCell (p := ⟨w.heap.size, 0, none⟩) (by simp) (.int .u8 0)).setCell (p := ⟨w.heap.size, 2, none⟩) (by simp) (.int .u64 0)).setCell (p := ⟨w.heap.size, 3, none⟩) (by simp) (.int .u64 0)
      go_wp2_with (first
        | (refine atL 27 (.tmp 1) ?_; refine ld27 (by rfl) (.tmp 1) (by rfl) w.heap.size 27 (by rfl) _ ho A4 ?_)
        | (refine atS 27 (.tmp 2) (.tmp 19) ?_; refine st27 (by rfl) (.tmp 2) (.tmp 19) (by rfl) (w.heap.size + 1) _ (by rfl) (by rfl) ho (Mg.size mg0_ok) R4 ?_))
      exact bodyPost_ret (v := .agg _) (res27 Try.results18 rfl ho (R4.setRow _)) rfl ⟨by first | rfl | rw [hu], below_setRow B4 (by omega) _⟩
    · have e1 : (m.kd == 1) = false := by simpa using h1
      have hu : unn m = m := by unfold unn; rw [if_neg h23, if_neg h1]
      go_wp2_with (first
        | (refine atL 27 (.tmp 1) ?_; refine ld27 (by rfl) (.tmp 1) (by rfl) w.heap.size 27 (by rfl) _ hm A0 ?_)
        | (refine atS 27 (.tmp 2) (.tmp 19) ?_; refine st27 (by rfl) (.tmp 2) (.tmp 19) (by rfl) (w.heap.size + 1) _ (by rfl) (by rfl) hm (Mg.size mg0_ok) R0 ?_))
      exact bodyPost_ret (v := .agg m.arr) (res27 Try.results18 rfl hm (R0.setRow _)) rfl ⟨by first | rfl | rw [hu], below_setRow hB (by omega) _⟩
set_option maxHeartbeats 1000000 in
theorem may_any (m : Mg) (w : World) (hm : MgOK m) :
    Calls Try.prog 8 #[.agg m.arr] w fun e w' => e = .returned (.bool m.may) ∧ Below w.heap.size w w' := by
  have A0 := Arr.new w 27 m.arr
  have hB := alloc_bel' w (.cells m.arr 27)
  have hb0 := built27z
  have hu := unn_ok hm
  have E := Hid.mk' (may_two (m := m))
  have EQ : ∀ u, (binOp .eql 27 (.agg (unn m).arr) (.agg mg0.arr)).run Try.prog u = .ok (.bool (decide (unn m = mg0))) u := run_eq27 hu mg0_ok
  generalize hd : decide (unn m = mg0) = b at EQ E
  clear hd
  go_enter Try.func8, Try.ntmps8
  cases b
  all_goals
    go_wp2_with (first
      | (refine atL 27 (.tmp 1) ?_; refine ld27 (by rfl) (.tmp 1) (by rfl) w.heap.size 27 (by rfl) m hm (by assumption) ?_)
      | (refine atB 27 ?_; refine bdT (by rfl) 27 #[] (by rfl) (ps := []) (by rfl) hb0 ?_)
      | (go_at_call 18; go_must (refine (unnamed_any m _ hm).mono ?_; rintro e w1 ⟨rfl, hb1⟩; have A1 := A0.bel hb1; have B1 := hB.trans (hb1.mono (by simp)); clear A0))
      | (go_at_call 19; go_must (refine (inBounds_any m _ hm).mono ?_; rintro e w2 ⟨rfl, hb2⟩; have B2 := B1.trans (hb2.mono B1.size))))
    go_ret
    all_goals first
      | exact ⟨by rw [← E.out]; rfl, B2⟩
      | exact ⟨by rw [← E.out]; rfl, B1⟩
end Go.Proofs.Ytoanfiikeeacdaa
