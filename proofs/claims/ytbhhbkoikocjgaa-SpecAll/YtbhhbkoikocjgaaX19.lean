/- D, E, G. -/
import Derived.Test.YtbhhbkoikocjgaaX01
import Derived.Test.YtbhhbkoikocjgaaX02
import Derived.Test.YtbhhbkoikocjgaaX04
import Derived.Test.YtbhhbkoikocjgaaX05
import Derived.Test.YtbhhbkoikocjgaaX06
import Derived.Test.YtbhhbkoikocjgaaX07
import Derived.BigQuiet
import Derived.BigRegion
import Derived.ChangeKeysEq
import Derived.ChangeOld
import Derived.Deep.DeepCutAuto
import Derived.Deep.DrawnRows
import Derived.Deep.MidRow
import Derived.Deep.QuietTactic
import Derived.Deep.RegionHeld3
import Derived.Deep.RegionLaw
import Derived.Deep.RegionWith
import Derived.Deep.WholeRow
import Derived.Great.BuildSlice
import Derived.Great.FillDense
import Derived.JoinedTies
import Derived.KernelRfl
import Derived.Laws.AppendOwnNone
import Derived.Laws.BitsLemmas
import Derived.Laws.BytesArg
import Derived.Laws.CopyOwn
import Derived.Laws.CopyRow
import Derived.Laws.MakeOwn
import Derived.Laws.OwnMore
import Derived.Laws.ResultCell
import Derived.Laws.Tables
import Derived.Lib.SlBytesConst
import Derived.LoopIn
import Derived.LoopNIn
import Derived.Maps.AppendAt
import Derived.OpenShut
import Derived.OwnWalkIn
import Derived.ProofKit
import Derived.RangeFuncBound
import Derived.RangeFuncCalls
import Derived.RangeFuncLeaves
import Derived.RangeFuncNested
import Derived.RangeFuncRecord
import Derived.Shelf.Abstract
import Derived.Shelf.RegionOpen
import Derived.ShutString
import Derived.SizedLaws
import Derived.TacticsInMore
import Derived.WalkKit
import Derived.WalkLawsBesides
import Derived.WalkSpells
import GoSem.Claim
import GoSem.ClaimJoined
import GoSem.ClaimMapViews
import Derived.Test.YtbhhbkoikocjgaaX03
import Derived.Lib.AppendZeros
import Derived.Test.YtbhhbkoikocjgaaX16
/- Layer spec: what the layers below give. -/
namespace Go.Proofs.Ytbhhbkoikocjgaa
set_option linter.unusedSectionVars false
set_option maxHeartbeats 1000000
open Go.RowKit
set_option maxRecDepth 100000
set_option linter.unusedVariables false
set_option linter.unusedSimpArgs false

variable [DecidableEq Ac] [DecidableEq Ou] [DecidableEq Mg]
def unn (m : Mg) : Mg := if m.kd = 2 ∨ m.kd = 3 then mg0 else if m.kd = 1 then { m with kd := 0, tw := 0, am := 0 } else m
def inB (m : Mg) : Bool := if m.kd = 1 then decide (m.tw < 32) && decide (0 < m.am) else if m.kd = 2 then decide (m.fr < 32) && decide (m.tw < 32) else if m.kd = 3 then decide (m.fr < 32) && decide (0 < m.am) else false
theorem unn_ok {m : Mg} (h : MgOK m) : MgOK (unn m) := by
  unfold unn; split
  · exact mg0_ok
  · split
    · exact ⟨by simp, by simp, h.f0, h.f1, by simp, by simp, by simp, by simp, h.n0, h.n1, h.kl, h.kb, h.nl, h.nb⟩
    · exact h
theorem may_two {m : Mg} : (decide (unn m = mg0) && inB m) = m.may := by
  unfold unn inB Mg.may
  by_cases h1 : m.kd = 1
  · have h2 : ¬ (m.kd = 2 ∨ m.kd = 3) := by omega
    have h2' : ¬ m.kd = 2 := by omega
    have h3 : ¬ m.kd = 3 := by omega
    rw [if_neg h2, if_pos h1, if_pos h1, Bool.eq_iff_iff]
    simp only [Bool.or_eq_true, Bool.and_eq_true, decide_eq_true_eq, beq_iff_eq, mg0, Mg.mk.injEq, h1]
    simp
    constructor
    · intro ⟨⟨a, b, c, d⟩, e, f⟩; exact ⟨⟨⟨⟨⟨a, e⟩, f⟩, b⟩, c⟩, d⟩
    · intro ⟨⟨⟨⟨⟨a, e⟩, f⟩, b⟩, c⟩, d⟩; exact ⟨⟨a, b, c, d⟩, e, f⟩
  · by_cases h2 : m.kd = 2
    · simp [h2]
    · by_cases h3 : m.kd = 3
      · simp [h3]
      · simp [h1, h2, h3]
set_option maxHeartbeats 1000000 in
theorem inBounds_any (m : Mg) (w : World) (hm : MgOK m) :
    Calls Try.prog 101 #[.agg m.arr] w fun e w' => e = .returned (.bool (inB m)) ∧ Below w.heap.size w w' := by
  have A0 := Arr.new w 95 m.arr
  have hB := alloc_bel' w (.cells m.arr 95)
  have c0 := mg_c0 A0
  have c1 := mg_c1 A0
  have c2 := mg_c2 A0
  have c3 := mg_c3 A0
  clear A0
  go_enter Try.func101, Try.ntmps101
  by_cases h1 : m.kd = 1
  · have e1 : (m.kd == 1) = true := by simpa using h1
    by_cases q1 : m.tw < 32 <;> by_cases q2 : 0 < m.am
    all_goals
      go_wp2_with fail
      go_ret
      exact ⟨by simp [inB, h1, q1, q2], hB⟩
  · have e1 : (m.kd == 1) = false := by simpa using h1
    by_cases h2 : m.kd = 2
    · have e2 : (m.kd == 2) = true := by simpa using h2
      by_cases q1 : m.fr < 32 <;> by_cases q2 : m.tw < 32
      all_goals
        go_wp2_with fail
        go_ret
        exact ⟨by simp [inB, h2, q1, q2], hB⟩
    · have e2 : (m.kd == 2) = false := by simpa using h2
      by_cases h3 : m.kd = 3
      · have e3 : (m.kd == 3) = true := by simpa using h3
        by_cases q1 : m.fr < 32 <;> by_cases q2 : 0 < m.am
        all_goals
          go_wp2_with fail
          go_ret
          exact ⟨by simp [inB, h3, q1, q2], hB⟩
      · have e3 : (m.kd == 3) = false := by simpa using h3
        go_wp2_with fail
        go_ret
        exact ⟨by simp [inB, h1, h2, h3], hB⟩
end Go.Proofs.Ytbhhbkoikocjgaa
/- Layer spec: what the layers below give. -/
namespace Go.Proofs.Ytbhhbkoikocjgaa
set_option linter.unusedSectionVars false
set_option maxHeartbeats 1000000
open Go.RowKit
set_option maxRecDepth 100000
set_option linter.unusedVariables false
set_option linter.unusedSimpArgs false

variable [DecidableEq Ac] [DecidableEq Ou] [DecidableEq Mg]
theorem Below.only {B g : Nat} {w w1 w2 : World} (h : Below B w w1) (ho : Only g w1 w2) (hg : B ≤ g) : Below B w w2 := h.trans (ho.bel.mono hg)
theorem setKd (m : Mg) (z : Int) : m.arr.setIfInBounds 0 (.int .u8 z) = ({ m with kd := z } : Mg).arr := by simp [Mg.arr, Mg.cells]
theorem setFr (m : Mg) (z : Int) : m.arr.setIfInBounds 1 (.int .u64 z) = ({ m with fr := z } : Mg).arr := by simp [Mg.arr, Mg.cells]
theorem setTo (m : Mg) (z : Int) : m.arr.setIfInBounds 2 (.int .u64 z) = ({ m with tw := z } : Mg).arr := by simp [Mg.arr, Mg.cells]
theorem setAm (m : Mg) (z : Int) : m.arr.setIfInBounds 3 (.int .u64 z) = ({ m with am := z } : Mg).arr := by simp [Mg.arr, Mg.cells]
theorem setNo (m : Mg) (z : Int) : m.arr.setIfInBounds 4 (.int .u64 z) = ({ m with no := z } : Mg).arr := by simp [Mg.arr, Mg.cells]
theorem Mg.ok2 {m : Mg} (h : MgOK m) {k f t a n : Int} (hk : 0 ≤ k ∧ k < 256) (hf : 0 ≤ f ∧ f < 18446744073709551616) (ht : 0 ≤ t ∧ t < 18446744073709551616) (ha : 0 ≤ a ∧ a < 18446744073709551616) (hn : 0 ≤ n ∧ n < 18446744073709551616) {x y : List Int} (hx : x.length = 32 ∧ Bts x) (hy : y.length = 32 ∧ Bts y) : MgOK ⟨k, f, t, a, n, x, y⟩ :=
  ⟨hk.1, hk.2, hf.1, hf.2, ht.1, ht.2, ha.1, ha.2, hn.1, hn.2, hx.1, hx.2, hy.1, hy.2⟩
set_option maxHeartbeats 1000000 in
theorem unnamed_any (m : Mg) (w : World) (hm : MgOK m) :
    Calls Try.prog 100 #[.agg m.arr] w fun e w' => e = .returned (.agg (unn m).arr) ∧ Below w.heap.size w w' := by
  have A0 := (Arr.new w 95 m.arr).alloc (.cells mg0.arr 95)
  have R0 : Arr ((w.alloc (.cells m.arr 95)).alloc (.cells mg0.arr 95)) (w.heap.size + 1) 95 mg0.arr := by simpa using Arr.new (w.alloc (.cells m.arr 95)) 95 mg0.arr
  have hB := (alloc_bel' w (.cells m.arr 95)).alloc (by simp) (.cells mg0.arr 95)
  have z27 := zv27
  go_enter Try.func100, Try.ntmps100
  go_upto_region 1 with fail
  generalize (w.alloc (.cells m.arr 95)).alloc (.cells mg0.arr 95) = W0 at A0 R0 hB ⊢
  have c0 := mg_c0 A0
  by_cases h23 : m.kd = 2 ∨ m.kd = 3
  · have hu : unn m = mg0 := by unfold unn; rw [if_pos h23]
    have hm1 : MgOK { m with fr := 0, no := 0 } := Mg.ok2 hm ⟨hm.k0, hm.k1⟩ (by omega) ⟨hm.t0, hm.t1⟩ ⟨hm.a0, hm.a1⟩ (by omega) ⟨hm.kl, hm.kb⟩ ⟨hm.nl, hm.nb⟩
    have hm2 : MgOK { m with fr := 0, no := 0, ky := Z32 } := Mg.ok2 hm ⟨hm.k0, hm.k1⟩ (by omega) ⟨hm.t0, hm.t1⟩ ⟨hm.a0, hm.a1⟩ (by omega) ⟨(by simp [Z32]), Z32_bts⟩ ⟨hm.nl, hm.nb⟩
    have A1 := (A0.set 1 (.int .u64 0)).set 4 (.int .u64 0)
    rw [setFr, setNo] at A1
    have R1 := (R0.setOther (a := ⟨w.heap.size, 1, none⟩) (.int .u64 0) (by simp)).setOther (a := ⟨w.heap.size, 4, none⟩) (.int .u64 0) (by simp)
    have B1 := (hB.setCell (p := ⟨w.heap.size, 1, none⟩) (by simp) (.int .u64 0)).setCell (p := ⟨w.heap.size, 4, none⟩) (by simp) (.int .u64 0)
    have f1 := A0.frozen 1
    have f4 := A0.frozen 4
    have c1 := mg_c1 A0
    have c4 := mg_c4 A0
    obtain ⟨ZZ, hZZ⟩ : ∃ Z : List Int, Hid (Z = Z32) := ⟨_, rfl⟩
    have hZ32 : ZZ.length = 32 := by rw [hZZ.out]; simp [Z32]
    have hbZ : Try.prog.built 24 [] = some (h8 ZZ) := by rw [hZZ.out]; kernel_rfl
    rw [← hZZ.out] at hm2
    have e2 : (m.kd == 2) = decide (m.kd = 2) := rfl
    have e3 : (m.kd == 3) = decide (m.kd = 3) := rfl
    by_cases h2 : m.kd = 2
    case' neg => have h3 : m.kd = 3 := by omega
    all_goals
      go_upto_region 6 with (first
        | (refine atB 24 ?_; refine bdT (by rfl) 24 #[] (by rfl) (ps := []) (by rfl) hbZ ?_)
        | (refine atS 24 (.tmp 15) (.tmp 11) ?_; refine stNx (by rfl) (.tmp 15) (.tmp 11) (by rfl) w.heap.size _ ZZ (by rfl) (by rfl) hm2 hZ32 AK ?_; intro wN AN ON; have RN := ON.arr RK (by omega); have BN := Below.only BK ON (Nat.le_refl _))
        | (refine atS 24 (.tmp 14) (.tmp 10) ?_; refine stKy (by rfl) (.tmp 14) (.tmp 10) (by rfl) w.heap.size _ ZZ (by rfl) (by rfl) hm1 hZ32 A1 ?_; intro wK AK OK; have RK := OK.arr R1 (by omega); have BK := Below.only B1 OK (Nat.le_refl _)))
      clear c0 c1 c4 f1 f4 A0 A1 AK R0 R1 RK hB B1 BK
      rw [hZZ.out] at AN
      have d0 := mg_c0 AN
      have d2 := mg_c2 AN
      have d3 := mg_c3 AN
      have f0 := AN.frozen 0
      have f2 := AN.frozen 2
      have f3 := AN.frozen 3
      have A4 := ((AN.set 0 (.int .u8 0)).set 2 (.int .u64 0)).set 3 (.int .u64 0)
      rw [setKd, setTo, setAm] at A4
      have R4 := ((RN.setOther (a := ⟨w.heap.size, 0, none⟩) (.int .u8 0) (by simp)).setOther (a := ⟨w.heap.size, 2, none⟩) (.int .u64 0) (by simp)).setOther (a := ⟨w.heap.size, 3, none⟩) (.int .u64 0) (by simp)
      have B4 := ((BN.setCell (p := ⟨w.heap.size, 0, none⟩) (by simp) (.int .u8 0)).setCell (p := ⟨w.heap.size, 2, none⟩) (by simp) (.int .u64 0)).setCell (p := ⟨w.heap.size, 3, none⟩) (by simp) (.int .u64 0)
      go_wp2_with (first
        | (refine atL 95 (.tmp 1) ?_; refine ld27M (by rfl) (.tmp 1) (by rfl) w.heap.size 95 (by rfl) mg0 mg0_ok A4 ?_)
        | (refine atS 95 (.tmp 2) (.tmp 19) ?_; refine st27 (by rfl) (.tmp 2) (.tmp 19) (by rfl) (w.heap.size + 1) mg0 (by rfl) (by rfl) mg0_ok (Mg.size mg0_ok) R4 ?_))
      exact bodyPost_ret (v := .agg mg0.arr) (res27 Try.results100 rfl mg0_ok (R4.setRow _)) rfl ⟨by first | rfl | rw [hu], below_setRow B4 (by omega) _⟩
  · have n2 : ¬ m.kd = 2 := by omega
    have n3 : ¬ m.kd = 3 := by omega
    have e2 : (m.kd == 2) = false := by simpa using n2
    have e3 : (m.kd == 3) = false := by simpa using n3
    by_cases h1 : m.kd = 1
    · have e1 : (m.kd == 1) = true := by simpa using h1
      have hu : unn m = { m with kd := 0, tw := 0, am := 0 } := by unfold unn; rw [if_neg h23, if_pos h1]
      have ho := unn_ok hm
      rw [hu] at ho
      have d2 := mg_c2 A0
      have d3 := mg_c3 A0
      have f0 := A0.frozen 0
      have f2 := A0.frozen 2
      have f3 := A0.frozen 3
      have A4 := ((A0.set 0 (.int .u8 0)).set 2 (.int .u64 0)).set 3 (.int .u64 0)
      rw [setKd, setTo, setAm] at A4
      have R4 := ((R0.setOther (a := ⟨w.heap.size, 0, none⟩) (.int .u8 0) (by simp)).setOther (a := ⟨w.heap.size, 2, none⟩) (.int .u64 0) (by simp)).setOther (a := ⟨w.heap.size, 3, none⟩) (.int .u64 0) (by simp)
      have B4 := ((hB.setCell (p := ⟨w.heap.size, 0, none⟩) (by simp) (.int .u8 0)).setCell (p := ⟨w.heap.size, 2, none⟩) (by simp) (.int .u64 0)).setCell (p := ⟨w.heap.size, 3, none⟩) (by simp) (.int .u64 0)
      go_wp2_with (first
        | (refine atL 95 (.tmp 1) ?_; refine ld27M (by rfl) (.tmp 1) (by rfl) w.heap.size 95 (by rfl) _ ho A4 ?_)
        | (refine atS 95 (.tmp 2) (.tmp 19) ?_; refine st27 (by rfl) (.tmp 2) (.tmp 19) (by rfl) (w.heap.size + 1) _ (by rfl) (by rfl) ho (Mg.size mg0_ok) R4 ?_))
      exact bodyPost_ret (v := .agg _) (res27 Try.results100 rfl ho (R4.setRow _)) rfl ⟨by first | rfl | rw [hu], below_setRow B4 (by omega) _⟩
    · have e1 : (m.kd == 1) = false := by simpa using h1
      have hu : unn m = m := by unfold unn; rw [if_neg h23, if_neg h1]
      go_wp2_with (first
        | (refine atL 95 (.tmp 1) ?_; refine ld27M (by rfl) (.tmp 1) (by rfl) w.heap.size 95 (by rfl) _ hm A0 ?_)
        | (refine atS 95 (.tmp 2) (.tmp 19) ?_; refine st27 (by rfl) (.tmp 2) (.tmp 19) (by rfl) (w.heap.size + 1) _ (by rfl) (by rfl) hm (Mg.size mg0_ok) R0 ?_))
      exact bodyPost_ret (v := .agg m.arr) (res27 Try.results100 rfl hm (R0.setRow _)) rfl ⟨by first | rfl | rw [hu], below_setRow hB (by omega) _⟩
set_option maxHeartbeats 1000000 in
theorem may_anyM (m : Mg) (w : World) (hm : MgOK m) :
    Calls Try.prog 89 #[.agg m.arr] w fun e w' => e = .returned (.bool m.may) ∧ Below w.heap.size w w' := by
  have A0 := Arr.new w 95 m.arr
  have hB := alloc_bel' w (.cells m.arr 95)
  have hb0 := built27z
  have hu := unn_ok hm
  have E := Hid.mk' (may_two (m := m))
  have EQ : ∀ u, (binOp .eql 95 (.agg (unn m).arr) (.agg mg0.arr)).run Try.prog u = .ok (.bool (decide (unn m = mg0))) u := run_eq27M hu mg0_ok
  generalize hd : decide (unn m = mg0) = b at EQ E
  clear hd
  go_enter Try.func89, Try.ntmps89
  cases b
  all_goals
    go_wp2_with (first
      | (refine atL 95 (.tmp 1) ?_; refine ld27M (by rfl) (.tmp 1) (by rfl) w.heap.size 95 (by rfl) m hm (by assumption) ?_)
      | (refine atB 95 ?_; refine bdT (by rfl) 95 #[] (by rfl) (ps := []) (by rfl) hb0 ?_)
      | (go_at_call 100; go_must (refine (unnamed_any m _ hm).mono ?_; rintro e w1 ⟨rfl, hb1⟩; have A1 := A0.bel hb1; have B1 := hB.trans (hb1.mono (by simp)); clear A0))
      | (go_at_call 101; go_must (refine (inBounds_any m _ hm).mono ?_; rintro e w2 ⟨rfl, hb2⟩; have B2 := B1.trans (hb2.mono B1.size))))
    go_ret
    all_goals first
      | exact ⟨by rw [← E.out]; rfl, B2⟩
      | exact ⟨by rw [← E.out]; rfl, B1⟩
end Go.Proofs.Ytbhhbkoikocjgaa
/- Layer spec: what the layers below give. -/
namespace Go.Proofs.Ytbhhbkoikocjgaa
set_option linter.unusedSectionVars false
set_option maxHeartbeats 1000000
open Go.RowKit
set_option maxRecDepth 100000
set_option linter.unusedVariables false
set_option linter.unusedSimpArgs false

variable [DecidableEq Ac] [DecidableEq Ou] [DecidableEq Mg]
theorem s41u (f : Nat → Int) : (Try.prog.info? 131).map (·.size) = some (u64s 13 f).size := by rw [u64s_size]; exact size41
theorem st41n {ops : Array Oper} {rest : List Oper} {o : Oper} {a : Act} {Q : Exit → Act → World → Prop} (hgd : o.guard = none) (x y : Operand) (ho : o.op = .store 131 x y) (W : World) (g : Nat) (hgW : W.heap.size = g) {z : Array Value} (hz : z.size = 13)
    (C : Array Value) (hx : a.eval x = .pointer (some ⟨g, 0, none⟩)) (hy : a.eval y = .agg C) (hC : C.size = 13) (h1 : C.all (·.oneCell') = true)
    (h : wpList Try.prog ops Q rest (a.put o.dst undef) (W.alloc (.cells C 131))) : wpList Try.prog ops Q (o :: rest) a (W.alloc (.cells z 131)) := by
  subst hgW
  exact wpList_store_new W z 131 hgd 131 x y ho C hx hy (by rw [hC]; exact size41) (by rw [hz, hC]) h1 h
/-- The first five, then as many of the sums' as are laid. -/
def w5 (m : Mg) : Array Value := #[.int .u64 m.kd, .int .u64 m.fr, .int .u64 m.tw, .int .u64 m.am, .int .u64 m.no, .int .u64 0, .int .u64 0, .int .u64 0, .int .u64 0, .int .u64 0, .int .u64 0, .int .u64 0, .int .u64 0]
end Go.Proofs.Ytbhhbkoikocjgaa
