/- S12, Cm, ZWf, RWf, QCm. -/
import Derived.Test.YtimmiidkjpbffaaX47
import Derived.Test.YtimmiidkjpbffaaX48
import Derived.Test.YtimmiidkjpbffaaX37
import Derived.Test.YtimmiidkjpbffaaX40
import Derived.Handy
import Derived.BigQuiet
import Derived.BigRegion
import Derived.Great.BuildSlice
import Derived.Test.YtimmiidkjpbffaaRows
import Derived.ChangeKeysEq
import Derived.ChangeOld
import Derived.Deep.DeepCutAuto
import Derived.Deep.DrawnRows
import Derived.Deep.MidRow
import Derived.Deep.QuietTactic
import Derived.Deep.RegionHeld3
import Derived.Deep.RegionLaw
import Derived.Deep.RegionWith
import Derived.Deep.WholeRow
import Derived.Laws.AppendOwnNone
import Derived.Laws.BitsLemmas
import Derived.Laws.BytesArg
import Derived.Laws.CopyOwn
import Derived.Laws.Tables
import Derived.Lib.SlBytesConst
import Derived.LoopIn
import Derived.LoopNIn
import Derived.Maps.AppendAt
import Derived.OpenShut
import Derived.OwnWalkIn
import Derived.ProofKit
import Derived.RangeFuncBound
import Derived.RangeFuncCalls
import Derived.RangeFuncLeaves
import Derived.RangeFuncNested
import Derived.RangeFuncRecord
import Derived.Shelf.Abstract
import Derived.Shelf.RegionOpen
import Derived.ShutString
import Derived.SizedLaws
import Derived.TacticsInMore
import Derived.WalkKit
import Derived.WalkLawsBesides
import Derived.WalkSpells
import Derived.Test.YtimmiidkjpbffaaX01
import Derived.Test.YtimmiidkjpbffaaX02
import Derived.Test.YtimmiidkjpbffaaX16
import Derived.Test.YtimmiidkjpbffaaX03
import Derived.Test.YtimmiidkjpbffaaX21
import Derived.Test.YtimmiidkjpbffaaX28
import Derived.Deep.OwnRows
import Derived.DeepKeys3
import Derived.Great.FillDense
import Derived.Laws.OwnMore
import Derived.Laws.ResultCell
import Derived.Recover
import Derived.Test.YtimmiidkjpbffaaX08
import Derived.Test.YtimmiidkjpbffaaX29
/- Layer compile: the law CompileStarts. -/
namespace Go.Proofs.Ytimmiidkjpbffaa
open Go.RowKit
set_option maxRecDepth 100000
set_option linter.unusedVariables false
set_option linter.unusedSimpArgs false


theorem iSM_ok {L ds : List Int} {b d : Int} (hL : ∀ k, U64 (L.getD k 0)) (hD : ∀ k, U64 (ds.getD k 0)) : (iSM L b d ds).ok := by
  unfold iSM
  split
  · exact ⟨zM_ok.pc, zM_ok.r16, zM_ok.rg, zM_ok.st, spL_U hL hD⟩
  · exact zM_ok
theorem smB_self (m : Mc) : smB m m = true := by simp [smB]
set_option maxHeartbeats 4000000 in
theorem starts_walk (b d : Int) (m : Mc) (L ds : List Int) (sp : Option Addr) (n cap : Nat) (sq : Option Addr) (nq cq : Nat) (sd : Option Addr) (nd cd : Nat) (w : World)
    (hM : MS w.heap.size w sp n cap L) (hLU : ∀ k, U64 (L.getD k 0)) (hMq : MS w.heap.size w sq nq cq m.me) (hok : m.ok) (hD : MS w.heap.size w sd nd cd ds) (hDU : ∀ k, U64 (ds.getD k 0)) (hb : -9223372036854775808 ≤ b ∧ b ≤ 9223372036854775807) (hd : -9223372036854775808 ≤ d ∧ d ≤ 9223372036854775807) :
    Calls Try.prog 3 #[.agg #[.slice sp n cap, .int .i64 b, .int .i64 d], .agg (mcA m sq nq cq), .slice sd nd cd] w (BoP true w) := by
  have h6 := hid (fun U (hU : Below w.heap.size w U) => start6_any L ds b d sp n cap sd nd cd U (hM.below hU) (hD.below hU) hb hd)
  have h7 := hid (fun U (hU : Below w.heap.size w U) => start7_any L ds b d sp n cap sd nd cd U (hM.below hU) (hD.below hU) hb hd)
  have h8 := hid (fun U (hU : Below w.heap.size w U) => result8_any b d m sp n cap sq nq cq U hM.small hok (hMq.below hU) hb hd)
  have h9 := hid (fun U (hU : Below w.heap.size w U) => result9_any b d m sp n cap sq nq cq U hM.small hok (hMq.below hU) hb hd)
  have hao := hid anchored_any
  have hokI := iSM_ok (b := b) (d := d) hLU hDU
  have A0 := (Arr.new w 24 #[.slice sp n cap, .int .i64 b, .int .i64 d]).alloc (.cells (mcA m sq nq cq) 29)
  have A1 := Arr.new (w.alloc (.cells #[.slice sp n cap, .int .i64 b, .int .i64 d] 24)) 29 (mcA m sq nq cq)
  simp only [World.size_alloc] at A1
  have hb0 := (alloc_bel' w (.cells #[.slice sp n cap, .int .i64 b, .int .i64 d] 24)).alloc (by simp) (.cells (mcA m sq nq cq) 29)
  have hs0 := mcA_size hok.r16 sq nq cq
  unfold IsP at h6 h7
  unfold RsP at h8 h9
  unfold BoP at hao
  have hsI := hid (fun (sp : Option Addr) (n cp : Nat) => mcA_size hokI.r16 sp n cp)
  generalize iSM L b d ds = M0 at *
  generalize iSE L b d ds = e0 at *
  generalize rsE n b d m = r0 at *
  generalize rsS n b d m = r1 at *
  generalize rsV n b d m = r2 at *
  generalize rsL n b d m = r3 at *
  have hoI := hid (fun (sp : Option Addr) (n cp : Nat) => mcA_one M0 sp n cp)
  generalize hC : mcA m sq nq cq = C at *
  clear hC hM hMq hD hLU hDU hb hd
  replace hokI := hid hokI
  have hg : w.heap.size + 1 < ((w.alloc (.cells #[.slice sp n cap, .int .i64 b, .int .i64 d] 24)).alloc (.cells C 29)).heap.size := by simp
  go_enter Try.func3, Try.ntmps3
  go_upto_region 1 with fail
  generalize (w.alloc (.cells #[.slice sp n cap, .int .i64 b, .int .i64 d] 24)).alloc (.cells C 29) = U0 at *
  have a0 := A0.cell 0
  have a1 := A0.cell 1
  have a2 := A0.cell 2
  go_upto_region 2 with (first
    | (go_at_call 6; go_must (refine (h6.out U0 hb0).mono ?_; rintro e w1 ⟨sp1, n1, cap1, rfl, hM1, -, hb1⟩))
    | (refine st45n (by rfl) (.tmp 7) (.tmp 19) (by rfl) w1 w1.heap.size rfl (by rfl) (mcA M0 sp1 n1 cap1) (by rfl) (by rfl) (hsI.out _ _ _) (hoI.out _ _ _) ?_))
  have B1 := hb0.trans (hb1.mono hb0.size)
  have J1 := Arr.new w1 29 (mcA M0 sp1 n1 cap1)
  have E0 := (A0.bl hb1).alloc (.cells (mcA M0 sp1 n1 cap1) 29)
  have E1 := (A1.bl hb1).alloc (.cells (mcA M0 sp1 n1 cap1) 29)
  have M1 := (hM1.below (ab w1 (.cells (mcA M0 sp1 n1 cap1) 29))).here
  have B1' := B1.alloc B1.size (.cells (mcA M0 sp1 n1 cap1) 29)
  clear hM1 hb1 B1 hb0 A0 A1 a0 a1 a2 h6 hg
  generalize w1.alloc (.cells (mcA M0 sp1 n1 cap1) 29) = U1 at *
  generalize w1.heap.size = g1 at *
  have a0 := E0.cell 0
  have a1 := E0.cell 1
  have a2 := E0.cell 2
  go_upto_region 3 with (first
    | (go_at_call 7; go_must (refine (h7.out U1 B1').mono ?_; rintro e w2 ⟨sp2, n2, cap2, rfl, hM2, -, hb2⟩))
    | (refine st45n (by rfl) (.tmp 9) (.tmp 25) (by rfl) w2 w2.heap.size rfl (by rfl) (mcA M0 sp2 n2 cap2) (by rfl) (by rfl) (hsI.out _ _ _) (hoI.out _ _ _) ?_))
  have B2 := B1'.trans (hb2.mono B1'.size)
  have J2 := Arr.new w2 29 (mcA M0 sp2 n2 cap2)
  have J12 := (J1.bl hb2).alloc (.cells (mcA M0 sp2 n2 cap2) 29)
  have E02 := (E0.bl hb2).alloc (.cells (mcA M0 sp2 n2 cap2) 29)
  have E12 := (E1.bl hb2).alloc (.cells (mcA M0 sp2 n2 cap2) 29)
  have M12 := ((M1.below hb2).here.below (ab w2 (.cells (mcA M0 sp2 n2 cap2) 29))).here
  have M2 := (hM2.below (ab w2 (.cells (mcA M0 sp2 n2 cap2) 29))).here
  have B2' := B2.alloc B2.size (.cells (mcA M0 sp2 n2 cap2) 29)
  clear hM2 hb2 B2 B1' E0 E1 J1 M1 a0 a1 a2 h7
  generalize w2.alloc (.cells (mcA M0 sp2 n2 cap2) 29) = U2 at *
  generalize w2.heap.size = g2 at *
  have a0 := E02.cell 0
  have a1 := E02.cell 1
  have a2 := E02.cell 2
  go_upto_region 4 with (first
    | (refine ld45 (by rfl) (.tmp 4) (by rfl) (w.heap.size + 1) (by rfl) C hs0 E12 ?_)
    | (go_at_call 8; go_must (refine (h8.out U2 B2').mono ?_; rintro e w3 ⟨sp3, k3, cap3, rfl, hD3, hb3⟩))
    | (refine wpList_store_new w3 #[.int .u8 0, .int .u64 0, .slice none 0 0, .int .i64 0] 36 (by rfl) 36 (.tmp 11) (.tmp 31) (by rfl) (ouA r1 r2 sp3 k3 cap3 0) (by rfl) (by rfl) size36 rfl (ouA_one _ _ _ _ _ _) ?_))
  have B3 := B2'.trans (hb3.mono B2'.size)
  have O3 := Arr.new w3 36 (ouA r1 r2 sp3 k3 cap3 0)
  have E03 := (E02.bl hb3).alloc (.cells (ouA r1 r2 sp3 k3 cap3 0) 36)
  have E13 := (E12.bl hb3).alloc (.cells (ouA r1 r2 sp3 k3 cap3 0) 36)
  have J13 := (J12.bl hb3).alloc (.cells (ouA r1 r2 sp3 k3 cap3 0) 36)
  have J23 := (J2.bl hb3).alloc (.cells (ouA r1 r2 sp3 k3 cap3 0) 36)
  have M13 := ((M12.below hb3).here.below (ab w3 (.cells (ouA r1 r2 sp3 k3 cap3 0) 36))).here
  have M23 := ((M2.below hb3).here.below (ab w3 (.cells (ouA r1 r2 sp3 k3 cap3 0) 36))).here
  have D3 := hD3.bl (ab w3 (.cells (ouA r1 r2 sp3 k3 cap3 0) 36))
  have B3' := B3.alloc B3.size (.cells (ouA r1 r2 sp3 k3 cap3 0) 36)
  clear hD3 hb3 B3 B2' E02 E12 J12 J2 M12 M2 a0 a1 a2 h8
  generalize w3.alloc (.cells (ouA r1 r2 sp3 k3 cap3 0) 36) = U3 at *
  generalize w3.heap.size = g3 at *
  have a0 := E03.cell 0
  have a1 := E03.cell 1
  have a2 := E03.cell 2
  go_upto_region 5 with (first
    | (refine ld45 (by rfl) (.tmp 4) (by rfl) (w.heap.size + 1) (by rfl) C hs0 E13 ?_)
    | (go_at_call 9; go_must (refine (h9.out U3 B3').mono ?_; rintro e w4 ⟨sp4, k4, cap4, rfl, hD4, hb4⟩))
    | (refine wpList_store_new w4 #[.int .u8 0, .int .u64 0, .slice none 0 0, .int .i64 0] 36 (by rfl) 36 (.tmp 13) (.tmp 37) (by rfl) (ouA r1 r2 sp4 k4 cap4 0) (by rfl) (by rfl) size36 rfl (ouA_one _ _ _ _ _ _) ?_))
  have B4 := B3'.trans (hb4.mono B3'.size)
  have O4 := Arr.new w4 36 (ouA r1 r2 sp4 k4 cap4 0)
  have O34 := (O3.bl hb4).alloc (.cells (ouA r1 r2 sp4 k4 cap4 0) 36)
  have J14 := (J13.bl hb4).alloc (.cells (ouA r1 r2 sp4 k4 cap4 0) 36)
  have J24 := (J23.bl hb4).alloc (.cells (ouA r1 r2 sp4 k4 cap4 0) 36)
  have M14 := ((M13.below hb4).here.below (ab w4 (.cells (ouA r1 r2 sp4 k4 cap4 0) 36))).here
  have M24 := ((M23.below hb4).here.below (ab w4 (.cells (ouA r1 r2 sp4 k4 cap4 0) 36))).here
  have D34 := (D3.bl hb4).bl (ab w4 (.cells (ouA r1 r2 sp4 k4 cap4 0) 36))
  have D4 := hD4.bl (ab w4 (.cells (ouA r1 r2 sp4 k4 cap4 0) 36))
  have B4' := B4.alloc B4.size (.cells (ouA r1 r2 sp4 k4 cap4 0) 36)
  clear hD4 hb4 B4 B3' E03 E13 J13 J23 M13 M23 D3 O3 a0 a1 a2 h9
  generalize w4.alloc (.cells (ouA r1 r2 sp4 k4 cap4 0) 36) = U4 at *
  generalize w4.heap.size = g4 at *
  have hsm := refSame_any M0 M0 sp1 n1 cap1 sp2 n2 cap2 U4.heap.size U4 hokI.out hokI.out M14 M24
  rw [smB_self] at hsm
  have hst := fun (U : World) (hU : Below U4.heap.size U4 U) => sameT_any (s1 := r1) (v1 := r2) (k1 := 0) (s2 := r1) (v2 := r2) (k2 := 0) (c1 := cap3) (c2 := cap4) U (D34.bl hU) (D4.bl hU)
  rw [decide_eq_true (by simp)] at hst
  unfold BoP at hst
  clear M14 M24 D34 D4
  go_wp2_with (first
    | (refine ld45 (by rfl) (.tmp 7) (by rfl) g1 (by rfl) (mcA M0 sp1 n1 cap1) (hsI.out _ _ _) J14 ?_)
    | (refine ld45 (by rfl) (.tmp 9) (by rfl) g2 (by rfl) (mcA M0 sp2 n2 cap2) (hsI.out _ _ _) J24 ?_)
    | (refine lR (by rfl) 36 (.tmp 11) (by rfl) g3 (by rfl) (ouA r1 r2 sp3 k3 cap3 0) O35 Try.underlying36 rfl size36 ?_)
    | (refine lR (by rfl) 36 (.tmp 13) (by rfl) g4 (by rfl) (ouA r1 r2 sp4 k4 cap4 0) O45 Try.underlying36 rfl size36 ?_)
    | (go_at_call 10; go_must (refine hsm.mono ?_; rintro e w5 ⟨rfl, hb5⟩; have O35 := O34.bl hb5; have O45 := O4.bl hb5; have B5 := B4'.trans (hb5.mono B4'.size)))
    | (go_at_call 11; go_must (refine (hst w5 hb5).mono ?_; rintro e w6 ⟨rfl, hb6⟩; have B6 := B5.trans (hb6.mono B5.size)))
    | (go_at_call 12; go_must (refine (hao.out w6).mono ?_; rintro e w7 ⟨rfl, hb7⟩; have B7 := B6.trans (hb7.mono B6.size))))
  go_ret
  exact ⟨rfl, B7⟩
end Go.Proofs.Ytimmiidkjpbffaa
/- Layer compile: what the layers below give. -/
namespace Go.Proofs.Ytimmiidkjpbffaa
open Go.ChangeAt Go.ChangeShapes Go.RowKit Go.WideShapes
set_option maxRecDepth 100000
set_option linter.unusedVariables false
set_option linter.unusedSimpArgs false

theorem exists_list {α : Type} {P : Nat → α → Prop} : ∀ (n : Nat), (∀ i, i < n → ∃ a, P i a) → ∃ l : List α, l.length = n ∧ ∀ i a, l[i]? = some a → P i a
  | 0, _ => ⟨[], rfl, fun i a h => by simp at h⟩
  | n + 1, h => by
    obtain ⟨l, hl, hP⟩ := exists_list n (fun i hi => h i (by omega))
    obtain ⟨a, ha⟩ := h n (by omega)
    refine ⟨l ++ [a], by simp [hl], fun i b hb => ?_⟩
    by_cases hi : i < n
    · rw [List.getElem?_append_left (by omega)] at hb; exact hP i b hb
    · rw [List.getElem?_append_right (by omega)] at hb
      have : i - l.length = 0 := by have := (List.getElem?_eq_some_iff.1 hb).1; simp at this; omega
      rw [this] at hb
      simp at hb
      subst hb
      obtain rfl : i = n := by omega
      exact ha
/-- Nothing in it is greater than the reach. -/
def Small {H : Type} (t : TypeId) (d : DataW H) : Prop := ∀ n ∈ d.weights Try.prog t, n ≤ reachBytes
section
variable {H : Type} {enc : TypeId × Value → H} {W : World} {base : Nat}

/-- The cells at an address. -/
theorem cells_at {a : Addr} {k : Nat} {cs : List Value} (hk : 0 < k) (h : W.cells? base a k = some cs) : ∃ b off, a = ⟨b, off, none⟩ ∧ W.rangeAt b off cs := by
  obtain ⟨-, hl, hc⟩ := World.cells?_some h
  have h0 := hc 0 hk
  have h0' : ∃ v, cs[0]? = some v := by
    cases cs with
    | nil => simp at hl; omega
    | cons x r => exact ⟨x, rfl⟩
  obtain ⟨v0, hv0⟩ := h0'
  rw [hv0] at h0
  obtain ⟨b, off, spot⟩ := a
  have hspot : spot = none := by simpa [Addr.add] using World.cell?_spot h0
  subst hspot
  refine ⟨b, off, rfl, fun j v hv => ?_⟩
  have hj : j < k := by have := (List.getElem?_eq_some_iff.1 hv).1; omega
  have := hc j hj
  rw [Addr.add_mid] at this
  rw [this]; exact hv
end
end Go.Proofs.Ytimmiidkjpbffaa
/- Layer compile: what the layers below give. -/
namespace Go.Proofs.Ytimmiidkjpbffaa
open Go.ChangeAt Go.ChangeShapes Go.RowKit Go.WideShapes
set_option maxRecDepth 100000
set_option linter.unusedVariables false
set_option linter.unusedSimpArgs false

theorem u64_wfV {z : Int} (h : (Lit.int .u64 z).wf = true) : U64 z := by
  have h1 : IntKind.u64.min = 0 := rfl
  have h2 : IntKind.u64.max = 18446744073709551615 := rfl
  simp only [Lit.wf, Bool.and_eq_true, decide_eq_true_eq] at h
  unfold U64
  omega
theorem getD_u {L : List Int} (h : ∀ y ∈ L, U64 y) (k : Nat) : U64 (L.getD k 0) := by
  rw [List.getD_eq_getElem?_getD]
  by_cases hk : k < L.length
  · rw [List.getElem?_eq_getElem hk]; exact h _ (List.getElem_mem hk)
  · rw [List.getElem?_eq_none (by omega)]; simp [U64]
theorem bytes26 : Try.prog.bytesOf 25 = 8 := by kernel_rfl
section
variable {H : Type} {enc : TypeId × Value → H} {W : World} {base : Nat}
theorem ws_of_trod {fuel : Nat} {cs : List Value} {x : DataW H × List MemPlace} (h : DataW.trod enc Try.prog W base (fun _ => true) true fuel 22 cs = some x) (hs : Small 22 x.1) :
    ∃ sp n cap L, cs = [.slice sp n cap] ∧ MS W.heap.size W sp n cap L ∧ ∀ k, U64 (L.getD k 0) := by
  rcases open_ints Try.underlying22 Try.underlying25 (by kernel_rfl) h with ⟨rfl, _⟩ | ⟨a, len, cap, zs, rfl, _, hl, hm, hz, rfl, hcell, hwz⟩
  · exact ⟨none, 0, 0, [], rfl, MS.nil0 _ _, fun k => by simp [U64]⟩
  · have hz' : zs.length = cap := by simpa using hz
    have hr := hs (((zs.take len).length + (zs.drop len).length) * 8) (by simp [DataW.weights, Try.underlying22, bytes26, lits])
    simp only [List.length_take, List.length_drop, reachBytes] at hr
    refine ⟨some a, len, cap, zs.take len, rfl, ⟨show _ = _ by simp; omega, (fun e => by cases e), hl, by unfold maxLen at hm; omega, by omega, fun h0 => ?_⟩, getD_u fun y hy => u64_wfV (hwz y (List.mem_of_mem_take hy))⟩
    obtain ⟨b, off, rfl, hc⟩ := ints_at hcell (by omega)
    refine ⟨b, off, rfl, block_lt_of_cell (hc 0 (by omega)), fun t ht => ?_⟩
    rw [hc t (by omega)]
    simp [List.getElem?_take_of_lt ht]
end
end Go.Proofs.Ytimmiidkjpbffaa
/- Layer compile: what the layers below give. -/
namespace Go.Proofs.Ytimmiidkjpbffaa
open Go.ChangeAt Go.ChangeShapes Go.RowKit Go.WideShapes
set_option maxRecDepth 100000
set_option linter.unusedVariables false
set_option linter.unusedSimpArgs false

theorem u64_wf {z : Int} (h : (Lit.int .u64 z).wf = true) : U64 z := by
  have h1 : IntKind.u64.min = 0 := rfl
  have h2 : IntKind.u64.max = 18446744073709551615 := rfl
  simp only [Lit.wf, Bool.and_eq_true, decide_eq_true_eq] at h
  unfold U64
  omega
theorem u8_wf {z : Int} (h : (Lit.int .u8 z).wf = true) : 0 ≤ z ∧ z < 256 := by
  have h1 : IntKind.u8.min = 0 := rfl
  have h2 : IntKind.u8.max = 255 := rfl
  simp only [Lit.wf, Bool.and_eq_true, decide_eq_true_eq] at h
  omega
theorem cells26 : Try.prog.cellsOf 25 = 1 := by kernel_rfl
theorem cells41 : Try.prog.cellsOf 26 = 16 := by kernel_rfl
theorem cells42 : Try.prog.cellsOf 27 = 1 := by kernel_rfl
theorem cells43 : Try.prog.cellsOf 22 = 1 := by kernel_rfl
theorem cells45 : Try.prog.cellsOf 29 = 19 := by kernel_rfl
section
variable {H : Type} {enc : TypeId × Value → H} {W : World} {base : Nat}
theorem rg_of_trod {fuel : Nat} {cs : List Value} {x : DataW H × List MemPlace} (h : DataW.trod enc Try.prog W base (fun _ => true) true fuel 26 cs = some x) : ∃ X : List Int, X.length = 16 ∧ (∀ y ∈ X, U64 y) ∧ cs = by64 X := by
  obtain ⟨xs, m, -, hx, hl, hxs, hi⟩ := DataW.trod_array Try.underlying26 h
  rw [cells41] at hl
  have key : ∀ i, i < 16 → ∃ z, cs[i]? = some (.int .u64 z) ∧ (Lit.int .u64 z).wf = true := fun i hin => by
    have := hi i hin
    rw [List.getElem?_eq_getElem (by omega), cells26] at this
    obtain ⟨z, hz, -, hw⟩ := DataW.trod_int Try.underlying25 this
    refine ⟨z, ?_, hw⟩
    simp only [Nat.mul_one] at hz
    have h2 : (List.take 1 (List.drop i cs))[0]? = some (.int .u64 z) := by rw [hz]; rfl
    simpa using h2
  refine ⟨cs.map fun v => match v with | .int _ z => z | _ => 0, by simp [hl], fun y hy => ?_, ?_⟩
  · obtain ⟨v, hv, rfl⟩ := List.mem_map.1 hy
    obtain ⟨i, hin, rfl⟩ := List.mem_iff_getElem.1 hv
    obtain ⟨z, hz, hw⟩ := key i (by omega)
    rw [List.getElem?_eq_getElem hin] at hz
    rw [Option.some.inj hz]; exact u64_wf hw
  · apply List.ext_getElem?
    intro i
    by_cases hin : i < 16
    · obtain ⟨z, hz, -⟩ := key i hin
      simp [by64, hz]
    · rw [List.getElem?_eq_none (by omega), List.getElem?_eq_none (by rw [by64_len]; simp; omega)]
theorem list_parts {cs : List Value} (hl : cs.length = 19) : cs = List.take 1 cs ++ (List.take 16 (List.drop 1 cs) ++ (List.take 1 (List.drop 17 cs) ++ List.take 1 (List.drop 18 cs))) := by
  rw [List.take_of_length_le (l := List.drop 18 cs) (by rw [List.length_drop]; omega), show List.drop 18 cs = List.drop 1 (List.drop 17 cs) by rw [List.drop_drop], List.take_append_drop, show List.drop 17 cs = List.drop 16 (List.drop 1 cs) by rw [List.drop_drop], List.take_append_drop, List.take_append_drop]
set_option maxRecDepth 100000 in
theorem mc_of_trod {fuel : Nat} {cs : List Value} {x : DataW H × List MemPlace} (h : DataW.trod enc Try.prog W base (fun _ => true) true fuel 29 cs = some x) (hs : Small 29 x.1) :
    ∃ m sp n cap, cs = mcL m (.slice sp n cap) ∧ m.ok ∧ MS W.heap.size W sp n cap m.me := by
  obtain ⟨xs, n, rfl, rfl, hl, hxl, hf⟩ := DataW.trod_struct Try.underlying29 h
  rw [cells45] at hl
  simp at hxl
  match xs, hxl with
  | [x0, x1, x2, x3], _ =>
  have f0 := hf 0 _ rfl
  have f1 := hf 1 _ rfl
  have f2 := hf 2 _ rfl
  have f3 := hf 3 _ rfl
  simp [cells26, cells41, cells42, cells43] at f0 f1 f2 f3
  have s3 : Small 22 x3.1 := fun m hm => hs m (by simp [DataW.weights, Try.underlying29, DataW.weightsEach, hm])
  obtain ⟨pc, e0, -, w0⟩ := DataW.trod_int Try.underlying25 f0
  obtain ⟨X, hX, hU, e1⟩ := rg_of_trod f1
  obtain ⟨st, e2, -, w2⟩ := DataW.trod_int Try.underlying27 f2
  obtain ⟨sp, k, cap, L, e3, hM, hUm⟩ := ws_of_trod f3 s3
  refine ⟨⟨pc, X, st, L⟩, sp, k, cap, ?_, ⟨u64_wf w0, hX, getD_u hU, u8_wf w2, hUm⟩, hM⟩
  rw [list_parts hl, e0, List.drop_one, e1, e2, e3]
  rfl
/-- A MACHINE THAT CAME IN. -/
theorem open_machine {b0 : Nat} {v : Value} {d : DataW H} {p : List MemPlace} {ts : List TypeId} {ds : List (DataW H)} {j : Nat}
    (hv : Value.okWide Try.prog W .any b0 29 v) (h : DataW.Trod enc Try.prog W base (fun _ => true) true 29 v d p)
    (hsz : (DataW.weightsEach Try.prog ts ds).all (· ≤ reachBytes) = true) (ht : ts[j]? = some 29) (hd : ds[j]? = some d) :
    ∃ m C, v = .agg C ∧ (∃ sp n cap, C = mcA m sp n cap ∧ MS W.heap.size W sp n cap m.me) ∧ m.ok := by
  unfold Value.okWide at hv
  rw [Try.underlying29] at hv
  obtain ⟨cs, rfl, hc, -⟩ := hv
  obtain ⟨fuel, hf⟩ := h
  have hs : Small 29 d := fun n hn => by
    have := List.all_eq_true.1 hsz n (DataW.weights_mem_each ht hd n hn)
    simpa using this
  obtain ⟨m, sp, n, cap, e, hok, hM⟩ := mc_of_trod (x := (d, p)) hf hs
  refine ⟨m, cs, rfl, ⟨sp, n, cap, ?_, hM⟩, hok⟩
  apply Array.toList_inj.1
  exact e
end
end Go.Proofs.Ytimmiidkjpbffaa
/- Layer compile: what the layers below give. -/
namespace Go.Proofs.Ytimmiidkjpbffaa
open Go.ChangeAt Go.ChangeShapes Go.RowKit Go.WideShapes
set_option maxRecDepth 100000
set_option linter.unusedVariables false
set_option linter.unusedSimpArgs false

theorem weights_all {H : Type} {P : Program} {e : TypeId} {l : List (DataW H)} {d : DataW H} (hd : d ∈ l) : ∀ n ∈ d.weights P e, n ∈ DataW.weightsAll P e l := by
  induction l with
  | nil => simp at hd
  | cons x r ih =>
    intro n hn
    rw [DataW.weightsAll]
    rcases List.mem_cons.1 hd with rfl | h
    · exact List.mem_append_left _ hn
    · exact List.mem_append_right _ (ih h n hn)
end Go.Proofs.Ytimmiidkjpbffaa
