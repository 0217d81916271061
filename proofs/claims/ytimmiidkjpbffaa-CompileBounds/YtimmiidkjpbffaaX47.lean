/- S10, S11, RVv. -/
import Derived.Test.YtimmiidkjpbffaaX04
import Derived.Test.YtimmiidkjpbffaaX34
import Derived.Test.YtimmiidkjpbffaaX37
import Derived.Test.YtimmiidkjpbffaaX40
import Derived.Test.YtimmiidkjpbffaaX46
import Derived.Test.YtimmiidkjpbffaaX31
import Derived.Test.YtimmiidkjpbffaaX38
import Derived.Handy
import Derived.BigQuiet
import Derived.BigRegion
import Derived.Great.BuildSlice
import Derived.Test.YtimmiidkjpbffaaX01
import Derived.Test.YtimmiidkjpbffaaX02
import Derived.Test.YtimmiidkjpbffaaX03
import Derived.Test.YtimmiidkjpbffaaX27
import Derived.Test.YtimmiidkjpbffaaX21
import Derived.Test.YtimmiidkjpbffaaX28
import Derived.Test.YtimmiidkjpbffaaX30
import Derived.ChangeKeysEq
import Derived.Deep.DeepCutAuto
import Derived.Deep.DrawnRows
import Derived.Deep.MidRow
import Derived.Deep.QuietTactic
import Derived.Deep.RegionHeld3
import Derived.Deep.RegionLaw
import Derived.Deep.RegionWith
import Derived.Deep.WholeRow
import Derived.DeepKeys3
import Derived.Laws.AppendOwnNone
import Derived.Laws.BitsLemmas
import Derived.Laws.BytesArg
import Derived.Laws.CopyOwn
import Derived.Laws.ResultCell
import Derived.Laws.Tables
import Derived.Lib.SlBytesConst
import Derived.LoopIn
import Derived.LoopNIn
import Derived.Maps.AppendAt
import Derived.OwnWalkIn
import Derived.RangeFuncBound
import Derived.RangeFuncCalls
import Derived.RangeFuncLeaves
import Derived.RangeFuncNested
import Derived.RangeFuncRecord
import Derived.Recover
import Derived.Shelf.Abstract
import Derived.Shelf.RegionOpen
import Derived.TacticsInMore
import Derived.WalkKit
import Derived.WalkLawsBesides
import Derived.WalkSpells
/- Layer compile: the anchor, call by call. -/
namespace Go.Proofs.Ytimmiidkjpbffaa
open Go.RowKit
set_option maxRecDepth 100000
set_option linter.unusedVariables false
set_option linter.unusedSimpArgs false


/-- The words of the small program's image. -/
def z9L : List Int := [207165582859042828, 148618787703226376, 1301540292310073352, 1229482698272145416, 1301540292310073356, 148618787703226368, 72057594037927936, 0, 0, 0, 0, 0, 0, 0, 0, 0]
theorem z9words : kWords z9p = z9L := by kernel_rfl
theorem z9size : kSize z9p = 16 := by kernel_rfl
theorem z9pgN : pgN z9p = some 4091 := by kernel_rfl
theorem u64_all {L : List Int} (h : (L.all fun x => decide (0 ≤ x ∧ x < 18446744073709551616)) = true) : ∀ k, U64 (L.getD k 0) := fun k => by
  rw [List.all_eq_true] at h
  by_cases hk : k < L.length
  · rw [List.getD_eq_getElem?_getD, List.getElem?_eq_getElem hk]
    have := of_decide_eq_true (h _ (List.getElem_mem hk))
    exact this
  · rw [List.getD_eq_getElem?_getD, List.getElem?_eq_none (by omega)]
    show (0 : Int) ≤ 0 ∧ (0 : Int) < 18446744073709551616; omega
/-- The machine behind so many steps. -/
def z9t : Nat → Mc
  | 0 => { zM with me := z9L }
  | j + 1 => tick [] (z9t j)
def opSb (u : Mc) : Bool := decide (0 ≤ u.pc ∧ u.pc.toNat < u.me.length ∧ dOk (u.me.getD u.pc.toNat 0) = true ∧ (dOp (u.me.getD u.pc.toNat 0) = 1 ∨ dOp (u.me.getD u.pc.toNat 0) = 2 ∨ dOp (u.me.getD u.pc.toNat 0) = 17 ∨ dOp (u.me.getD u.pc.toNat 0) = 18))
theorem opS_of {u : Mc} (h : opSb u = true) : opS u := by
  obtain ⟨h1, h2, h3, h4⟩ := of_decide_eq_true h
  exact ⟨u.pc.toNat, _, by omega, h2, rfl, h3, h4⟩
theorem z9ops : ((List.range 7).all fun j => opSb (z9t j)) = true := by kernel_rfl
theorem z9end : (z9t 7).st = 1 := by kernel_rfl
theorem z9Q : ∀ u, (∃ j, j ≤ 7 ∧ u = z9t j) → u.st = 0 → opS u ∧ ∃ j, j ≤ 7 ∧ tick [] u = z9t j := by
  rintro u ⟨j, hj, rfl⟩ hst
  by_cases h7 : j = 7
  · subst h7; rw [z9end] at hst; exact absurd hst (by decide)
  · have := z9ops
    rw [List.all_eq_true] at this
    exact ⟨opS_of (this j (by rw [List.mem_range]; omega)), j + 1, by omega, rfl⟩
theorem z9run : rO [] (z9t 0) 2000 = (z9t 7, 7, 0) := by kernel_rfl
theorem z9iSM : iSM z9L 12 4 [] = z9t 0 := by kernel_rfl
theorem z9iSE : iSE z9L 12 4 [] = 0 := by kernel_rfl
theorem z9may : mayM (z9t 0) = true := by kernel_rfl
theorem z9ok0 : (z9t 0).ok := ⟨zM_ok.pc, zM_ok.r16, zM_ok.rg, zM_ok.st, u64_all (by kernel_rfl)⟩
theorem z9rsOk : rsOk 16 12 4 (z9t 7) = true := by kernel_rfl
theorem z9rsS : rsS 16 12 4 (z9t 7) = 1 := by kernel_rfl
theorem z9rsV : rsV 16 12 4 (z9t 7) = 0 := by kernel_rfl
theorem z9rsL : rsL 16 12 4 (z9t 7) = [8, 0, 0, 0] := by kernel_rfl
theorem z9rsE : rsE 16 12 4 (z9t 7) = 0 := by kernel_rfl
theorem z9len : (z9t 7).me.length = 16 := by kernel_rfl
theorem compile_small (sp : Option Addr) (w : World) (hP : PgM w.heap.size w [.slice sp 1 1, .int .i64 4] z9p) :
    Calls Try.prog 15 #[.agg #[.slice sp 1 1, .int .i64 4]] w fun e w' => ∃ sp cap, e = .returned (.tuple #[.agg #[.slice sp 16 cap, .int .i64 12, .int .i64 4], .int .i64 0]) ∧ MS w'.heap.size w' sp 16 cap z9L ∧ Below w.heap.size w w' := by
  refine (compile_go (p := z9p) w (Nat.le_refl _) hP z9pgN).mono ?_
  intro e w' h
  obtain ⟨sp, n, cap, rfl, hM, hb⟩ := h.2 (by rw [z9size]; decide)
  rw [z9words] at hM
  obtain rfl : n = 16 := hM.len.out
  exact ⟨sp, cap, by rw [z9size]; rfl, hM, hb⟩
theorem compile_none (w : World) : Calls Try.prog 15 #[.agg #[.slice none 0 0, .int .i64 0]] w (CmNo 2 w) :=
  compile_bad (N := 0) (p := ⟨[], 0⟩) w (Nat.zero_le _) ⟨none, 0, 0, rfl, (show I64 0 by simp [I64]), RS.nil0 _ _ _ _⟩ (by kernel_rfl)
theorem start_small (sp : Option Addr) (cap : Nat) (w : World) (hM : MS w.heap.size w sp 16 cap z9L) :
    Calls Try.prog 6 #[.agg #[.slice sp 16 cap, .int .i64 12, .int .i64 4], .slice none 0 0] w fun e w' => ∃ sp cap, e = .returned (.tuple #[.agg (mcA (z9t 0) sp 16 cap), .int .i64 0]) ∧ MS w'.heap.size w' sp 16 cap (z9t 0).me ∧ Below w.heap.size w w' := by
  refine (start6_any (N := w.heap.size) z9L [] 12 4 sp 16 cap none 0 0 w hM (MS.nil0 _ _) (by omega) (by omega)).mono ?_
  rintro e w' ⟨sp, n, cap, rfl, hM, -, hb⟩
  rw [z9iSM] at hM
  obtain rfl : n = 16 := hM.len.out
  exact ⟨sp, cap, by rw [z9iSM, z9iSE], hM, hb⟩
theorem run_small (sp : Option Addr) (cap : Nat) (w : World) (hM : MS w.heap.size w sp 16 cap (z9t 0).me) :
    Calls Try.prog 24 #[.agg (mcA (z9t 0) sp 16 cap), .slice none 0 0, .int .i64 2000] w fun e w' => ∃ sp cap, e = .returned (.tuple #[.agg (mcA (z9t 7) sp 16 cap), .int .i64 7, .int .i64 0]) ∧ (z9t 7).ok ∧ MS w'.heap.size w' sp 16 cap (z9t 7).me ∧ Below w.heap.size w w' := by
  refine (refRun_sm (N := w.heap.size) (es := []) (z9t 0) sp 16 cap none 0 0 2000 w z9ok0 hM (ES.nil0 _ _) (by omega) z9may (F := 2000) rfl (by omega) (Q := fun u => ∃ j, j ≤ 7 ∧ u = z9t j) z9Q ⟨0, by omega, rfl⟩).mono ?_
  rintro e w' ⟨sp, n, cap, rfl, hok, hM, hb, -⟩
  rw [z9run] at hok hM
  obtain rfl : n = 16 := hM.len.out.trans z9len
  exact ⟨sp, cap, by rw [z9run], hok, hM, hb⟩
theorem result8_any {N : Nat} (b d : Int) (m : Mc) (sp : Option Addr) (n cap : Nat) (sq : Option Addr) (nd cd : Nat) (w : World) (hns : n ≤ 17592186044416) (hok : m.ok) (hMq : MS N w sq nd cd m.me) (hb : -9223372036854775808 ≤ b ∧ b ≤ 9223372036854775807) (hd : -9223372036854775808 ≤ d ∧ d ≤ 9223372036854775807) :
    Calls Try.prog 8 #[.agg #[.slice sp n cap, .int .i64 b, .int .i64 d], .agg (mcA m sq nd cd)] w (RsP n b d m w) := by
  cases h : rsOk n b d m with
  | false => exact result8_no b d m sp n cap sq nd cd w hns hok hMq.len hMq.small hb hd h
  | true =>
    obtain ⟨h1, h2⟩ := Bool.and_eq_true_iff.1 (show (imOk n b d && (mayM m && decide (m.me.length = n))) = true from h)
    obtain ⟨h3, h4⟩ := Bool.and_eq_true_iff.1 (show (szB n && decide (0 ≤ d ∧ 0 ≤ b ∧ b ≤ n - d)) = true from h1)
    have h4 := of_decide_eq_true h4
    have hl := of_decide_eq_true (Bool.and_eq_true_iff.1 h2).2
    obtain rfl : nd = n := hMq.len.out.trans hl
    obtain ⟨bN, rfl⟩ : ∃ k : Nat, b = k := ⟨b.toNat, by omega⟩
    obtain ⟨dN, rfl⟩ : ∃ k : Nat, d = k := ⟨d.toNat, by omega⟩
    obtain ⟨g, off, rfl, -⟩ := hMq.at0 (by have := szB_le h3; omega)
    exact result8_ok bN dN m sp nd cap g off cd w hns hok hMq h
theorem result9_any {N : Nat} (b d : Int) (m : Mc) (sp : Option Addr) (n cap : Nat) (sq : Option Addr) (nd cd : Nat) (w : World) (hns : n ≤ 17592186044416) (hok : m.ok) (hMq : MS N w sq nd cd m.me) (hb : -9223372036854775808 ≤ b ∧ b ≤ 9223372036854775807) (hd : -9223372036854775808 ≤ d ∧ d ≤ 9223372036854775807) :
    Calls Try.prog 9 #[.agg #[.slice sp n cap, .int .i64 b, .int .i64 d], .agg (mcA m sq nd cd)] w (RsP n b d m w) := by
  cases h : rsOk n b d m with
  | false => exact result9_no b d m sp n cap sq nd cd w hns hok hMq.len hMq.small hb hd h
  | true =>
    obtain ⟨h1, h2⟩ := Bool.and_eq_true_iff.1 (show (imOk n b d && (mayM m && decide (m.me.length = n))) = true from h)
    obtain ⟨h3, h4⟩ := Bool.and_eq_true_iff.1 (show (szB n && decide (0 ≤ d ∧ 0 ≤ b ∧ b ≤ n - d)) = true from h1)
    have h4 := of_decide_eq_true h4
    have hl := of_decide_eq_true (Bool.and_eq_true_iff.1 h2).2
    obtain rfl : nd = n := hMq.len.out.trans hl
    obtain ⟨bN, rfl⟩ : ∃ k : Nat, b = k := ⟨b.toNat, by omega⟩
    obtain ⟨dN, rfl⟩ : ∃ k : Nat, d = k := ⟨d.toNat, by omega⟩
    obtain ⟨g, off, rfl, -⟩ := hMq.at0 (by have := szB_le h3; omega)
    exact result9_ok bN dN m sp nd cap g off cd w hns hok hMq h
theorem result_small (sp sq : Option Addr) (cap cd : Nat) (w : World) (hok : (z9t 7).ok) (hM : MS w.heap.size w sq 16 cd (z9t 7).me) :
    Calls Try.prog 8 #[.agg #[.slice sp 16 cap, .int .i64 12, .int .i64 4], .agg (mcA (z9t 7) sq 16 cd)] w fun e w' => ∃ sp cap, e = .returned (.tuple #[.agg #[.int .u8 1, .int .u64 0, .slice sp 4 cap, .int .i64 0], .int .i64 0]) ∧ DT w' sp 4 [8, 0, 0, 0] ∧ Below w.heap.size w w' := by
  refine (result8_any (N := w.heap.size) 12 4 (z9t 7) sp 16 cap sq 16 cd w (by omega) hok hM (by omega) (by omega)).mono ?_
  rintro e w' ⟨sp, k, cap, rfl, hD, hb⟩
  rw [z9rsL] at hD
  obtain rfl : k = 4 := hD.len.out
  exact ⟨sp, cap, by rw [z9rsS, z9rsV, z9rsE]; rfl, hD, hb⟩
end Go.Proofs.Ytimmiidkjpbffaa
/- Layer compile: the law's own anchor. -/
namespace Go.Proofs.Ytimmiidkjpbffaa
open Go.RowKit
set_option maxRecDepth 100000
set_option linter.unusedVariables false
set_option linter.unusedSimpArgs false


set_option maxHeartbeats 4000000 in
theorem anchored_any (w : World) : Calls Try.prog 12 #[] w (BoP true w) := by
  have hsm := hid (small_any w)
  have hcs := hid compile_small
  have hss := hid start_small
  have hrs := hid run_small
  have hes := hid result_small
  have hcn := hid compile_none
  have hs0 := fun (sp : Option Addr) (cp : Nat) => mcA_size z9ok0.r16 sp 16 cp
  have ho0 := fun (sp : Option Addr) (cp : Nat) => mcA_one (z9t 0) sp 16 cp
  have hs7 := fun (h : (z9t 7).ok) (sp : Option Addr) (cp : Nat) => mcA_size h.r16 sp 16 cp
  have ho7 := fun (sp : Option Addr) (cp : Nat) => mcA_one (z9t 7) sp 16 cp
  generalize z9t 0 = m0 at *
  generalize z9t 7 = m7 at *
  go_enter Try.func12, Try.ntmps12
  go_upto_region 2 with (first
    | (go_at_call 23; go_must (refine hsm.out.mono ?_; rintro e w1 ⟨sp1, rfl, hP, hb1⟩))
    | (go_at_call 15; go_must (refine (hcs.out _ w1 hP).mono ?_; rintro e w2 ⟨sp2, cap2, rfl, hM2, hb2⟩)))
  have B2 : Below w.heap.size w w2 := hb1.trans (hb2.mono hb1.size)
  have I1 := Arr.new w2 24 #[.slice sp2 16 cap2, .int .i64 12, .int .i64 4]
  have M2 := (hM2.below (ab w2 (.cells #[.slice sp2 16 cap2, .int .i64 12, .int .i64 4] 24))).here
  have B2' := B2.alloc B2.size (.cells #[.slice sp2 16 cap2, .int .i64 12, .int .i64 4] 24)
  clear hM2 hP hb1 hb2 B2 hsm hcs
  generalize w2.alloc (.cells #[.slice sp2 16 cap2, .int .i64 12, .int .i64 4] 24) = U1 at *
  generalize w2.heap.size = g1 at *
  have a0 := I1.cell 0
  have a1 := I1.cell 1
  have a2 := I1.cell 2
  go_upto_region 3 with (first
    | (go_at_call 6; go_must (refine (hss.out _ _ U1 M2).mono ?_; rintro e w3 ⟨sp3, cap3, rfl, hM3, hb3⟩))
    | (refine st45n (by rfl) (.tmp 3) (.tmp 20) (by rfl) w3 w3.heap.size rfl (by rfl) (mcA m0 sp3 16 cap3) (by rfl) (by rfl) (hs0 sp3 cap3) (ho0 sp3 cap3) ?_))
  have B3 := B2'.trans (hb3.mono B2'.size)
  have J3 := Arr.new w3 29 (mcA m0 sp3 16 cap3)
  have I3 := (I1.bl hb3).alloc (.cells (mcA m0 sp3 16 cap3) 29)
  have M3 := (hM3.below (ab w3 (.cells (mcA m0 sp3 16 cap3) 29))).here
  have B3' := B3.alloc B3.size (.cells (mcA m0 sp3 16 cap3) 29)
  clear hM3 hb3 B3 B2' M2 I1 a0 a1 a2 hss
  generalize w3.alloc (.cells (mcA m0 sp3 16 cap3) 29) = U3 at *
  generalize w3.heap.size = g3 at *
  go_upto_region 4 with (first
    | (refine ld45 (by rfl) (.tmp 3) (by rfl) g3 (by rfl) (mcA m0 sp3 16 cap3) (hs0 sp3 cap3) J3 ?_)
    | (go_at_call 24; go_must (refine (hrs.out _ _ U3 M3).mono ?_; rintro e w4 ⟨sp4, cap4, rfl, hok7, hM4, hb4⟩))
    | (refine st45n (by rfl) (.tmp 5) (.tmp 25) (by rfl) w4 w4.heap.size rfl (by rfl) (mcA m7 sp4 16 cap4) (by rfl) (by rfl) (hs7 hok7 sp4 cap4) (ho7 sp4 cap4) ?_))
  have B4 := B3'.trans (hb4.mono B3'.size)
  have J4 := Arr.new w4 29 (mcA m7 sp4 16 cap4)
  have I4 := (I3.bl hb4).alloc (.cells (mcA m7 sp4 16 cap4) 29)
  have M4 := (hM4.below (ab w4 (.cells (mcA m7 sp4 16 cap4) 29))).here
  have B4' := B4.alloc B4.size (.cells (mcA m7 sp4 16 cap4) 29)
  clear hM4 hb4 B4 B3' M3 J3 I3 hrs
  generalize w4.alloc (.cells (mcA m7 sp4 16 cap4) 29) = U4 at *
  generalize w4.heap.size = g5 at *
  have a0 := I4.cell 0
  have a1 := I4.cell 1
  have a2 := I4.cell 2
  go_upto_region 5 with (first
    | (refine ld45 (by rfl) (.tmp 5) (by rfl) g5 (by rfl) (mcA m7 sp4 16 cap4) (hs7 hok7 sp4 cap4) J4 ?_)
    | (go_at_call 8; go_must (refine (hes.out _ _ _ _ U4 hok7 M4).mono ?_; rintro e w5 ⟨sp5, cap5, rfl, hD5, hb5⟩)))
  have B5 := B4'.trans (hb5.mono B4'.size)
  have O5 := Arr.new w5 36 #[.int .u8 1, .int .u64 0, .slice sp5 4 cap5, .int .i64 0]
  have D5 := hD5.bl (ab w5 (.cells #[.int .u8 1, .int .u64 0, .slice sp5 4 cap5, .int .i64 0] 36))
  have B5' := B5.alloc B5.size (.cells #[.int .u8 1, .int .u64 0, .slice sp5 4 cap5, .int .i64 0] 36)
  clear hD5 hb5 B5 B4' M4 J4 I4 a0 a1 a2 hes
  generalize w5.alloc (.cells #[.int .u8 1, .int .u64 0, .slice sp5 4 cap5, .int .i64 0] 36) = U5 at *
  generalize w5.heap.size = g8 at *
  unfold CmNo at hcn
  go_upto_region 6 with (go_at_call 15; go_must (refine (hcn.out U5).mono ?_; rintro e w6 ⟨rfl, hb6⟩))
  have B6 := B5'.trans (hb6.mono B5'.size)
  have O6 := (O5.bl hb6).alloc (.cells #[.slice none 0 0, .int .i64 0, .int .i64 0] 24)
  have D6 := (D5.bl hb6).bl (ab w6 (.cells #[.slice none 0 0, .int .i64 0, .int .i64 0] 24))
  have B6' := B6.alloc B6.size (.cells #[.slice none 0 0, .int .i64 0, .int .i64 0] 24)
  clear hb6 B6 B5' O5 D5 hcn
  generalize w6.alloc (.cells #[.slice none 0 0, .int .i64 0, .int .i64 0] 24) = U6 at *
  have M7 := Arr.new U6 25 #[.int .u64 8, .int .u64 0, .int .u64 0, .int .u64 0]
  have D7 := D6.bl (ab U6 (.cells #[.int .u64 8, .int .u64 0, .int .u64 0, .int .u64 0] 25))
  have hsame := sameT_any (s1 := 1) (v1 := 0) (k1 := 0) (s2 := 1) (v2 := 0) (k2 := 0) (c1 := cap5) (c2 := 4) (sp := sp5) (sq := some ⟨U6.heap.size, 0, none⟩) (n := 4) (m := 4) (L := [8, 0, 0, 0]) (M := [8, 0, 0, 0]) _ D7 ⟨rfl, by omega, fun _ => ⟨_, rfl, M7.lt, fun i x hx => by
    rw [M7.cell]
    match i, hx with
    | 0, hx => cases hx; rfl
    | 1, hx => cases hx; rfl
    | 2, hx => cases hx; rfl
    | 3, hx => cases hx; rfl
    | i + 4, hx => cases hx⟩⟩
  rw [decide_eq_true (by simp)] at hsame
  unfold BoP ouA at hsame
  have B7 := B6'.alloc B6'.size (.cells #[.int .u64 8, .int .u64 0, .int .u64 0, .int .u64 0] 25)
  have o0 := O6.cell 0
  have o1 := O6.cell 1
  have o2 := O6.cell 2
  have o3 := O6.cell 3
  clear M7 D7 D6 B6' O6 hs0 hs7 ho0 ho7
  go_wp2_with (go_at_call 11; go_must (refine hsame.mono ?_; rintro e w8 ⟨rfl, hb8⟩))
  go_ret
  exact ⟨rfl, B7.trans (hb8.mono B7.size)⟩
end Go.Proofs.Ytimmiidkjpbffaa
/- Layer compile: what the layers below give. -/
namespace Go.Proofs.Ytimmiidkjpbffaa
open Go.RowKit
set_option maxRecDepth 100000
set_option linter.unusedVariables false
set_option linter.unusedSimpArgs false

theorem eqItems64 (w : World) (d : Nat) (C D : Array Value) (f g : Nat → Int) :
    ∀ is : List Nat, (∀ i ∈ is, C[i]? = some (.int .u64 (f i))) → (∀ i ∈ is, D[i]? = some (.int .u64 (g i))) → (Op.eqItems (d + 1) 25 1 C D is).run Try.prog w = .ok (is.all fun i => f i == g i) w
  | [], _, _ => by simp [Op.eqItems]
  | i :: is, h, h' => by
    have hi := h i (by simp)
    have hi' := h' i (by simp)
    have ih := eqItems64 w d C D f g is (fun j hj => h j (by simp [hj])) (fun j hj => h' j (by simp [hj]))
    have ha := @Try.isAgg25
    by_cases he : f i = g i
    · simp [Op.eqItems, part, ha, hi, hi', run_equalIn_int w d 25 .u64 .u64 _ _ Try.underlying25, ih, he]
    · simp [Op.eqItems, part, ha, hi, hi', run_equalIn_int w d 25 .u64 .u64 _ _ Try.underlying25, ih, he]
theorem getD_ext {X Y : List Int} {n : Nat} (hX : X.length = n) (hY : Y.length = n) : ((List.range n).all fun i => X.getD i 0 == Y.getD i 0) = decide (X = Y) := by
  rw [Bool.eq_iff_iff]
  simp only [List.all_eq_true, List.mem_range, beq_iff_eq, decide_eq_true_eq]
  constructor
  · intro h
    apply List.ext_getElem (by omega)
    intro i h1 h2
    have := h i (by omega)
    simpa [List.getD_eq_getElem?_getD, List.getElem?_eq_getElem, h1, h2] using this
  · rintro rfl i _; rfl
theorem info26i : ∃ i0, Try.prog.info? 25 = some i0 ∧ i0.size = 1 := by
  have h := size26
  cases hq : Try.prog.info? 25 with
  | none => rw [hq] at h; cases h
  | some i => rw [hq] at h; exact ⟨i, rfl, by simpa using h⟩
theorem run_eqIn41 {X Y : List Int} (hX : X.length = 16) (hY : Y.length = 16) (w : World) : (Op.equalIn 10000 26 (.agg (by64 X).toArray) (.agg (by64 Y).toArray)).run Try.prog w = .ok (decide (X = Y)) w := by
  obtain ⟨i0, hi, -⟩ := info26i
  have hc : Try.prog.cellsOf 25 = 1 := by kernel_rfl
  rw [run_equalIn_array w 9999 _ _ Try.underlying26 hi, hc, eqItems64 w 9998 _ _ (fun i => X.getD i 0) (fun i => Y.getD i 0) (List.range 16) (fun i h => by simpa using by64_getV (L := X) (t := i) (by rw [hX]; simpa using h)) (fun i h => by simpa using by64_getV (L := Y) (t := i) (by rw [hY]; simpa using h)), getD_ext hX hY]
theorem run_neq41 {X Y : List Int} (hX : X.length = 16) (hY : Y.length = 16) (w : World) : (binOp .neq 26 (.agg (by64 X).toArray) (.agg (by64 Y).toArray)).run Try.prog w = .ok (.bool (!decide (X = Y))) w := by
  rw [run_neq_struct, run_eqIn41 hX hY]; rfl
theorem size41 : (Try.prog.info? 26).map (·.size) = some 16 := by kernel_rfl
theorem ld41g {ops : Array Oper} {rest : List Oper} {o : Oper} {a : Act} {w : World} {Q : Exit → Act → World → Prop} (hgd : Region.wanted o (yielded ops a.tmps) = true) (x : Operand) (ho : o.op = .load 26 x)
    (b off : Nat) (hx : a.eval x = .pointer (some ⟨b, off, none⟩)) (X : List Int) (hX : X.length = 16) (hc : w.rangeAt b off (by64 X))
    (h : wpList Try.prog ops Q rest (a.put o.dst (.agg (by64 X).toArray)) w) : wpList Try.prog ops Q (o :: rest) a w :=
  wpList_want hgd fun _ hK => wp_load_mid 26 x ho b off hx (by64 X) _ hc Try.underlying26 rfl (by rw [by64_len, hX]; exact size41) (hK _ _ h)
theorem mcA_range {w : World} {g ty : Nat} {m : Mc} {sp : Option Addr} {n cap : Nat} (hr : m.rg.length = 16) (h : Arr w g ty (mcA m sp n cap)) : w.rangeAt g 1 (by64 m.rg) := fun j v hv => by
  have hj : j < 16 := by have := (List.getElem?_eq_some_iff.1 hv).1; rw [by64_len, hr] at this; exact this
  rw [h.cell, mcA_r hr sp n cap hj]
  rw [by64_getV (by rw [hr]; exact hj)] at hv
  exact hv
/-- Is all the same? -/
def smB (m k : Mc) : Bool := decide (m.pc = k.pc) && (decide (m.rg = k.rg) && (decide (m.st = k.st) && decide (m.me = k.me)))
theorem ne_of_len {L M : List Int} (h : ¬ L.length = M.length) : decide (L = M) = false := by
  simp
  intro e
  exact h (by rw [e])
end Go.Proofs.Ytimmiidkjpbffaa
