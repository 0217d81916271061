/- QXb, Al0, W10, W7, W11, W12, W13. -/
import Derived.Test.YtneihkegipcakaaGreatX01
import Derived.Test.YtneihkegipcakaaGreatX02
import Derived.Test.YtneihkegipcakaaGreatX03
import Derived.Test.YtneihkegipcakaaGreatX05
import Derived.Test.YtneihkegipcakaaGreatX04
import Derived.Test.YtneihkegipcakaaGreatX06
import Derived.Test.YtneihkegipcakaaGreatX07
import Derived.Test.YtneihkegipcakaaGreatX20
import Derived.Test.YtneihkegipcakaaGreatX08
import Derived.Test.YtneihkegipcakaaGreatX10
import Derived.Test.YtneihkegipcakaaGreatX11
import Derived.Test.YtneihkegipcakaaGreatX12
import Derived.Test.YtneihkegipcakaaGreatX19
import Derived.BigQuiet
import Derived.BigRegion
import Derived.ChangeKeysEq
import Derived.Deep.DeepCutAuto
import Derived.Deep.DrawnRows
import Derived.Deep.MidRow
import Derived.Deep.OwnRows
import Derived.Deep.QuietTactic
import Derived.Deep.RegionHeld3
import Derived.Deep.RegionLaw
import Derived.Deep.RegionWith
import Derived.Deep.WholeRow
import Derived.DeepKeys3
import Derived.Great.BuildSlice
import Derived.Laws.AppendOwnNone
import Derived.Laws.BitsLemmas
import Derived.Laws.BytesArg
import Derived.Laws.CopyOwn
import Derived.Laws.OwnMore
import Derived.Laws.ResultCell
import Derived.Laws.Tables
import Derived.Lib.SlBytesConst
import Derived.LoopIn
import Derived.LoopNIn
import Derived.Maps.AppendAt
import Derived.OwnWalkIn
import Derived.RangeFuncBound
import Derived.RangeFuncCalls
import Derived.RangeFuncLeaves
import Derived.RangeFuncNested
import Derived.RangeFuncRecord
import Derived.Recover
import Derived.Shelf.Abstract
import Derived.Shelf.RegionOpen
import Derived.TacticsInMore
import Derived.WalkKit
import Derived.WalkLawsBesides
import Derived.WalkSpells
import Derived.ChangeOld
import Derived.Great.FillDense
import Derived.Laws.CopyRow
import Derived.Laws.MakeOwn
import Derived.OpenShut
import Derived.ProofKit
import Derived.ShutString
import Derived.SizedLaws
import Derived.Test.YtneihkegipcakaaGreatX23
/- Layer trace: what the layers below give. -/
namespace Go.Proofs.YtneihkegipcakaaGreat
open Go.RowKit
set_option maxRecDepth 100000
set_option linter.unusedVariables false
set_option linter.unusedSimpArgs false

theorem y25 {ops : Array Oper} {S : World → Prop} {op : Oper} {a : Act} (hw : Region.wanted op (yielded ops a.tmps) = true) (x : Operand) (ho : op.op = .load 75 x)
    (b o : Nat) (hx : a.eval x = .pointer (some ⟨b, o, none⟩)) (e : Cd) (hS : ∀ w, S w → w.rangeAt b o e.arr.toList) : YieldsIf Tryz.prog ops S op (.agg e.arr) a := by
  have := yieldsIf_load_mid (P := Tryz.prog) (S := S) hw 75 x ho b o hx e.arr.toList _ hS Tryz.underlying75 rfl size25
  simpa using this
set_option maxHeartbeats 1000000 in
theorem refLoad_no (x : Int) (sp : Option Addr) (n cap : Nat) (cs : List Cd) (sq : Option Addr) (nd cd : Nat) (ds : List Int) (N : Nat) (w : World) (hx : -9223372036854775808 ≤ x ∧ x ≤ 9223372036854775807) (hS : CS N w sp n cap cs) (hD : MS N w sq nd cd ds) (hU : ∀ k, U64 (ds.getD k 0)) (hbad : szI x = false ∨ x < cs.length + ds.length) :
    Calls Tryz.prog 24 #[.int .i64 x, .slice sp n cap, .slice sq nd cd] w (LdPost x cs ds w) := by
  have A0 := Arr.new w 27 (mcA zM none 0 0)
  have hsz := mcA_size zM_ok.r16 none 0 0
  have hoz := mcA_one zM none 0 0
  have hb0 := alloc_bel' w (.cells (mcA zM none 0 0) 27)
  have hn := hS.small
  have hn2 := hD.small
  cases hq : szI x with
  | false =>
    have hr : lO x cs ds = (zM, 2) := by simp [lO, hq]
    replace hr := Hid.mk' hr
    replace hq := Hid.mk' hq
    clear hbad
    go_enter Tryz.func24, Tryz.ntmps24
    go_wp2_with (first
      | (go_at_call 42; go_must (refine (refSize_any _ _ hx).mono ?_; rintro e w1 ⟨rfl, h⟩; subst h; rw [hq.out]))
      | (refine st45 (by rfl) (.tmp 6) (.tmp 13) (by rfl) w.heap.size (mcA zM none 0 0) (by rfl) (by rfl) hsz hoz _ hsz A0 ?_))
    exact bodyPost_ret (v := .tuple #[.agg (mcA zM none 0 0), .int .i64 2]) (res45b Tryz.results24 rfl rfl hsz (A0.setRow _)) rfl (ldNo hr.out (below_setRow hb0 (Nat.le_refl _) _))
  | true =>
    have hlt : x < cs.length + ds.length := by rcases hbad with h | h; rw [hq] at h; cases h; exact h
    have hr : lO x cs ds = (zM, 4) := by simp [lO, hq, hlt]
    have hlt2 : x < (n : Int) + nd := by rw [hS.len.out, hD.len.out]; omega
    replace hr := Hid.mk' hr
    replace hq := Hid.mk' hq
    clear hbad hlt
    go_enter Tryz.func24, Tryz.ntmps24
    go_wp2_with (first
      | (go_at_call 42; go_must (refine (refSize_any _ _ hx).mono ?_; rintro e w1 ⟨rfl, h⟩; subst h; rw [hq.out]))
      | (refine st45 (by rfl) (.tmp 6) (.tmp 21) (by rfl) w.heap.size (mcA zM none 0 0) (by rfl) (by rfl) hsz hoz _ hsz A0 ?_))
    exact bodyPost_ret (v := .tuple #[.agg (mcA zM none 0 0), .int .i64 4]) (res45b Tryz.results24 rfl rfl hsz (A0.setRow _)) rfl (ldNo hr.out (below_setRow hb0 (Nat.le_refl _) _))
theorem ldYes' {x : Int} {X : Nat} {cs : List Cd} {ds : List Int} {w w' : World} {g : Nat} {MM : Array Value} (hr : lO x cs ds = ({ zM with me := ldW X cs ds }, 0)) (hok : Mc.ok { zM with me := ldW X cs ds }) (hM : MW w' g (ldW X cs ds)) (hl : X = (ldW X cs ds).length) (hX : X ≤ 4096) (hb : Below w.heap.size w w') (hMM : mcA { zM with me := ldW X cs ds } (some ⟨g, 0, none⟩) X X = MM) : LdPost x cs ds w (.returned (.tuple #[.agg MM, .int .i64 0])) w' := by
  subst hMM
  exact ldYes hr hok hM hl hX hb
set_option maxHeartbeats 2000000 in
theorem refLoad_ok (x : Int) (sp : Option Addr) (n cap : Nat) (cs : List Cd) (sq : Option Addr) (nd cd : Nat) (ds : List Int) (N : Nat) (w : World) (hx : -9223372036854775808 ≤ x ∧ x ≤ 9223372036854775807) (hS : CS N w sp n cap cs) (hD : MS N w sq nd cd ds) (hU : ∀ k, U64 (ds.getD k 0)) (hq : szI x = true) {X : Nat} (hX : x = (X : Int)) (hle : cs.length + ds.length ≤ X) :
    Calls Tryz.prog 24 #[.int .i64 x, .slice sp n cap, .slice sq nd cd] w (LdPost x cs ds w) := by
  subst hX
  obtain ⟨i0, hi, hz0, hz1, hz2⟩ := info_parts info26
  have A0 := Arr.new w 27 (mcA zM none 0 0)
  have hsz := mcA_size zM_ok.r16 none 0 0
  have hb0 := alloc_bel' w (.cells (mcA zM none 0 0) 27)
  have hn := hS.small
  have hn2 := hD.small
  have hl := hS.len
  have hl2 := hD.len
  have hX4 := szB_le (by rw [szI_nat] at hq; exact hq)
  have hnX : n ≤ X := by rw [hl.out]; omega
  have hndX : nd ≤ X - n := by rw [hl.out, hl2.out]; omega
  have hcmp : ¬ ((X : Int) < (n : Int) + nd) := by omega
  have hr : lO (X : Int) cs ds = ({ zM with me := ldW X cs ds }, 0) := by
    unfold lO
    rw [if_neg (by rw [hq]; simp), if_neg (by omega), Int.toNat_natCast]
  have hokR : Mc.ok { zM with me := ldW X cs ds } := ⟨zM_ok.pc, zM_ok.r16, zM_ok.rg, zM_ok.st, ldW_u hle hS.ok hU⟩
  have hmm := mcA_size (m := { zM with me := ldW X cs ds }) zM_ok.r16 (some ⟨w.heap.size + 1, 0, none⟩) X X
  have hmo := mcA_one { zM with me := ldW X cs ds } (some ⟨w.heap.size + 1, 0, none⟩) X X
  have c18 := mcA_18 (m := { zM with me := ldW X cs ds }) zM_ok.r16 (some ⟨w.heap.size + 1, 0, none⟩) X X
  have hbd := built45 (some ⟨w.heap.size + 1, 0, none⟩) X X (ldW X cs ds)
  have hMM : mcA { zM with me := ldW X cs ds } (some ⟨w.heap.size + 1, 0, none⟩) X X = mcA { zM with me := ldW X cs ds } (some ⟨w.heap.size + 1, 0, none⟩) X X := rfl
  replace hMM := Hid.mk' hMM
  replace hr := Hid.mk' hr
  replace hq := Hid.mk' hq
  replace hbd := Hid.mk' hbd
  go_enter Tryz.func24, Tryz.ntmps24
  go_wp2_with (first
    | (go_at_call 42; go_must (refine (refSize_any _ _ hx).mono ?_; rintro e w1 ⟨rfl, h⟩; subst h; rw [hq.out]))
    | (at_make; go_must (refine wpList_make_row _ (by rfl) (.tmp 22) (.tmp 22) 25 (by rfl) 22 i0 (.int .u64 0) Tryz.underlying25 hi hz0 hz1 rfl .i64 .i64 X (by rfl) (by rfl) (by rw [hz2]; omega) (by omega) ?_))
    | (refine wpList_plain (by rfl) fun K hK => wp_bdT 27 #[(3, .tmp 23)] (by rfl) (by rfl) hbd.out (hK _ _ ?_))
    | (refine st45n (by rfl) (.tmp 8) (.tmp 24) (by rfl) ((w.alloc (.cells (mcA zM none 0 0) 27)).alloc (.cells (madeCells #[.int .u64 0] X) 22)) (w.heap.size + 2) (by simp) (by rfl) (mcA { zM with me := ldW X cs ds } (some ⟨w.heap.size + 1, 0, none⟩) X X) (by rfl) (by rfl) hmm hmo ?_))
  go_loopw [9] (fun q wr => ∃ (k : Nat), q = .int .i64 (k : Int) ∧ k ≤ n ∧ Below w.heap.size w wr ∧ Arr wr w.heap.size 27 (mcA zM none 0 0) ∧ Arr wr (w.heap.size + 2) 27 (mcA { zM with me := ldW X cs ds } (some ⟨w.heap.size + 1, 0, none⟩) X X) ∧ MW wr (w.heap.size + 1) (lay X cs k))
    (fun q _ => n - (intOf q).toNat)
  case atStart => exact ⟨0, rfl, by omega, (hb0.alloc (by simp) _).alloc (by simp; omega) _, (A0.alloc _).alloc _, by have h := Arr.new ((w.alloc (.cells (mcA zM none 0 0) 27)).alloc (.cells (madeCells #[.int .u64 0] X) 22)) 27 (mcA { zM with me := ldW X cs ds } (some ⟨w.heap.size + 1, 0, none⟩) X X); simp only [World.size_alloc, Nat.add_assoc, Nat.reduceAdd] at h; exact h, by rw [lay_zero]; have h := made_mw (w.alloc (.cells (mcA zM none 0 0) 27)) X; simp only [World.size_alloc] at h; exact h.below (alloc_bel' _ _) h.lt⟩
  case round =>
    obtain ⟨k, rfl, hk, hbl, hA, hA2, hMW⟩ := hrel
    have d18 := (hA2.cell 18).trans c18
    by_cases hlt : k < n
    · have hI : (k : Int) < n := by omega
      have hIX : (k : Int) < X := by omega
      have hSr := hS.here.below hbl
      obtain ⟨g, off, rfl, hgN, hR⟩ := hSr.at0 (by omega)
      have hgl : g < wr.heap.size := by have := hbl.size; omega
      obtain ⟨e, he⟩ : ∃ e, cs[k]? = some e := ⟨cs[k]'(by rw [← hl.out]; exact hlt), List.getElem?_eq_getElem _⟩
      have hok := hS.ok e (List.mem_of_getElem? he)
      have hRe := hR k e he
      have hset := lay_set he (show cs.length ≤ X by omega)
      have hlay : (lay X cs k).length = X := lay_len (by rw [← hl.out]; omega) (by omega)
      replace he := Hid.mk' he
      replace hset := Hid.mk' hset
      replace hlay := Hid.mk' hlay
      go_upto_region 9 with fail
      refine wp_region_held_drew (S := fun u => u.cell? ⟨w.heap.size + 2, 18, none⟩ = some (.slice (some ⟨w.heap.size + 1, 0, none⟩) X X) ∧ u.rangeAt g (off + k * 5) e.arr.toList) (by kernel_rfl) (⟨by exact d18, by exact (fun j v hv => hRe j v hv)⟩) (fun hHeld => ?_)
      refine wpAnyH_take (i := 0) (oi := ⟨_, _, _, _, _, _⟩) (v := ?_) rfl (by kernel_rfl) (by kernel_rfl) (by kernel_rfl) (fun _ _ _ h => h) (Or.inl ⟨by rfl, ?_⟩) (by assumption) ?_
      rotate_left
      · intro u hSw
        go_simp
        try (with_reducible rfl)
      try simp only [Act.put, List.setIfInBounds_toArray, List.set_cons_zero, List.set_cons_succ]
      refine wpAnyH_take (i := 1) (oi := ⟨_, _, _, _, _, _⟩) (v := ?_) rfl (by kernel_rfl) (by kernel_rfl) (by kernel_rfl) (fun _ _ _ h => h) (Or.inl ⟨by rfl, ?_⟩) (by assumption) ?_
      rotate_left
      · intro u hSw
        obtain ⟨s1, s2⟩ := hSw
        go_simp
        try (with_reducible rfl)
      try simp only [Act.put, List.setIfInBounds_toArray, List.set_cons_zero, List.set_cons_succ]
      refine wpAnyH_take (i := 2) (oi := ⟨_, _, _, _, _, _⟩) (v := ?_) rfl (by kernel_rfl) (by kernel_rfl) (by kernel_rfl) (fun _ _ _ h => h) (Or.inl ⟨by rfl, ?_⟩) (by assumption) ?_
      rotate_left
      · intro u hSw
        go_simp
        try (with_reducible rfl)
      try simp only [Act.put, List.setIfInBounds_toArray, List.set_cons_zero, List.set_cons_succ]
      refine wpAnyH_take (i := 3) (oi := ⟨_, _, _, _, _, _⟩) (v := ?_) rfl (by kernel_rfl) (by kernel_rfl) (by kernel_rfl) (fun _ _ _ h => h) (Or.inl ⟨by rfl, ?_⟩) (by assumption) ?_
      rotate_left
      · intro u hSw
        go_simp
        try (with_reducible rfl)
      try simp only [Act.put, List.setIfInBounds_toArray, List.set_cons_zero, List.set_cons_succ]
      refine wpAnyH_take (i := 4) (oi := ⟨_, _, _, _, _, _⟩) (v := ?_) rfl (by kernel_rfl) (by kernel_rfl) (by kernel_rfl) (fun _ _ _ h => h) (Or.inl ⟨by rfl, ?_⟩) (by assumption) ?_
      rotate_left
      · intro u hSw
        go_simp
        try (with_reducible rfl)
      try simp only [Act.put, List.setIfInBounds_toArray, List.set_cons_zero, List.set_cons_succ]
      refine wpAnyH_take (i := 5) (oi := ⟨_, _, _, _, _, _⟩) (v := ?_) rfl (by kernel_rfl) (by kernel_rfl) (by kernel_rfl) (fun _ _ _ h => h) (Or.inl ⟨by rfl, ?_⟩) (by assumption) ?_
      rotate_left
      · intro u hSw
        go_simp
        try (with_reducible rfl)
      try simp only [Act.put, List.setIfInBounds_toArray, List.set_cons_zero, List.set_cons_succ]
      refine wpAnyH_take (i := 6) (oi := ⟨_, _, _, _, _, _⟩) rfl (by kernel_rfl) (by kernel_rfl) (by kernel_rfl) (fun _ _ _ h => h) (y25 (by rfl) (.tmp 36) rfl g (off + k * 5) rfl e (fun u hu => hu.2)) (by assumption) ?_
      try simp only [Act.put, List.setIfInBounds_toArray, List.set_cons_zero, List.set_cons_succ]
      refine wpAnyH_ready (rs := [7]) (by kernel_rfl) (by simp) ?_
      refine AllReadyH.cons (o := ⟨_, _, _, _, _, _⟩) rfl (fun K hK => ?_) AllReadyH.nil
      go_simp
      refine (refwdc_any e hok _).mono ?_
      rintro r w2 ⟨rfl, hb2⟩
      have hb2' : Below wr.heap.size wr w2 := ((Below.refl _ wr).drew).trans (hb2.mono (by simp))
      have hM2 := hMW.below hb2' hMW.lt
      have f2 := hM2.frozen k
      have c2 := hM2.cell (t := k) (by rw [hlay.out]; omega)
      have A2 := hA.below hb2' hA.lt
      have AA2 := hA2.below hb2' hA2.lt
      have B2 := hbl.trans (hb2'.mono hbl.size)
      have d18' := (AA2.cell 18).trans c18
      have hRe2 := range_below hRe hb2' hgl
      go_wp2_with fail
      refine hK.out _ _ ⟨d18', hRe2⟩ (fun hHeld => ?_)
      clear hK K
      try simp only [Act.put, List.setIfInBounds_toArray, List.set_cons_zero, List.set_cons_succ]
      refine wpAnyH_take (i := 8) (oi := ⟨_, _, _, _, _, _⟩) (v := ?_) rfl (by kernel_rfl) (by kernel_rfl) (by kernel_rfl) (fun _ _ _ h => h) (Or.inl ⟨by rfl, ?_⟩) (by assumption) ?_
      rotate_left
      · intro u hSw
        go_simp
        try (with_reducible rfl)
      try simp only [Act.put, List.setIfInBounds_toArray, List.set_cons_zero, List.set_cons_succ]
      refine wpAnyH_ready (rs := [9]) (by kernel_rfl) (by simp) ?_
      refine AllReadyH.cons (o := ⟨_, _, _, _, _, _⟩) rfl (fun K hK => ?_) AllReadyH.nil
      go_simp
      go_wp2_with fail
      refine hK.out _ _ ⟨(cell_set_ne _ (fun e => by injection e with e1; omega)).trans d18', fun j v hv => (cell_set_ne _ (fun e => by injection e with e1; omega)).trans (hRe2 j v hv)⟩ (fun hHeld => ?_)
      clear hK K
      try simp only [Act.put, List.setIfInBounds_toArray, List.set_cons_zero, List.set_cons_succ]
      refine wpAnyH_done (by kernel_rfl) ?_ _
      go_wp2_with fail
      go_roundw
      case rel => exact ⟨k + 1, by go_num, by omega, B2.setCell (by simp) _, A2.setOther _ (by simp), AA2.setOther _ (by simp), by rw [← hset.out]; exact hM2.set (by rw [hlay.out]; omega) _⟩
      case measure => simp [intOf]; omega
    · obtain rfl : k = n := by omega
      have hnlt : ¬ (k : Int) < k := by omega
      have hkX : (k : Int) ≤ X := by omega
      have hkl : k = cs.length := hl.out
      by_cases hd0 : nd = 0
      · have hds : ds = [] := List.eq_nil_of_length_eq_zero (by rw [← hl2.out]; exact hd0)
        have hM2 : MW wr (w.heap.size + 1) (ldW X cs ds) := by rw [hds, ← lay_all (by omega), ← hkl]; exact hMW
        subst hd0
        replace hkl := Hid.mk' hkl
        replace hds := Hid.mk' hds
        by_cases hXk : X = k
        · subst hXk
          go_wp2_with (first | (refine wpList_copy_nothing (by rfl) (.tmp 44) (.tmp 45) 25 25 (by rfl) 22 Tryz.underlying25 size26 _ _ _ _ 0 cd (by rfl) (by rfl) (by simp) ?_) | (refine ld45 (by rfl) (.tmp 8) (by rfl) (w.heap.size + 2) (by rfl) (mcA { zM with me := ldW X cs ds } (some ⟨w.heap.size + 1, 0, none⟩) X X) hmm hA2 ?_) | (refine st45 (by rfl) (.tmp 6) (.tmp 47) (by rfl) w.heap.size (mcA { zM with me := ldW X cs ds } (some ⟨w.heap.size + 1, 0, none⟩) X X) (by rfl) (by rfl) hmm hmo _ hsz hA ?_))
          exact bodyPost_ret (v := .tuple #[.agg (mcA { zM with me := ldW X cs ds } (some ⟨w.heap.size + 1, 0, none⟩) X X), .int .i64 0]) (res45b Tryz.results24 rfl rfl hmm (hA.setRow _)) rfl (ldYes' hr.out hokR (hM2.block (setRow_other _ _ _ _ (by omega))) (by rw [ldW_len hle]) (by omega) (below_setRow hbl (Nat.le_refl _) _) rfl)
        · go_wp2_with (first | (refine wpList_copy_nothing (by rfl) (.tmp 44) (.tmp 45) 25 25 (by rfl) 22 Tryz.underlying25 size26 _ _ _ _ 0 cd (by rfl) (by rfl) (by simp) ?_) | (refine ld45 (by rfl) (.tmp 8) (by rfl) (w.heap.size + 2) (by rfl) (mcA { zM with me := ldW X cs ds } (some ⟨w.heap.size + 1, 0, none⟩) X X) hmm hA2 ?_) | (refine st45 (by rfl) (.tmp 6) (.tmp 47) (by rfl) w.heap.size (mcA { zM with me := ldW X cs ds } (some ⟨w.heap.size + 1, 0, none⟩) X X) (by rfl) (by rfl) hmm hmo _ hsz hA ?_))
          exact bodyPost_ret (v := .tuple #[.agg (mcA { zM with me := ldW X cs ds } (some ⟨w.heap.size + 1, 0, none⟩) X X), .int .i64 0]) (res45b Tryz.results24 rfl rfl hmm (hA.setRow _)) rfl (ldYes' hr.out hokR (hM2.block (setRow_other _ _ _ _ (by omega))) (by rw [ldW_len hle]) (by omega) (below_setRow hbl (Nat.le_refl _) _) rfl)
      · have hXk : ¬ X = k := by omega
        obtain ⟨gd, od, rfl, hgd, hcd⟩ := (hD.here.below hbl).at0 (by omega)
        obtain ⟨C, hCA, hC⟩ := hMW
        have hC' := hC
        rw [hkl] at hC'
        have hCs : X ≤ C.size := by
          have h1 : (lay X cs k).length = X := lay_len (by omega) (by omega)
          have := (Array.getElem?_eq_some_iff.1 (hC (X - 1) (by omega))).1
          omega
        have hsrc : ∀ j v, (by64 ds)[j]? = some v → wr.cell? ((⟨gd, od, none⟩ : Addr).add j) = some v := fun j v hv => by
          have hj : j < ds.length := by have := (List.getElem?_eq_some_iff.1 hv).1; rwa [by64_len] at this
          rw [by64_get hj] at hv
          rw [Addr.add_mid, hcd j (by rw [hl2.out]; exact hj)]; exact hv
        have hM2 : MW (wr.setRow (w.heap.size + 1) (C.toList.take k ++ (by64 ds ++ C.toList.drop (k + (by64 ds).length))).toArray) (w.heap.size + 1) (ldW X cs ds) := ⟨_, hCA.setRow _, by have := ldW_splice hle hC'; rw [← hkl] at this; exact this⟩
        have A2 : Arr (wr.setRow (w.heap.size + 1) (C.toList.take k ++ (by64 ds ++ C.toList.drop (k + (by64 ds).length))).toArray) w.heap.size 27 (mcA zM none 0 0) := hA.setRowOther _ (by omega)
        have B2 : Arr (wr.setRow (w.heap.size + 1) (C.toList.take k ++ (by64 ds ++ C.toList.drop (k + (by64 ds).length))).toArray) (w.heap.size + 2) 27 (mcA { zM with me := ldW X cs ds } (some ⟨w.heap.size + 1, 0, none⟩) X X) := hA2.setRowOther _ (by omega)
        replace hsrc := Hid.mk' hsrc
        replace hkl := Hid.mk' hkl
        clear hC hC' hcd
        go_wp2_with (first | (refine wpList_copy_own (by rfl) (.tmp 44) (.tmp 45) 25 25 (by rfl) 22 Tryz.underlying25 size26 (w.heap.size + 1) k (X - k) (X - k) ⟨gd, od, none⟩ nd cd (by rfl) (by rfl) C 22 hCA (by64 ds) (by rw [by64_len, ← hl2.out]; exact (Nat.min_eq_left (by omega)).symm) hsrc.out (by rw [by64_len, ← hl2.out]; omega) (by64_one _) ?_) | (refine ld45 (by rfl) (.tmp 8) (by rfl) (w.heap.size + 2) (by rfl) (mcA { zM with me := ldW X cs ds } (some ⟨w.heap.size + 1, 0, none⟩) X X) hmm B2 ?_) | (refine st45 (by rfl) (.tmp 6) (.tmp 47) (by rfl) w.heap.size (mcA { zM with me := ldW X cs ds } (some ⟨w.heap.size + 1, 0, none⟩) X X) (by rfl) (by rfl) hmm hmo _ hsz A2 ?_))
        exact bodyPost_ret (v := .tuple #[.agg (mcA { zM with me := ldW X cs ds } (some ⟨w.heap.size + 1, 0, none⟩) X X), .int .i64 0]) (res45b Tryz.results24 rfl rfl hmm (A2.setRow _)) rfl (ldYes' hr.out hokR (hM2.block (setRow_other _ _ _ _ (by omega))) (by rw [ldW_len hle]) (by omega) (below_setRow (below_setRow hbl (by omega) _) (Nat.le_refl _) _) rfl)
theorem refLoad_any (x : Int) (sp : Option Addr) (n cap : Nat) (cs : List Cd) (sq : Option Addr) (nd cd : Nat) (ds : List Int) (N : Nat) (w : World) (hx : -9223372036854775808 ≤ x ∧ x ≤ 9223372036854775807) (hS : CS N w sp n cap cs) (hD : MS N w sq nd cd ds) (hU : ∀ k, U64 (ds.getD k 0)) :
    Calls Tryz.prog 24 #[.int .i64 x, .slice sp n cap, .slice sq nd cd] w (LdPost x cs ds w) := by
  by_cases h : szI x = false ∨ x < cs.length + ds.length
  · exact refLoad_no x sp n cap cs sq nd cd ds N w hx hS hD hU h
  · have hq : szI x = true := by cases hm : szI x with | true => rfl | false => exact absurd (.inl hm) h
    exact refLoad_ok x sp n cap cs sq nd cd ds N w hx hS hD hU hq (X := x.toNat) (by omega) (by omega)
end Go.Proofs.YtneihkegipcakaaGreat
/- Layer trace: what the layers below give. -/
namespace Go.Proofs.YtneihkegipcakaaGreat
open Go.RowKit
set_option maxRecDepth 100000
set_option linter.unusedVariables false
set_option linter.unusedSimpArgs false

set_option maxRecDepth 100000 in
theorem lw13_ne : decide (pr (lw 1) (lw 3) = pr (lw 1) (lw 2)) = false := by kernel_rfl
theorem e8_1 : e8 1 = [0, 0, 0, 0, 0, 0, 0, 1] := by decide
theorem e8_2 : e8 2 = [0, 0, 0, 0, 0, 0, 0, 2] := by decide
end Go.Proofs.YtneihkegipcakaaGreat
/- Layer trace: the machine of the anchor, and its sums. -/
namespace Go.Proofs.YtneihkegipcakaaGreat
open Go.RowKit
set_option maxRecDepth 100000
set_option linter.unusedVariables false
set_option linter.unusedSimpArgs false

def cA : List Cd := [⟨2, 1, 0, 0, 7⟩, ⟨1, 0, 0, 0, 0⟩]
def mA : Mc := { zM with me := ldW 4 cA [] }
theorem meA : mA.me = [148618787703226375, 72057594037927936, 0, 0] := by kernel_rfl
theorem lOA : lO 4 cA [] = (mA, 0) := by kernel_rfl
theorem mayA : mayM mA = true := by kernel_rfl
theorem lw_a : lw 148618787703226375 = [182, 170, 221, 36, 209, 131, 185, 27, 11, 105, 129, 70, 179, 147, 111, 155, 33, 96, 227, 122, 149, 224, 144, 46, 16, 75, 184, 59, 224, 171, 27, 254] := by kernel_rfl
theorem lw_c : lw 72057594037927936 = [81, 176, 156, 236, 207, 190, 196, 69, 149, 221, 66, 65, 230, 226, 166, 147, 210, 121, 183, 44, 137, 156, 143, 96, 236, 99, 82, 79, 229, 139, 29, 79] := by kernel_rfl
theorem lw_z : lw 0 = [62, 112, 119, 253, 47, 102, 214, 137, 224, 206, 230, 167, 207, 91, 55, 191, 45, 202, 124, 151, 154, 243, 86, 208, 163, 28, 188, 92, 133, 96, 92, 125] := by kernel_rfl
theorem pr_ac : pr [182, 170, 221, 36, 209, 131, 185, 27, 11, 105, 129, 70, 179, 147, 111, 155, 33, 96, 227, 122, 149, 224, 144, 46, 16, 75, 184, 59, 224, 171, 27, 254] [81, 176, 156, 236, 207, 190, 196, 69, 149, 221, 66, 65, 230, 226, 166, 147, 210, 121, 183, 44, 137, 156, 143, 96, 236, 99, 82, 79, 229, 139, 29, 79] = [86, 80, 103, 235, 101, 150, 253, 230, 86, 242, 166, 104, 161, 3, 65, 173, 132, 248, 76, 125, 77, 2, 98, 209, 212, 53, 122, 201, 5, 204, 229, 105] := by kernel_rfl
theorem pr_zz : pr [62, 112, 119, 253, 47, 102, 214, 137, 224, 206, 230, 167, 207, 91, 55, 191, 45, 202, 124, 151, 154, 243, 86, 208, 163, 28, 188, 92, 133, 96, 92, 125] [62, 112, 119, 253, 47, 102, 214, 137, 224, 206, 230, 167, 207, 91, 55, 191, 45, 202, 124, 151, 154, 243, 86, 208, 163, 28, 188, 92, 133, 96, 92, 125] = [203, 19, 156, 90, 124, 121, 128, 216, 59, 90, 116, 97, 18, 127, 248, 202, 82, 88, 2, 115, 193, 164, 230, 138, 191, 157, 41, 134, 207, 53, 109, 24] := by kernel_rfl
theorem pr_r : pr [86, 80, 103, 235, 101, 150, 253, 230, 86, 242, 166, 104, 161, 3, 65, 173, 132, 248, 76, 125, 77, 2, 98, 209, 212, 53, 122, 201, 5, 204, 229, 105] [203, 19, 156, 90, 124, 121, 128, 216, 59, 90, 116, 97, 18, 127, 248, 202, 82, 88, 2, 115, 193, 164, 230, 138, 191, 157, 41, 134, 207, 53, 109, 24] = [232, 116, 166, 186, 45, 221, 234, 133, 116, 35, 172, 146, 248, 202, 33, 85, 255, 220, 25, 100, 109, 146, 17, 109, 246, 75, 36, 137, 157, 149, 54, 117] := by kernel_rfl
theorem rW4 (a b c d : Int) : rW [a, b, c, d] = pr (pr (lw a) (lw b)) (pr (lw c) (lw d)) := by
  rw [(rW_pow (L := [a, b, c, d]) (d := 2) (by omega) rfl).1]
  rfl

theorem rtA : rW mA.me = [232, 116, 166, 186, 45, 221, 234, 133, 116, 35, 172, 146, 248, 202, 33, 85, 255, 220, 25, 100, 109, 146, 17, 109, 246, 75, 36, 137, 157, 149, 54, 117] := by
  rw [meA, rW4, lw_a, lw_c, lw_z, pr_ac, pr_zz, pr_r]
theorem rA0 : (rO [] mA 0).1 = mA := by kernel_rfl
theorem rA10 : (rO [] mA 10).2.1 = 2 := by kernel_rfl
def mB : Mc := { mA with pc := 1, rg := mA.rg.set 1 7, st := 1 }
theorem rA2 : (rO [] mA 2).1 = mB := by kernel_rfl
theorem mayB : mayM mB = true := by kernel_rfl
theorem okA : mA.ok := ⟨by show (0 : Int) ≤ 0 ∧ (0 : Int) < 18446744073709551616; omega, rfl, zM_ok.rg, by show (0 : Int) ≤ 0 ∧ (0 : Int) < 256; omega, fun k => by
  rw [meA]
  match k with
  | 0 => exact (by decide : (0 : Int) ≤ 148618787703226375 ∧ (148618787703226375 : Int) < 18446744073709551616)
  | 1 => exact (by decide : (0 : Int) ≤ 72057594037927936 ∧ (72057594037927936 : Int) < 18446744073709551616)
  | 2 => exact (by decide : (0 : Int) ≤ 0 ∧ (0 : Int) < 18446744073709551616)
  | 3 => exact (by decide : (0 : Int) ≤ 0 ∧ (0 : Int) < 18446744073709551616)
  | k + 4 => exact (by simp : U64 (([148618787703226375, 72057594037927936, 0, 0] : List Int).getD (k + 4) 0) = U64 0) ▸ (by decide : (0 : Int) ≤ 0 ∧ (0 : Int) < 18446744073709551616)⟩
theorem cmAB : cmt mA.pc mA.rg mA.st (Nat.log2 4 : Nat) [232, 116, 166, 186, 45, 221, 234, 133, 116, 35, 172, 146, 248, 202, 33, 85, 255, 220, 25, 100, 109, 146, 17, 109, 246, 75, 36, 137, 157, 149, 54, 117] ≠ cmt mB.pc mB.rg mB.st (Nat.log2 4 : Nat) [232, 116, 166, 186, 45, 221, 234, 133, 116, 35, 172, 146, 248, 202, 33, 85, 255, 220, 25, 100, 109, 146, 17, 109, 246, 75, 36, 137, 157, 149, 54, 117] := by decide +kernel
theorem coAB : coR mA ≠ coR mB := by
  have l4 : mA.me.length = 4 := by rw [meA]; rfl
  have l5 : mB.me.length = 4 := l4
  have rB : rW mB.me = [232, 116, 166, 186, 45, 221, 234, 133, 116, 35, 172, 146, 248, 202, 33, 85, 255, 220, 25, 100, 109, 146, 17, 109, 246, 75, 36, 137, 157, 149, 54, 117] := rtA
  unfold coR
  rw [if_pos mayA, if_pos mayB, l4, l5, rtA, rB]
  exact cmAB
end Go.Proofs.YtneihkegipcakaaGreat
/- Layer trace: At. -/
namespace Go.Proofs.YtneihkegipcakaaGreat
open Go.RowKit
set_option maxRecDepth 100000
set_option linter.unusedVariables false
set_option linter.unusedSimpArgs false


theorem resH2 {f : Func} {w : World} {tmps : Array Value} {g t k : Nat} {X : List Int} {v : Value} (hf : f.results = #[.cell t 40, .tmp k]) (hp : tmps.getD t undef = .pointer (some ⟨g, 0, none⟩)) (hk : tmps.getD k undef = v) (hX : X.length = 32) (hA : Arr w g 40 (h8 X)) :
    (results f tmps).run Tryz.prog w = .ok (.tuple #[.agg (h8 X), v]) w := by
  have hr := run_loadVar_mid (P := Tryz.prog) w g 0 40 (h8 X).toList _ (fun j v hv => by rw [Nat.zero_add, hA.cell]; simpa using hv) Tryz.underlying40 rfl (by rw [Array.length_toList]; exact s24h8 hX)
  have hp' : tmps[t]?.getD undef = .pointer (some ⟨g, 0, none⟩) := by simpa using hp
  have hk' : tmps[k]?.getD undef = v := by simpa using hk
  simp [results, hf, hp', hk', asAddr, hr]
set_option maxHeartbeats 2000000 in
theorem at_nil (w : World) (k : Int) : Calls Tryz.prog 10 #[.pointer none, .int .i64 k] w fun e w' => e = .returned (.tuple #[.agg (h8 Z32), .int .i64 1]) ∧ Below w.heap.size w w' := by
  have h30 := find_nil (w.alloc (.cells #[.int .u8 0, .int .u8 0, .int .u8 0, .int .u8 0, .int .u8 0, .int .u8 0, .int .u8 0, .int .u8 0, .int .u8 0, .int .u8 0, .int .u8 0, .int .u8 0, .int .u8 0, .int .u8 0, .int .u8 0, .int .u8 0, .int .u8 0, .int .u8 0, .int .u8 0, .int .u8 0, .int .u8 0, .int .u8 0, .int .u8 0, .int .u8 0, .int .u8 0, .int .u8 0, .int .u8 0, .int .u8 0, .int .u8 0, .int .u8 0, .int .u8 0, .int .u8 0] 40)) k
  go_enter Tryz.func10, Tryz.ntmps10
  go_wp2_with (first
    | (go_at_call 30; go_must (refine h30.mono ?_; rintro e w1 ⟨rfl, rfl⟩))
    | (refine st24n (by rfl) (.tmp 4) (.tmp 12) (by rfl) w w.heap.size rfl (by rfl) Z32 (by rfl) (by rw [h8_Z]; rfl) Z32_len ?_))
  exact bodyPost_ret (v := .tuple #[.agg (h8 Z32), .int .i64 1]) (resH2 Tryz.results10 rfl rfl Z32_len (Arr.new w 40 (h8 Z32))) rfl ⟨rfl, alloc_bel' w _⟩
set_option maxHeartbeats 2000000 in
theorem at_arg {w : World} {g gt gm c : Nat} {most len : Int} (A : Arr w g 84 (tcA most len gt gm c)) (k : Int) (hk : fnE most k = 2) : Calls Tryz.prog 10 #[.pointer (some ⟨g, 0, none⟩), .int .i64 k] w fun e w' => e = .returned (.tuple #[.agg (h8 Z32), .int .i64 2]) ∧ Below w.heap.size w w' := by
  have b0 := alloc_bel' w (.cells #[.int .u8 0, .int .u8 0, .int .u8 0, .int .u8 0, .int .u8 0, .int .u8 0, .int .u8 0, .int .u8 0, .int .u8 0, .int .u8 0, .int .u8 0, .int .u8 0, .int .u8 0, .int .u8 0, .int .u8 0, .int .u8 0, .int .u8 0, .int .u8 0, .int .u8 0, .int .u8 0, .int .u8 0, .int .u8 0, .int .u8 0, .int .u8 0, .int .u8 0, .int .u8 0, .int .u8 0, .int .u8 0, .int .u8 0, .int .u8 0, .int .u8 0, .int .u8 0] 40)
  have A4 : Arr (w.alloc (.cells #[.int .u8 0, .int .u8 0, .int .u8 0, .int .u8 0, .int .u8 0, .int .u8 0, .int .u8 0, .int .u8 0, .int .u8 0, .int .u8 0, .int .u8 0, .int .u8 0, .int .u8 0, .int .u8 0, .int .u8 0, .int .u8 0, .int .u8 0, .int .u8 0, .int .u8 0, .int .u8 0, .int .u8 0, .int .u8 0, .int .u8 0, .int .u8 0, .int .u8 0, .int .u8 0, .int .u8 0, .int .u8 0, .int .u8 0, .int .u8 0, .int .u8 0, .int .u8 0] 40)) w.heap.size 40 (h8 Z32) := by rw [h8_Z]; exact Arr.new w 40 #[.int .u8 0, .int .u8 0, .int .u8 0, .int .u8 0, .int .u8 0, .int .u8 0, .int .u8 0, .int .u8 0, .int .u8 0, .int .u8 0, .int .u8 0, .int .u8 0, .int .u8 0, .int .u8 0, .int .u8 0, .int .u8 0, .int .u8 0, .int .u8 0, .int .u8 0, .int .u8 0, .int .u8 0, .int .u8 0, .int .u8 0, .int .u8 0, .int .u8 0, .int .u8 0, .int .u8 0, .int .u8 0, .int .u8 0, .int .u8 0, .int .u8 0, .int .u8 0]
  have h30 := find_any (A.alloc (.cells #[.int .u8 0, .int .u8 0, .int .u8 0, .int .u8 0, .int .u8 0, .int .u8 0, .int .u8 0, .int .u8 0, .int .u8 0, .int .u8 0, .int .u8 0, .int .u8 0, .int .u8 0, .int .u8 0, .int .u8 0, .int .u8 0, .int .u8 0, .int .u8 0, .int .u8 0, .int .u8 0, .int .u8 0, .int .u8 0, .int .u8 0, .int .u8 0, .int .u8 0, .int .u8 0, .int .u8 0, .int .u8 0, .int .u8 0, .int .u8 0, .int .u8 0, .int .u8 0] 40)) k
  rw [hk] at h30
  clear A hk
  go_enter Tryz.func10, Tryz.ntmps10
  go_wp2_with (first
    | (go_at_call 30; go_must (refine h30.mono ?_; rintro e w1 ⟨rfl, hb1⟩; have A4v := A4.below hb1 A4.lt))
    | (refine st24 (by rfl) (.tmp 4) (.tmp 12) (by rfl) w.heap.size Z32 Z32 (by rfl) (by rw [h8_Z]; rfl) Z32_len Z32_len A4v ?_))
  exact bodyPost_ret (v := .tuple #[.agg (h8 Z32), .int .i64 2]) (resH2 Tryz.results10 rfl rfl Z32_len (A4v.setRow _)) rfl ⟨rfl, below_setRow (b0.trans (hb1.mono b0.size)) (Nat.le_refl _) _⟩
set_option maxHeartbeats 2000000 in
theorem at_ok {w : World} {g gt gm c : Nat} {most len : Int} (A : Arr w g 84 (tcA most len gt gm c)) (k : Int) (hk : fnE most k = 0) (X : List Int) (hX : X.length = 32) (mp : Int → Option Value)
    (h31 : ∀ u, Below w.heap.size w u → Calls Tryz.prog 31 #[.pointer (some ⟨g, 0, none⟩), .int .i64 k] u fun e w' => e = .returned (.agg (h8 X)) ∧ MapAt w' gm mp ∧ Chg (· = gm) u w') (hgm : gm < w.heap.size) (hmp0 : ∃ mp0, MapAt w gm mp0) :
    Calls Tryz.prog 10 #[.pointer (some ⟨g, 0, none⟩), .int .i64 k] w fun e w' => e = .returned (.tuple #[.agg (h8 X), .int .i64 0]) ∧ MapAt w' gm mp ∧ Chg (· = gm) w w' := by
  have b0 := alloc_bel' w (.cells #[.int .u8 0, .int .u8 0, .int .u8 0, .int .u8 0, .int .u8 0, .int .u8 0, .int .u8 0, .int .u8 0, .int .u8 0, .int .u8 0, .int .u8 0, .int .u8 0, .int .u8 0, .int .u8 0, .int .u8 0, .int .u8 0, .int .u8 0, .int .u8 0, .int .u8 0, .int .u8 0, .int .u8 0, .int .u8 0, .int .u8 0, .int .u8 0, .int .u8 0, .int .u8 0, .int .u8 0, .int .u8 0, .int .u8 0, .int .u8 0, .int .u8 0, .int .u8 0] 40)
  have A4 : Arr (w.alloc (.cells #[.int .u8 0, .int .u8 0, .int .u8 0, .int .u8 0, .int .u8 0, .int .u8 0, .int .u8 0, .int .u8 0, .int .u8 0, .int .u8 0, .int .u8 0, .int .u8 0, .int .u8 0, .int .u8 0, .int .u8 0, .int .u8 0, .int .u8 0, .int .u8 0, .int .u8 0, .int .u8 0, .int .u8 0, .int .u8 0, .int .u8 0, .int .u8 0, .int .u8 0, .int .u8 0, .int .u8 0, .int .u8 0, .int .u8 0, .int .u8 0, .int .u8 0, .int .u8 0] 40)) w.heap.size 40 (h8 Z32) := by rw [h8_Z]; exact Arr.new w 40 #[.int .u8 0, .int .u8 0, .int .u8 0, .int .u8 0, .int .u8 0, .int .u8 0, .int .u8 0, .int .u8 0, .int .u8 0, .int .u8 0, .int .u8 0, .int .u8 0, .int .u8 0, .int .u8 0, .int .u8 0, .int .u8 0, .int .u8 0, .int .u8 0, .int .u8 0, .int .u8 0, .int .u8 0, .int .u8 0, .int .u8 0, .int .u8 0, .int .u8 0, .int .u8 0, .int .u8 0, .int .u8 0, .int .u8 0, .int .u8 0, .int .u8 0, .int .u8 0]
  have h30 := find_any (A.alloc (.cells #[.int .u8 0, .int .u8 0, .int .u8 0, .int .u8 0, .int .u8 0, .int .u8 0, .int .u8 0, .int .u8 0, .int .u8 0, .int .u8 0, .int .u8 0, .int .u8 0, .int .u8 0, .int .u8 0, .int .u8 0, .int .u8 0, .int .u8 0, .int .u8 0, .int .u8 0, .int .u8 0, .int .u8 0, .int .u8 0, .int .u8 0, .int .u8 0, .int .u8 0, .int .u8 0, .int .u8 0, .int .u8 0, .int .u8 0, .int .u8 0, .int .u8 0, .int .u8 0] 40)) k
  rw [hk] at h30
  clear A hk
  have hne : w.heap.size ≠ gm := by omega
  go_enter Tryz.func10, Tryz.ntmps10
  go_wp2_with (first
    | (go_at_call 30; go_must (refine h30.mono ?_; rintro e w1 ⟨rfl, hb1⟩; have hw1 := b0.trans (hb1.mono b0.size); have A4v := A4.below hb1 A4.lt))
    | (go_at_call 31; go_must (refine (h31 w1 hw1).mono ?_; rintro e w2 ⟨rfl, hm2, hc2⟩; have A4w : Arr w2 w.heap.size 40 (h8 Z32) := (hc2.block _ A4v.lt hne).trans A4v))
    | (refine st24 (by rfl) (.tmp 4) (.tmp 16) (by rfl) w.heap.size X Z32 (by rfl) (by rfl) hX Z32_len A4w ?_))
  refine bodyPost_ret (v := .tuple #[.agg (h8 X), .int .i64 0]) (resH2 Tryz.results10 rfl rfl hX (A4w.setRow _)) rfl ⟨rfl, hm2.same (setRow_other _ _ _ _ (Ne.symm hne)), ?_⟩
  exact ((Chg.of_below (S := (· = gm)) hw1).trans (hc2.mono fun i _ h => h)).setRow _ (fun h => absurd h (Nat.lt_irrefl _))
end Go.Proofs.YtneihkegipcakaaGreat
/- Layer trace: a trace that is not there. -/
namespace Go.Proofs.YtneihkegipcakaaGreat
open Go.RowKit
set_option maxRecDepth 100000
set_option linter.unusedVariables false
set_option linter.unusedSimpArgs false


theorem z19s : (#[.int .u64 0, .int .u64 0, .int .u64 0, .int .u64 0, .int .u64 0, .int .u64 0, .int .u64 0, .int .u64 0, .int .u64 0, .int .u64 0, .int .u64 0, .int .u64 0, .int .u64 0, .int .u64 0, .int .u64 0, .int .u64 0, .int .u64 0, .int .u8 0, .slice none 0 0] : Array Value).size = 19 := by kernel_rfl
theorem z19o : (#[.int .u64 0, .int .u64 0, .int .u64 0, .int .u64 0, .int .u64 0, .int .u64 0, .int .u64 0, .int .u64 0, .int .u64 0, .int .u64 0, .int .u64 0, .int .u64 0, .int .u64 0, .int .u64 0, .int .u64 0, .int .u64 0, .int .u64 0, .int .u8 0, .slice none 0 0] : Array Value).all (·.oneCell') = true := by kernel_rfl
theorem z53s : (#[.int .u64 0, .int .u64 0, .int .u64 0, .int .u64 0, .int .u64 0, .int .u64 0, .int .u64 0, .int .u64 0, .int .u64 0, .int .u64 0, .int .u64 0, .int .u64 0, .int .u64 0, .int .u64 0, .int .u64 0, .int .u64 0, .int .u64 0, .int .u8 0, .int .i64 0, .int .u8 0, .int .u8 0, .int .u8 0, .int .u8 0, .int .u8 0, .int .u8 0, .int .u8 0, .int .u8 0, .int .u8 0, .int .u8 0, .int .u8 0, .int .u8 0, .int .u8 0, .int .u8 0, .int .u8 0, .int .u8 0, .int .u8 0, .int .u8 0, .int .u8 0, .int .u8 0, .int .u8 0, .int .u8 0, .int .u8 0, .int .u8 0, .int .u8 0, .int .u8 0, .int .u8 0, .int .u8 0, .int .u8 0, .int .u8 0, .int .u8 0, .int .u8 0, .slice none 0 0, .slice none 0 0] : Array Value).size = 53 := by kernel_rfl
theorem z53o : (#[.int .u64 0, .int .u64 0, .int .u64 0, .int .u64 0, .int .u64 0, .int .u64 0, .int .u64 0, .int .u64 0, .int .u64 0, .int .u64 0, .int .u64 0, .int .u64 0, .int .u64 0, .int .u64 0, .int .u64 0, .int .u64 0, .int .u64 0, .int .u8 0, .int .i64 0, .int .u8 0, .int .u8 0, .int .u8 0, .int .u8 0, .int .u8 0, .int .u8 0, .int .u8 0, .int .u8 0, .int .u8 0, .int .u8 0, .int .u8 0, .int .u8 0, .int .u8 0, .int .u8 0, .int .u8 0, .int .u8 0, .int .u8 0, .int .u8 0, .int .u8 0, .int .u8 0, .int .u8 0, .int .u8 0, .int .u8 0, .int .u8 0, .int .u8 0, .int .u8 0, .int .u8 0, .int .u8 0, .int .u8 0, .int .u8 0, .int .u8 0, .int .u8 0, .slice none 0 0, .slice none 0 0] : Array Value).all (·.oneCell') = true := by kernel_rfl
theorem aS11 {P : Program} {ops : Array Oper} {rest : List Oper} {a : Act} {w : World} {Q : Exit → Act → World → Prop} (t : TypeId) (x y : Operand) {d} {ty} {pos} {af} {g} (h : wpList P ops Q (⟨d, .store t x y, ty, pos, af, g⟩ :: rest) a w) : wpList P ops Q (⟨d, .store t x y, ty, pos, af, g⟩ :: rest) a w := h
set_option maxHeartbeats 2000000 in
theorem machine_nil (w : World) (k : Int) : Calls Tryz.prog 12 #[.pointer none, .int .i64 k] w fun e w' => e = .returned (.tuple #[.agg #[.int .u64 0, .int .u64 0, .int .u64 0, .int .u64 0, .int .u64 0, .int .u64 0, .int .u64 0, .int .u64 0, .int .u64 0, .int .u64 0, .int .u64 0, .int .u64 0, .int .u64 0, .int .u64 0, .int .u64 0, .int .u64 0, .int .u64 0, .int .u8 0, .slice none 0 0], .int .i64 1]) ∧ Below w.heap.size w w' := by
  have h30 := find_nil (w.alloc (.cells #[.int .u64 0, .int .u64 0, .int .u64 0, .int .u64 0, .int .u64 0, .int .u64 0, .int .u64 0, .int .u64 0, .int .u64 0, .int .u64 0, .int .u64 0, .int .u64 0, .int .u64 0, .int .u64 0, .int .u64 0, .int .u64 0, .int .u64 0, .int .u8 0, .slice none 0 0] 27)) k
  go_enter Tryz.func12, Tryz.ntmps12
  go_wp2_with (first
    | (go_at_call 30; go_must (refine h30.mono ?_; rintro e w1 ⟨rfl, rfl⟩))
    | (refine aS11 27 (.tmp 4) (.tmp 12) ?_; refine st45n (z := #[.int .u64 0, .int .u64 0, .int .u64 0, .int .u64 0, .int .u64 0, .int .u64 0, .int .u64 0, .int .u64 0, .int .u64 0, .int .u64 0, .int .u64 0, .int .u64 0, .int .u64 0, .int .u64 0, .int .u64 0, .int .u64 0, .int .u64 0, .int .u8 0, .slice none 0 0]) (by rfl) (.tmp 4) (.tmp 12) (by rfl) w w.heap.size rfl z19s #[.int .u64 0, .int .u64 0, .int .u64 0, .int .u64 0, .int .u64 0, .int .u64 0, .int .u64 0, .int .u64 0, .int .u64 0, .int .u64 0, .int .u64 0, .int .u64 0, .int .u64 0, .int .u64 0, .int .u64 0, .int .u64 0, .int .u64 0, .int .u8 0, .slice none 0 0] (by rfl) (by rfl) z19s z19o ?_))
  exact bodyPost_ret (v := .tuple #[.agg #[.int .u64 0, .int .u64 0, .int .u64 0, .int .u64 0, .int .u64 0, .int .u64 0, .int .u64 0, .int .u64 0, .int .u64 0, .int .u64 0, .int .u64 0, .int .u64 0, .int .u64 0, .int .u64 0, .int .u64 0, .int .u64 0, .int .u64 0, .int .u8 0, .slice none 0 0], .int .i64 1]) (resM2 Tryz.results12 rfl rfl z19s (Arr.new w 27 #[.int .u64 0, .int .u64 0, .int .u64 0, .int .u64 0, .int .u64 0, .int .u64 0, .int .u64 0, .int .u64 0, .int .u64 0, .int .u64 0, .int .u64 0, .int .u64 0, .int .u64 0, .int .u64 0, .int .u64 0, .int .u64 0, .int .u64 0, .int .u8 0, .slice none 0 0])) rfl ⟨rfl, alloc_bel' w _⟩
set_option maxHeartbeats 1000000 in
theorem first_nil (w : World) : Calls Tryz.prog 20 #[.pointer none, .pointer none] w fun e w' => e = .returned (.tuple #[.int .i64 0, .bool false]) ∧ Below w.heap.size w w' := by
  have h := isThere_nil
  have b := (alloc_bel' w (.cells #[.pointer none] 31)).alloc (by simp) (.cells #[.pointer none] 31)
  go_enter Tryz.func20, Tryz.ntmps20
  go_wp2_with (go_at_call 36; go_must (refine (h _).mono ?_; rintro e w1 ⟨rfl, rfl⟩))
  go_ret2
  exact ⟨rfl, b⟩
end Go.Proofs.YtneihkegipcakaaGreat
/- Layer trace: the anchor's trace. -/
namespace Go.Proofs.YtneihkegipcakaaGreat
open Go.RowKit
set_option maxRecDepth 100000
set_option linter.unusedVariables false
set_option linter.unusedSimpArgs false


theorem cell_map_ne {w : World} {gm b j : Nat} {mp : Int → Option Value} {v : Value} (h : MapAt w gm mp) (hc : w.cell? ⟨b, j, none⟩ = some v) : b ≠ gm := by
  rintro rfl
  obtain ⟨L, clock, h1, -⟩ := h
  unfold World.cell? at hc
  simp [h1] at hc
/-- The anchor's trace, as it lies. -/
structure TRS (w : World) (g gm gt c : Nat) (sp : Option Addr) (n cap : Nat) (mp : Int → Option Value) : Prop where
  a : Arr w g 84 (tcA 10 2 gt gm c)
  m : MapAt w gm mp
  s : MS w.heap.size w sp n cap mA.me
  r : w.rangeAt gt 0 (mcA mA sp n cap).toList
  l : gt < w.heap.size
  c1 : 1 ≤ c
theorem TRS.bel {w w' : World} {g gm gt c : Nat} {sp : Option Addr} {n cap : Nat} {mp : Int → Option Value} (h : TRS w g gm gt c sp n cap mp) (hb : Below w.heap.size w w') : TRS w' g gm gt c sp n cap mp :=
  ⟨h.a.below hb h.a.lt, h.m.same (hb.block gm h.m.lt), (h.s.below hb).mono hb.size, fun j v hv => (hb.cell (p := ⟨gt, 0 + j, none⟩) h.l).trans (h.r j v hv), Nat.lt_of_lt_of_le h.l hb.size, h.c1⟩
theorem TRS.chg {w w' : World} {g gm gt c : Nat} {sp : Option Addr} {n cap : Nat} {mp mp' : Int → Option Value} (h : TRS w g gm gt c sp n cap mp) (hc : Chg (· = gm) w w') (hm : MapAt w' gm mp') : TRS w' g gm gt c sp n cap mp' := by
  have hg : g ≠ gm := map_ne h.m h.a
  have hgt : gt ≠ gm := cell_map_ne h.m (h.r 0 _ rfl)
  refine ⟨(hc.block g h.a.lt hg).trans h.a, hm, (MS.chg h.s (Nat.le_refl _) hc (fun b off e h0 => ?_)).mono hc.size, fun j v hv => (World.cell?_of_block (hc.block gt h.l hgt)).trans (h.r j v hv), Nat.lt_of_lt_of_le h.l hc.size, h.c1⟩
  obtain ⟨b2, off2, e2, -, hB⟩ := h.s.at0 h0
  rw [e] at e2
  simp at e2
  obtain ⟨rfl, rfl⟩ := e2
  exact cell_map_ne h.m (hB 0 h0)
theorem at2_any {w : World} {g gm gt c : Nat} {sp : Option Addr} {n cap : Nat} {mp : Int → Option Value} (h : TRS w g gm gt c sp n cap mp) (k : Int) (hk : k = 0 ∨ k = 2) (hv : mp k = none) (X : List Int) (hX : X = coR (rO [] mA k).1) :
    Calls Tryz.prog 10 #[.pointer (some ⟨g, 0, none⟩), .int .i64 k] w fun e w' => e = .returned (.tuple #[.agg (h8 X), .int .i64 0]) ∧ TRS w' g gm gt c sp n cap (fun j => if j = k then some (.agg (h8 X)) else mp j) ∧ Chg (· = gm) w w' := by
  refine (at_ok h.a k (by unfold fnE; rw [if_neg (by omega)]) X (by rw [hX]; exact coR_len _) _ (fun u hb => ?_) h.m.lt ⟨_, h.m⟩).mono fun e w' ⟨h1, h2, h3⟩ => ⟨h1, h.chg h3 h2, h3⟩
  have hu := h.bel hb
  exact sum_miss hu.a hu.m okA hu.s hu.r hu.l hu.c1 k (by omega) (by omega) (by omega) ⟨by omega, by omega⟩ hv X hX
theorem at10_any {w : World} {g gm gt c : Nat} {sp : Option Addr} {n cap : Nat} {mp : Int → Option Value} (h : TRS w g gm gt c sp n cap mp) (X : List Int) (hX : X.length = 32) (hv : mp 2 = some (.agg (h8 X))) :
    Calls Tryz.prog 10 #[.pointer (some ⟨g, 0, none⟩), .int .i64 10] w fun e w' => e = .returned (.tuple #[.agg (h8 X), .int .i64 0]) ∧ TRS w' g gm gt c sp n cap mp ∧ Chg (· = gm) w w' := by
  refine (at_ok h.a 10 (by decide) X hX mp (fun u hb => ?_) h.m.lt ⟨_, h.m⟩).mono fun e w' ⟨h1, h2, h3⟩ => ⟨h1, h.chg h3 h2, h3⟩
  have hu := h.bel hb
  exact (sum_hit hu.a hu.m 10 (by omega) X hX hv).mono fun e w' ⟨h1, h2⟩ => ⟨h1, (hu.bel h2).m, Chg.of_below h2⟩
theorem at11_any {w : World} {g gm gt c : Nat} {sp : Option Addr} {n cap : Nat} {mp : Int → Option Value} (h : TRS w g gm gt c sp n cap mp) :
    Calls Tryz.prog 10 #[.pointer (some ⟨g, 0, none⟩), .int .i64 11] w fun e w' => e = .returned (.tuple #[.agg (h8 Z32), .int .i64 2]) ∧ TRS w' g gm gt c sp n cap mp ∧ Below w.heap.size w w' :=
  (at_arg h.a 11 (by decide)).mono fun e w' ⟨h1, h2⟩ => ⟨h1, h.bel h2, h2⟩
theorem newA_any {w : World} {sp : Option Addr} {n cap : Nat} (hMS : MS w.heap.size w sp n cap mA.me) :
    Calls Tryz.prog 8 #[.agg (mcA mA sp n cap), .slice none 0 0, .int .i64 10] w fun e w' => ∃ g gm gt c sp n cap, e = .returned (.tuple #[.pointer (some ⟨g, 0, none⟩), .int .i64 0]) ∧ TRS w' g gm gt c sp n cap (fun _ => none) ∧ w.heap.size ≤ gm ∧ Below w.heap.size w w' :=
  (new_any okA hMS mayA rA0 rA10 ⟨by omega, by omega⟩ ⟨by omega, by omega⟩).mono fun e w' ⟨g, gm, gt, c, s, a, b, h1, h2, hg, h3, h4, h5, h6, h7, h8⟩ => ⟨g, gm, gt, c, s, a, b, h1, ⟨h5, h7, h6, h3, h4, h2⟩, hg, h8⟩
theorem lenA_any {w : World} {g gm gt c : Nat} {sp : Option Addr} {n cap : Nat} {mp : Int → Option Value} (h : TRS w g gm gt c sp n cap mp) :
    Calls Tryz.prog 16 #[.pointer (some ⟨g, 0, none⟩)] w fun e w' => e = .returned (.int .i64 2) ∧ Below w.heap.size w w' := len_any h.a
end Go.Proofs.YtneihkegipcakaaGreat
/- Layer trace: the anchor. -/
namespace Go.Proofs.YtneihkegipcakaaGreat
open Go.RowKit
set_option maxRecDepth 100000
set_option linter.unusedVariables false
set_option linter.unusedSimpArgs false

def cA10 : Array Value := #[.int .u8 2, .int .u8 1, .int .u8 0, .int .u8 0, .int .u32 7, .int .u8 1, .int .u8 0, .int .u8 0, .int .u8 0, .int .u32 0]
theorem csA {w : World} {g : Nat} (h : Arr w g 75 cA10) : CS w.heap.size w (some ⟨g, 0, none⟩) 2 2 cA :=
  ⟨Hid.mk' rfl, (fun e => by cases e), Nat.le_refl _, by omega, by omega, fun _ => ⟨g, 0, rfl, h.lt, fun i e he => by
    match i, he with
    | 0, he =>
      cases he
      intro j u hu
      rw [h.cell]
      match j, hu with
      | 0, hu => exact hu
      | 1, hu => exact hu
      | 2, hu => exact hu
      | 3, hu => exact hu
      | 4, hu => exact hu
      | (j + 5), hu => simp [Cd.arr, cdA] at hu
    | 1, he =>
      cases he
      intro j u hu
      rw [h.cell]
      match j, hu with
      | 0, hu => exact hu
      | 1, hu => exact hu
      | 2, hu => exact hu
      | 3, hu => exact hu
      | 4, hu => exact hu
      | (j + 5), hu => simp [Cd.arr, cdA] at hu
    | (i + 2), he => simp [cA] at he⟩, fun e he => by
    simp only [cA, List.mem_cons, List.not_mem_nil, or_false] at he
    rcases he with rfl | rfl
    · exact ⟨by decide, by decide, by decide, by decide, by decide⟩
    · exact ⟨by decide, by decide, by decide, by decide, by decide⟩⟩
theorem aS13 {P : Program} {ops : Array Oper} {rest : List Oper} {a : Act} {w : World} {Q : Exit → Act → World → Prop} (t : TypeId) (x y : Operand) {d} {ty} {pos} {af} {g} (h : wpList P ops Q (⟨d, .store t x y, ty, pos, af, g⟩ :: rest) a w) : wpList P ops Q (⟨d, .store t x y, ty, pos, af, g⟩ :: rest) a w := h
theorem aL13 {P : Program} {ops : Array Oper} {rest : List Oper} {a : Act} {w : World} {Q : Exit → Act → World → Prop} (t : TypeId) (x : Operand) {d} {ty} {pos} {af} {g} (h : wpList P ops Q (⟨d, .load t x, ty, pos, af, g⟩ :: rest) a w) : wpList P ops Q (⟨d, .load t x, ty, pos, af, g⟩ :: rest) a w := h
theorem z32s : (#[.int .u8 0, .int .u8 0, .int .u8 0, .int .u8 0, .int .u8 0, .int .u8 0, .int .u8 0, .int .u8 0, .int .u8 0, .int .u8 0, .int .u8 0, .int .u8 0, .int .u8 0, .int .u8 0, .int .u8 0, .int .u8 0, .int .u8 0, .int .u8 0, .int .u8 0, .int .u8 0, .int .u8 0, .int .u8 0, .int .u8 0, .int .u8 0, .int .u8 0, .int .u8 0, .int .u8 0, .int .u8 0, .int .u8 0, .int .u8 0, .int .u8 0, .int .u8 0] : Array Value).size = 32 := by kernel_rfl
theorem Arr.chg {w w' : World} {gm b ty : Nat} {C : Array Value} {mp : Int → Option Value} (h : Arr w b ty C) (hm : MapAt w gm mp) (hc : Chg (· = gm) w w') : Arr w' b ty C := (hc.block b h.lt (map_ne hm h)).trans h
theorem chg_bel {w v v' : World} {gm : Nat} (hb : Below w.heap.size w v) (hc : Chg (· = gm) v v') (hg : w.heap.size ≤ gm) : Below w.heap.size w v' := hb.trans (hc.below fun i hi => ⟨Nat.lt_of_lt_of_le hi hb.size, by omega⟩)
theorem ld24g {ops : Array Oper} {rest : List Oper} {o : Oper} {a : Act} {w : World} {Q : Exit → Act → World → Prop} (hw : Region.wanted o (yielded ops a.tmps) = true) (x : Operand) (ho : o.op = .load 40 x)
    (b : Nat) (hx : a.eval x = .pointer (some ⟨b, 0, none⟩)) (X : List Int) (hX : X.length = 32) (hA : Arr w b 40 (h8 X))
    (h : wpList Tryz.prog ops Q rest (a.put o.dst (.agg (h8 X))) w) : wpList Tryz.prog ops Q (o :: rest) a w := by
  unfold wpList
  rw [if_pos hw]
  exact .inl (wp_load_mid 40 x ho b 0 hx (by8 X) _ hA.range Tryz.underlying40 rfl (by rw [by8_len, hX]; exact size24) h)
theorem run_neD {X Y : List Int} (hX : X.length = 32) (hY : Y.length = 32) (hn : X ≠ Y) (w : World) : (binOp .neq 40 (.agg (h8 X)) (.agg (h8 Y))).run Tryz.prog w = .ok (.bool true) w := by
  have h := run_eqIn24 hX hY w
  rw [decide_eq_false hn] at h
  rw [run_neq_struct, h]
  rfl
set_option maxHeartbeats 8000000 in
theorem anchored_any (w : World) : Calls Tryz.prog 7 #[] w fun e w' => e = .returned (.bool true) ∧ Below w.heap.size w w' := by
  have hld := fun (u : World) (g : Nat) (h : Arr u g 75 cA10) => refLoad_any 4 (some ⟨g, 0, none⟩) 2 2 cA none 0 0 [] u.heap.size u ⟨by omega, by omega⟩ (csA h) (MS.nil0 _ _) (fun k => by simp [U64])
  unfold LdPost at hld
  rw [lOA] at hld
  simp only at hld
  have b0 := alloc_bel' w (.cells cA10 75)
  have h0 := hld _ w.heap.size (Arr.new w 75 cA10)
  unfold cA10 at h0 b0
  clear hld
  go_enter Tryz.func7, Tryz.ntmps7
  go_upto_region 2 with (first
    | (go_at_call 24; go_must (refine h0.mono ?_; rintro e v1 ⟨sp1, n1, cp1, rfl, hok1, hMS1, hb1⟩; have hsz1 := mcA_size hok1.r16 sp1 n1 cp1; have hone1 := mcA_one mA sp1 n1 cp1))
    | (refine aS13 27 (.tmp 1) (.tmp 20) ?_; refine st45n (z := #[.int .u64 0, .int .u64 0, .int .u64 0, .int .u64 0, .int .u64 0, .int .u64 0, .int .u64 0, .int .u64 0, .int .u64 0, .int .u64 0, .int .u64 0, .int .u64 0, .int .u64 0, .int .u64 0, .int .u64 0, .int .u64 0, .int .u64 0, .int .u8 0, .slice none 0 0]) (by rfl) (.tmp 1) (.tmp 20) (by rfl) v1 v1.heap.size rfl z19s (mcA mA sp1 n1 cp1) (by rfl) (by rfl) hsz1 hone1 ?_))
  have M1 := Arr.new v1 27 (mcA mA sp1 n1 cp1)
  have hS1 : MS (v1.alloc (.cells (mcA mA sp1 n1 cp1) 27)).heap.size (v1.alloc (.cells (mcA mA sp1 n1 cp1) 27)) sp1 n1 cp1 mA.me := (hMS1.below (alloc_bel' v1 _)).mono (by simp)
  have B1 : Below w.heap.size w (v1.alloc (.cells (mcA mA sp1 n1 cp1) 27)) := (b0.trans (hb1.mono b0.size)).alloc (b0.trans (hb1.mono b0.size)).size _
  have hN := newA_any hS1
  have hC := fun (u : World) (hb : Below (v1.alloc (.cells (mcA mA sp1 n1 cp1) 27)).heap.size (v1.alloc (.cells (mcA mA sp1 n1 cp1) 27)) u) => refCommit_any mA sp1 n1 cp1 u.heap.size u okA ((hS1.below hb).mono hb.size)
  generalize mcA mA sp1 n1 cp1 = CA at *
  generalize coE mA = ce at *
  obtain ⟨X0, hX0⟩ : ∃ x, x = coR mA := ⟨_, rfl⟩
  obtain ⟨X2, hX2⟩ : ∃ x, x = coR mB := ⟨_, rfl⟩
  have l0 : X0.length = 32 := by rw [hX0]; exact coR_len _
  have l2 : X2.length = 32 := by rw [hX2]; exact coR_len _
  have hne : X2 ≠ X0 := by rw [hX0, hX2]; exact Ne.symm coAB
  rw [← hX0] at hC
  have e2 : X2 = coR (rO [] mA 2).1 := by rw [rA2]; exact hX2
  have e0 : X0 = coR (rO [] mA 0).1 := by rw [rA0]; exact hX0
  replace e2 := Hid.mk' e2
  replace e0 := Hid.mk' e0
  clear hX0 hX2 h0 hMS1 hok1 hone1 b0 hS1
  obtain ⟨U1, hU1⟩ : ∃ x, x = v1.alloc (.cells CA 27) := ⟨_, rfl⟩
  obtain ⟨b1, hb1'⟩ : ∃ x, x = v1.heap.size := ⟨_, rfl⟩
  rw [← hU1] at M1 B1 hN hC ⊢
  rw [← hb1'] at M1 ⊢
  replace hU1 := Hid.mk' hU1
  replace hb1' := Hid.mk' hb1'
  clear hb1
  go_upto_region 3 with (first
    | (refine aL13 27 (.tmp 1) ?_; refine ld45 (by rfl) (.tmp 1) (by rfl) b1 (by rfl) CA hsz1 M1 ?_)
    | (go_at_call 8; go_must (refine hN.mono ?_; rintro e v2 ⟨g, gm, gt, c, sp, n, cap, rfl, T2, hgm2, hc2⟩)))
  have M2 := M1.below hc2 M1.lt
  have B2 := B1.trans (hc2.mono B1.size)
  have hgm : w.heap.size ≤ gm := Nat.le_trans B1.size hgm2
  go_upto_region 4 with (first
    | (go_at_call 10; go_must (refine (at2_any T2 2 (.inr rfl) rfl X2 e2.out).mono ?_; rintro e v3 ⟨rfl, T3, hc3⟩))
    | (refine aS13 40 (.tmp 5) (.tmp 30) ?_; refine st24n (by rfl) (.tmp 5) (.tmp 30) (by rfl) v3 v3.heap.size rfl z32s X2 (by rfl) (by rfl) l2 ?_))
  have T4 := T3.bel (alloc_bel' v3 (.cells (h8 X2) 40))
  have A4 := Arr.new v3 40 (h8 X2)
  have M4 := (M2.chg T2.m hc3).below (alloc_bel' v3 (.cells (h8 X2) 40)) (M2.chg T2.m hc3).lt
  have B4 := (chg_bel B2 hc3 hgm).alloc (chg_bel B2 hc3 hgm).size (.cells (h8 X2) 40)
  have hU4 := (hc2.trans (hc3.below fun i hi => ⟨Nat.lt_of_lt_of_le hi hc2.size, by omega⟩)).alloc (hc2.trans (hc3.below fun i hi => ⟨Nat.lt_of_lt_of_le hi hc2.size, by omega⟩)).size (.cells (h8 X2) 40)
  obtain ⟨g5, hg5⟩ : ∃ x, x = v3.heap.size := ⟨_, rfl⟩
  obtain ⟨U4, hE4⟩ : ∃ x, x = v3.alloc (.cells (h8 X2) 40) := ⟨_, rfl⟩
  rw [← hE4] at T4 A4 M4 B4 hU4 ⊢
  rw [← hg5] at A4 ⊢
  replace hE4 := Hid.mk' hE4
  replace hg5 := Hid.mk' hg5
  go_upto_region 5 with (first
    | (go_at_call 10; go_must (refine (at10_any T4 X2 l2 (by simp)).mono ?_; rintro e v5 ⟨rfl, T5, hc5⟩))
    | (refine aS13 40 (.tmp 7) (.tmp 35) ?_; refine st24n (by rfl) (.tmp 7) (.tmp 35) (by rfl) v5 v5.heap.size rfl z32s X2 (by rfl) (by rfl) l2 ?_))
  have A5 := (A4.chg T4.m hc5).below (alloc_bel' v5 (.cells (h8 X2) 40)) (A4.chg T4.m hc5).lt
  have T6 := T5.bel (alloc_bel' v5 (.cells (h8 X2) 40))
  have A6 := Arr.new v5 40 (h8 X2)
  have M6 := (M4.chg T4.m hc5).below (alloc_bel' v5 (.cells (h8 X2) 40)) (M4.chg T4.m hc5).lt
  have B6 := (chg_bel B4 hc5 hgm).alloc (chg_bel B4 hc5 hgm).size (.cells (h8 X2) 40)
  have hU6 := (hU4.trans (hc5.below fun i hi => ⟨Nat.lt_of_lt_of_le hi hU4.size, by omega⟩)).alloc (hU4.trans (hc5.below fun i hi => ⟨Nat.lt_of_lt_of_le hi hU4.size, by omega⟩)).size (.cells (h8 X2) 40)
  obtain ⟨g7, hg7⟩ : ∃ x, x = v5.heap.size := ⟨_, rfl⟩
  obtain ⟨U6, hE6⟩ : ∃ x, x = v5.alloc (.cells (h8 X2) 40) := ⟨_, rfl⟩
  rw [← hE6] at A5 T6 A6 M6 B6 hU6 ⊢
  rw [← hg7] at A6 ⊢
  replace hE6 := Hid.mk' hE6
  replace hg7 := Hid.mk' hg7
  have lZ : Z32.length = 32 := by decide
  go_upto_region 6 with (first
    | (go_at_call 10; go_must (refine (at11_any T6).mono ?_; rintro e v7 ⟨rfl, T7, hc7⟩))
    | (refine aS13 40 (.tmp 9) (.tmp 40) ?_; refine st24n (by rfl) (.tmp 9) (.tmp 40) (by rfl) v7 v7.heap.size rfl z32s Z32 (by rfl) (by rfl) lZ ?_))
  have hb8 := hc7.alloc hc7.size (.cells (h8 Z32) 40)
  have A7 := A5.below hb8 A5.lt
  have A8 := A6.below hb8 A6.lt
  have T8 := T6.bel hb8
  have M8 := M6.below hb8 M6.lt
  have B8 := B6.trans (hb8.mono B6.size)
  have hU8 := hU6.trans (hb8.mono hU6.size)
  clear hb8
  obtain ⟨U8, hE8⟩ : ∃ x, x = v7.alloc (.cells (h8 Z32) 40) := ⟨_, rfl⟩
  rw [← hE8] at A7 A8 T8 M8 B8 hU8 ⊢
  replace hE8 := Hid.mk' hE8
  go_upto_region 7 with (first
    | (refine aL13 27 (.tmp 1) ?_; refine ld45 (by rfl) (.tmp 1) (by rfl) b1 (by rfl) CA hsz1 M8 ?_)
    | (go_at_call 25; go_must (refine (hC _ hU8).mono ?_; rintro e v9 ⟨rfl, hc9⟩))
    | (refine aS13 40 (.tmp 11) (.tmp 45) ?_; refine st24n (by rfl) (.tmp 11) (.tmp 45) (by rfl) v9 v9.heap.size rfl z32s X0 (by rfl) (by rfl) l0 ?_))
  have hb9 := hc9.alloc hc9.size (.cells (h8 X0) 40)
  have A9 := A7.below hb9 A7.lt
  have C9 := A8.below hb9 A8.lt
  have D9 := Arr.new v9 40 (h8 X0)
  have T9 := T8.bel hb9
  have B9 := B8.trans (hb9.mono B8.size)
  clear hb9
  obtain ⟨g11, hg11⟩ : ∃ x, x = v9.heap.size := ⟨_, rfl⟩
  obtain ⟨U9, hE9⟩ : ∃ x, x = v9.alloc (.cells (h8 X0) 40) := ⟨_, rfl⟩
  rw [← hE9] at A9 C9 D9 T9 B9 ⊢
  rw [← hg11] at D9 ⊢
  replace hE9 := Hid.mk' hE9
  replace hg11 := Hid.mk' hg11
  go_upto_region 8 with (first
    | (go_at_call 10; go_must (refine (at2_any T9 0 (.inl rfl) rfl X0 e0.out).mono ?_; rintro e va ⟨rfl, Ta, hca⟩))
    | (refine aS13 40 (.tmp 13) (.tmp 50) ?_; refine st24n (by rfl) (.tmp 13) (.tmp 50) (by rfl) va va.heap.size rfl z32s X0 (by rfl) (by rfl) l0 ?_))
  have Aa := (A9.chg T9.m hca).below (alloc_bel' va (.cells (h8 X0) 40)) (A9.chg T9.m hca).lt
  have Ca := (C9.chg T9.m hca).below (alloc_bel' va (.cells (h8 X0) 40)) (C9.chg T9.m hca).lt
  have Da := (D9.chg T9.m hca).below (alloc_bel' va (.cells (h8 X0) 40)) (D9.chg T9.m hca).lt
  have Ea := Arr.new va 40 (h8 X0)
  have Tb := Ta.bel (alloc_bel' va (.cells (h8 X0) 40))
  have Ba := (chg_bel B9 hca hgm).alloc (chg_bel B9 hca hgm).size (.cells (h8 X0) 40)
  obtain ⟨g13, hg13⟩ : ∃ x, x = va.heap.size := ⟨_, rfl⟩
  obtain ⟨Ua, hEa⟩ : ∃ x, x = va.alloc (.cells (h8 X0) 40) := ⟨_, rfl⟩
  rw [← hEa] at Aa Ca Da Ea Tb Ba ⊢
  rw [← hg13] at Ea ⊢
  replace hEa := Hid.mk' hEa
  replace hg13 := Hid.mk' hg13
  clear A9 C9 D9 T9 B9 T8 M8 B8 A8 A7 hU8 T6 A6 M6 B6 hU6 A5 T4 A4 M4 B4 hU4 T2 T3 T5 T7 hN hC Ta hc9 hca hc7 hc5 hc3 hc2
  have q22 := run_eq24 l2 l2
  have q00 := run_eq24 l0 l0
  have q20 := run_neD l2 l0 hne
  rw [decide_eq_true rfl] at q22 q00
  have hl16 := fun (u : World) (hb : Below Ua.heap.size Ua u) => lenA_any (Tb.bel hb)
  go_wp2_with (first
    | (go_at_call 16; go_must (refine (lenA_any Tb).mono ?_; rintro e vb ⟨rfl, hb⟩; have AA := Aa.below hb Aa.lt; have CC := Ca.below hb Ca.lt; have DD := Da.below hb Da.lt; have EE := Ea.below hb Ea.lt))
    | (refine aL13 40 (.tmp 5) ?_; refine ld24g (by rfl) (.tmp 5) (by rfl) g5 (by rfl) X2 l2 AA ?_)
    | (refine aL13 40 (.tmp 7) ?_; refine ld24g (by rfl) (.tmp 7) (by rfl) g7 (by rfl) X2 l2 CC ?_)
    | (refine aL13 40 (.tmp 11) ?_; refine ld24g (by rfl) (.tmp 11) (by rfl) g11 (by rfl) X0 l0 DD ?_)
    | (refine aL13 40 (.tmp 13) ?_; refine ld24g (by rfl) (.tmp 13) (by rfl) g13 (by rfl) X0 l0 EE ?_))
  go_ret
  first | exact ⟨rfl, Ba.trans (hb.mono Ba.size)⟩ | exact Ba.trans (hb.mono Ba.size)
end Go.Proofs.YtneihkegipcakaaGreat
