/- W8, W9, ZWd, Pd, Px, Sa, Pe, Ab. -/
import Derived.Test.YtneihkegipcakaaGreatX07
import Derived.Test.YtneihkegipcakaaGreatX19
import Derived.LoopIn
import Derived.LoopNIn
import Derived.Test.YtneihkegipcakaaGreatX06
import Derived.Test.YtneihkegipcakaaGreatX01
import Derived.Test.YtneihkegipcakaaGreatX02
import Derived.Test.YtneihkegipcakaaGreatX03
import Derived.Test.YtneihkegipcakaaGreatX05
import Derived.BigQuiet
import Derived.BigRegion
import Derived.ChangeKeysEq
import Derived.ChangeOld
import Derived.Deep.DeepCutAuto
import Derived.Deep.DrawnRows
import Derived.Deep.MidRow
import Derived.Deep.OwnRows
import Derived.Deep.QuietTactic
import Derived.Deep.RegionHeld3
import Derived.Deep.RegionLaw
import Derived.Deep.RegionWith
import Derived.Deep.WholeRow
import Derived.DeepKeys3
import Derived.Great.BuildSlice
import Derived.Great.FillDense
import Derived.Laws.AppendOwnNone
import Derived.Laws.BitsLemmas
import Derived.Laws.BytesArg
import Derived.Laws.CopyOwn
import Derived.Laws.OwnMore
import Derived.Laws.ResultCell
import Derived.Laws.Tables
import Derived.Lib.SlBytesConst
import Derived.Maps.AppendAt
import Derived.OpenShut
import Derived.OwnWalkIn
import Derived.ProofKit
import Derived.RangeFuncBound
import Derived.RangeFuncCalls
import Derived.RangeFuncLeaves
import Derived.RangeFuncNested
import Derived.RangeFuncRecord
import Derived.Recover
import Derived.Shelf.Abstract
import Derived.Shelf.RegionOpen
import Derived.ShutString
import Derived.SizedLaws
import Derived.TacticsInMore
import Derived.WalkKit
import Derived.WalkLawsBesides
import Derived.WalkSpells
import Derived.Laws.CopyRow
import Derived.Laws.MakeOwn
import Derived.Lib.AppendZeros
/- Layer trace: follow. -/
namespace Go.Proofs.YtneihkegipcakaaGreat
open Go.RowKit
set_option maxRecDepth 100000
set_option linter.unusedVariables false
set_option linter.unusedSimpArgs false


theorem clone_nil (w : World) : Calls Tryz.prog 49 #[.slice none 0 0] w fun e w' => e = .returned (.slice none 0 0) ∧ Below w.heap.size w w' := by
  have hq : ∀ w, (binOp .eql 28 (.slice none 0 0) (.slice none 0 0)).run Tryz.prog w = .ok (.bool true) w := fun w => by kernel_rfl
  go_enter Tryz.func49, Tryz.ntmps49
  go_wp2_with fail
  go_ret
  exact ⟨rfl, Below.refl _ _⟩
set_option maxHeartbeats 1000000 in
theorem copied_nil (w : World) : Calls Tryz.prog 27 #[.slice none 0 0] w fun e w' => e = .returned (.slice none 0 0) ∧ Below w.heap.size w w' := by
  have h := clone_nil w
  go_enter Tryz.func27, Tryz.ntmps27
  go_upto_region 3 with (go_at_call 49; go_must (refine h.mono ?_; rintro e w1 ⟨rfl, hb1⟩))
  go_loopw [10] (fun i wr => i = .int .i64 0 ∧ Below w.heap.size w wr) (fun _ _ => 0)
  case atStart => exact ⟨rfl, hb1⟩
  case round =>
    obtain ⟨rfl, hb⟩ := hrel
    go_wp2_with fail
    go_ret
    exact ⟨rfl, hb⟩
theorem MS.chg {N : Nat} {w w' : World} {sp : Option Addr} {n cap : Nat} {L : List Int} {S : Nat → Prop} (h : MS N w sp n cap L) (hN : N ≤ w.heap.size) (hc : Chg S w w') (hne : ∀ b off, sp = some ⟨b, off, none⟩ → 0 < n → ¬ S b) : MS N w' sp n cap L :=
  ⟨h.len, h.nil, h.le, h.big, h.small, fun h0 => let ⟨b, off, e, hb, hB⟩ := h.at0 h0; ⟨b, off, e, hb, fun t ht => by
    rw [World.cell?_of_block (hc.block b (by omega) (hne b off e h0))]; exact hB t ht⟩⟩
/-- What follow leaves. -/
structure FoP (g gm : Nat) (most L : Int) (m : Mc) (w w' : World) : Prop where
  ex : ∃ gt c sp n cap, 1 ≤ c ∧ w'.rangeAt gt 0 (mcA m sp n cap).toList ∧ gt < w'.heap.size ∧ Arr w' g 84 (tcA most L gt gm c) ∧ MS w'.heap.size w' sp n cap m.me
  ch : Chg (· = g) w w'
set_option maxHeartbeats 4000000 in
theorem follow_any {w : World} {g gm : Nat} {most L : Int} {m : Mc} {sp : Option Addr} {n cap : Nat} (A : Arr w g 84 (tc0 most 0 gm)) (hok : m.ok) (hMS : MS w.heap.size w sp n cap m.me) (h0 : (rO [] m 0).1 = m) (h1 : (rO [] m most).2.1 = L) (hm : 0 ≤ most ∧ most ≤ 1000) (hL : 0 ≤ L ∧ L ≤ most) :
    Calls Tryz.prog 28 #[.pointer (some ⟨g, 0, none⟩), .agg (mcA m sp n cap)] w fun e w' => e = .returned (.tuple #[]) ∧ FoP g gm most L m w w' := by
  have hr := hok.r16
  have hsz := mcA_size hr sp n cap
  have hone := mcA_one m sp n cap
  have hlt := A.lt
  have hR0 := fun (u : World) (hb : Below w.heap.size w u) => run23_any (N := w.heap.size) (es := []) m sp n cap none 0 0 0 u hok (hMS.below hb) (ES.nil0 _ _) (by omega)
  unfold RnPost at hR0
  rw [h0] at hR0
  generalize (rO [] m 0).2.1 = y1 at *
  generalize (rO [] m 0).2.2 = y2 at *
  have hR1 := fun (u : World) (s : Option Addr) (a b : Nat) (hs : MS u.heap.size u s a b m.me) => run23_any (N := u.heap.size) (es := []) m s a b none 0 0 most u hok hs (ES.nil0 _ _) (by omega)
  unfold RnPost at hR1
  rw [h1] at hR1
  obtain ⟨m2, hm2⟩ : ∃ x, x = (rO [] m most).1 := ⟨_, rfl⟩
  rw [← hm2] at hR1
  generalize (rO [] m most).2.2 = y3 at *
  clear hm2 h0 h1
  generalize hCC : mcA m sp n cap = C at *
  have b0 := alloc_bel' w (.cells C 27)
  have AB := Arr.new w 27 C
  have AG := A.alloc (.cells C 27)
  obtain ⟨W, hW⟩ : ∃ x, x = w.alloc (.cells C 27) := ⟨_, rfl⟩
  rw [← hW] at b0 AB AG
  replace hW := Hid.mk' hW
  replace hCC := Hid.mk' hCC
  go_enter Tryz.func28, Tryz.ntmps28
  go_upto_region 3 with (first
    | (rw [← hW.out]; refine ld45 (by rfl) (.tmp 3) (by rfl) w.heap.size (by rfl) C hsz AB ?_)
    | (go_at_call 51; go_must (refine (hR0 _ b0).mono ?_; rintro e v1 ⟨sp1, n1, cp1, rfl, -, hMS1, hb1, hmw⟩; have AB1 := AB.below hb1 AB.lt; have hsz1 := mcA_size hr sp1 n1 cp1; have hone1 := mcA_one m sp1 n1 cp1; have hne1 := hmw_ne hmw AB1 (by decide); have hneG := hmw_ne hmw (AG.below hb1 AG.lt) (by decide)))
    | (refine st45 (by rfl) (.tmp 3) (.tmp 8) (by rfl) w.heap.size (mcA m sp1 n1 cp1) (by rfl) (by rfl) hsz1 hone1 C hsz AB1 ?_))
  have AB2 : Arr (v1.setRow w.heap.size (mcA m sp1 n1 cp1)) w.heap.size 27 (mcA m sp1 n1 cp1) := AB1.setRow _
  have AG2 : Arr (v1.setRow w.heap.size (mcA m sp1 n1 cp1)) g 84 (tc0 most 0 gm) := (AG.below hb1 AG.lt).setRowOther _ (by omega)
  have MS2 : MS v1.heap.size (v1.setRow w.heap.size (mcA m sp1 n1 cp1)) sp1 n1 cp1 m.me := MS.sr hMS1 hne1 _
  have bV : Below w.heap.size w (v1.setRow w.heap.size (mcA m sp1 n1 cp1)) := below_setRow (b0.trans (hb1.mono b0.size)) (Nat.le_refl _) _
  have hsV : (v1.setRow w.heap.size (mcA m sp1 n1 cp1)).heap.size = v1.heap.size := by simp
  rw [← hsV] at MS2
  generalize hC1 : mcA m sp1 n1 cp1 = C1 at *
  replace hC1 := Hid.mk' hC1
  obtain ⟨V, hV⟩ : ∃ V, V = v1.setRow w.heap.size C1 := ⟨_, rfl⟩
  rw [← hV] at AB2 AG2 MS2 bV ⊢
  clear hV hsV hmw hMS1 AB1 hR0 hCC AB AG b0 hb1 A hMS
  have hltB := AB2.lt
  have hltG := AG2.lt
  go_loopw [4] (fun s wr => (s = .int .i64 1024 ∧ wr = V) ∨ (s = .int .i64 L ∧ FoP g gm most L m w wr))
    (fun s _ => if intOf s = 1024 then 1 else 0)
  case atStart => exact .inl ⟨rfl, rfl⟩
  case round =>
    rcases hrel with ⟨rfl, rfl⟩ | ⟨rfl, hF⟩
    rotate_left
    · have hL2 : ¬ L = 1024 := by omega
      clear AB2 AG2 MS2 bV hR1
      go_wp2_with fail
      exact ⟨rfl, _, results_none Tryz.results28 _ _ _, rfl, hF⟩
    · go_upto_region 5 with fail
      have hbg : w.heap.size ≠ g := by omega
      have hmn : (if most < 1024 then most else 1024) = most := if_pos (by omega)
      have hwm : IntKind.i64.wrap most = most := (IntKind.wrap_i64 _).trans (by omega)
      have hwL : IntKind.i64.wrap L = L := (IntKind.wrap_i64 _).trans (by omega)
      have h52 := keep_any (w := wr.drew) (g := g) (gm := gm) (most := most) (len := 0) AG2.drew C1 hsz1 hone1
      have hRC := fun (u : World) (hs : MS u.heap.size u sp1 n1 cp1 m.me) => hR1 u sp1 n1 cp1 hs
      rw [hC1.out] at hRC
      clear hR1
      have hS0 : ∀ u, Arr u w.heap.size 27 C1 → Arr u w.heap.size 27 C1 ∧ True ∧ True := fun u h => ⟨h, trivial, trivial⟩
      refine rgn (fun u => Arr u w.heap.size 27 C1 ∧ True ∧ True) (hS0 _ AB2.drew) (fun hSw => ?_)
      refine tk3 0 rfl ?_
      refine tk3 1 rfl ?_
      refine tk3 2 rfl ?_
      refine tl 3 rfl (yM rfl (.tmp 3) rfl w.heap.size 0 rfl C1 hsz1 (fun u h j v hv => by rw [Nat.zero_add, h.1.cell]; simpa using hv)) ?_
      try simp only [Act.put, List.setIfInBounds_toArray, List.set_cons_zero, List.set_cons_succ]
      refine rd 4 rfl (fun K hK => ?_)
      go_simp
      refine h52.mono ?_
      rintro e v2 ⟨rfl, gt, c, hc, hrg, hge, hgt, A3, hch⟩
      replace hch : Chg (· = g) wr v2 := ⟨hch.os, hch.tape, hch.output, hch.size, hch.block⟩
      have AB3 : Arr v2 w.heap.size 27 C1 := (hch.block _ hltB hbg).trans AB2
      have MS3 : MS v2.heap.size v2 sp1 n1 cp1 m.me := (MS.chg MS2 (Nat.le_refl _) hch (fun b off e h => hneG b off e h)).mono hch.size
      go_wp2_with fail
      refine hK.out _ _ (hS0 _ AB3) (fun hSv => ?_)
      clear hK K
      try simp only [Act.put, List.setIfInBounds_toArray, List.set_cons_zero, List.set_cons_succ]
      refine dn ?_
      have q0 := A3.cell 0
      have q1 := A3.cell 1
      have q2 := A3.cell 2
      unfold tcA at q0 q1 q2
      go_upto_region 6 with fail
      have hD0 : Below v2.heap.size v2 v2.drew := (Below.refl _ _).drew
      have hS1 : ∀ u, Below v2.heap.size v2 u → u.cell? ⟨g, 0, none⟩ = some (.slice none 0 0) ∧ u.cell? ⟨g, 1, none⟩ = some (.int .i64 most) ∧ u.cell? ⟨g, 2, none⟩ = some (.int .i64 0) := fun u hb => ⟨(hb.cell (p := ⟨g, 0, none⟩) A3.lt).trans q0, (hb.cell (p := ⟨g, 1, none⟩) A3.lt).trans q1, (hb.cell (p := ⟨g, 2, none⟩) A3.lt).trans q2⟩
      refine rgn (fun u => u.cell? ⟨g, 0, none⟩ = some (.slice none 0 0) ∧ u.cell? ⟨g, 1, none⟩ = some (.int .i64 most) ∧ u.cell? ⟨g, 2, none⟩ = some (.int .i64 0)) (hS1 _ hD0) (fun hSw2 => ?_)
      refine tk3 1 rfl ?_
      refine tk3 2 rfl ?_
      refine tk3 3 rfl ?_
      refine tk3 4 rfl ?_
      refine tk3 5 rfl ?_
      refine tk3 6 rfl ?_
      refine tk3 7 rfl ?_
      refine tk3 8 rfl ?_
      refine tk3 9 rfl ?_
      refine tk3 10 rfl ?_
      refine tk3 11 rfl ?_
      refine tk3 12 rfl ?_
      refine tk3 13 rfl ?_
      refine tk3 14 rfl ?_
      refine rd 0 rfl (fun K hK => ?_)
      refine step_want rfl (wp_load_mid 27 (.tmp 3) rfl w.heap.size 0 rfl C1.toList _ (fun j v hv => by rw [Nat.zero_add, AB3.drew.cell]; simpa using hv) Tryz.underlying27 rfl (by rw [Array.length_toList, hsz1]; exact size45) ?_)
      rw [Array.toArray_toList]
      refine hK.out _ _ (hS1 _ hD0) (fun hSv3 => ?_)
      clear hK K
      try simp only [Act.put, List.setIfInBounds_toArray, List.set_cons_zero, List.set_cons_succ]
      refine rd 15 rfl (fun K hK => ?_)
      go_simp
      refine (hRC _ (show MS v2.drew.heap.size v2.drew sp1 n1 cp1 m.me from MS3.below hD0)).mono ?_
      rintro e v3 ⟨sp3, n3, cp3, rfl, hok3, -, hb3, -⟩
      have hv3 := hD0.trans (hb3.mono hD0.size)
      have AB4 := AB3.below hv3 AB3.lt
      have hsz3 := mcA_size hok3.r16 sp3 n3 cp3
      have hone3 := mcA_one m2 sp3 n3 cp3
      generalize mcA m2 sp3 n3 cp3 = C3 at *
      go_wp2_with fail
      refine hK.out _ _ (hS1 _ hv3) (fun hSv4 => ?_)
      clear hK K
      try simp only [Act.put, List.setIfInBounds_toArray, List.set_cons_zero, List.set_cons_succ]
      refine tk3 16 rfl ?_
      refine tk3 17 rfl ?_
      refine tk3 18 rfl ?_
      refine tk3 19 rfl ?_
      refine rd 20 rfl (fun K hK => ?_)
      refine step_want rfl (wp_store_row 27 (.tmp 3) (.tmp 43) rfl w.heap.size C3 rfl rfl 27 _ AB4 (by rw [hsz3]; exact size45) (by rw [hsz1, hsz3]) hone3 ?_)
      have A4 : Arr (v3.setRow w.heap.size C3) g 84 (tcA most 0 gt gm c) := (A3.below hv3 A3.lt).setRowOther C3 (Ne.symm hbg)
      have r0 := A4.cell 0
      have r1 := A4.cell 1
      have r2 := A4.cell 2
      unfold tcA at r0 r1 r2
      refine hK.out _ _ ⟨r0, r1, r2⟩ (fun hSv5 => ?_)
      clear hK K
      try simp only [Act.put, List.setIfInBounds_toArray, List.set_cons_zero, List.set_cons_succ]
      refine tk3 21 rfl ?_
      refine dn ?_
      have rf := A4.frozen 2
      have A5 := A4.set 2 (.int .i64 L)
      have MS4 : MS v2.heap.size (v3.setRow w.heap.size C3) sp1 n1 cp1 m.me := MS.sr (MS3.below hv3) hne1 C3
      have hcT : Chg (· = g) w (v3.setRow w.heap.size C3) := (((Chg.of_below (S := (· = g)) bV).trans (hch.mono fun i _ h => h)).trans ((Chg.of_below hv3).mono fun i _ h => h)).setRow C3 (fun h => absurd h (Nat.lt_irrefl _))
      have hgb : gt ≠ w.heap.size := by have := AB2.lt; have e : wr.drew.heap.size = wr.heap.size := rfl; omega
      have hgg : g ≠ gt := by have e : wr.drew.heap.size = wr.heap.size := rfl; omega
      have hR4 : (v3.setRow w.heap.size C3).rangeAt gt 0 C1.toList := fun j v hv => by
        rw [World.cell?_of_block (setRow_other v3 w.heap.size gt C3 hgb), hv3.cell (p := ⟨gt, 0 + j, none⟩) hgt]; exact hrg j v hv
      have hs3 := hv3.size
      have hszf : gt < (v3.setRow w.heap.size C3).heap.size := by simp; omega
      have hszm : v2.heap.size ≤ (v3.setRow w.heap.size C3).heap.size := by simp; omega
      obtain ⟨V5, hV5⟩ : ∃ x, x = v3.setRow w.heap.size C3 := ⟨_, rfl⟩
      rw [← hV5] at r0 r1 r2 rf A5 MS4 hcT hR4 hszf hszm A4 ⊢
      clear hV5 hrg hSv5 hSv4 hSv3 hSw2 AB4 hb3 hv3 hRC hS1 hS0 h52
      go_wp2_with fail
      refine ⟨.inr ⟨rfl, ⟨gt, c, sp1, n1, cp1, hc, fun j v hv => ?_, ?_, A5, ?_⟩, hcT.setCell _ (fun _ => rfl)⟩, ?_⟩
      · rw [hC1.out] at hv
        rw [World.cell?_of_block (World.heap_setCell_ne' hgg _)]
        exact hR4 j v hv
      · simpa using hszf
      · exact (MS.chg MS4 hszm ((Chg.refl (· = g) V5).setCell _ (fun _ => rfl)) (fun b off e h => hneG b off e h)).mono (by simpa using hszm)
      · have hL2 : ¬ L = 1024 := by omega
        simp [intOf, hL2]
end Go.Proofs.YtneihkegipcakaaGreat
/- Layer trace: New. -/
namespace Go.Proofs.YtneihkegipcakaaGreat
open Go.RowKit
set_option maxRecDepth 100000
set_option linter.unusedVariables false
set_option linter.unusedSimpArgs false


/-- What New leaves. -/
def NwP (most L : Int) (m : Mc) (w : World) (e : Ending) (w' : World) : Prop := ∃ g gm gt c sp n cap, e = .returned (.tuple #[.pointer (some ⟨g, 0, none⟩), .int .i64 0]) ∧ 1 ≤ c ∧ w.heap.size ≤ gm ∧ w'.rangeAt gt 0 (mcA m sp n cap).toList ∧ gt < w'.heap.size ∧ Arr w' g 84 (tcA most L gt gm c) ∧ MS w'.heap.size w' sp n cap m.me ∧ MapAt w' gm (fun _ => none) ∧ Below w.heap.size w w'
theorem new_aux {w : World} (most : Int) (v2 : World) (hb : Below w.heap.size w v2) : Arr ((v2.alloc (.map #[] 0)).alloc (.cells #[.slice none 0 0, .int .i64 most, .int .i64 0, .int .i64 1024, .slice none 0 0, .map (some v2.heap.size)] 84)) (v2.heap.size + 1) 84 (tc0 most 0 v2.heap.size) ∧ Below w.heap.size w ((v2.alloc (.map #[] 0)).alloc (.cells #[.slice none 0 0, .int .i64 most, .int .i64 0, .int .i64 1024, .slice none 0 0, .map (some v2.heap.size)] 84)) ∧ MapAt ((v2.alloc (.map #[] 0)).alloc (.cells #[.slice none 0 0, .int .i64 most, .int .i64 0, .int .i64 1024, .slice none 0 0, .map (some v2.heap.size)] 84)) v2.heap.size (fun _ => none) :=
  ⟨by have := Arr.new (v2.alloc (.map #[] 0)) 84 (tc0 most 0 v2.heap.size); unfold tc0 at this ⊢; simpa only [World.size_alloc] using this, (hb.alloc hb.size _).alloc (hb.alloc hb.size _).size _, (MapAt.new v2).same (Below.heap_alloc _ _ _ (by simp))⟩
set_option maxHeartbeats 4000000 in
theorem new_any {w : World} {most L : Int} {m : Mc} {sp : Option Addr} {n cap : Nat} (hok : m.ok) (hMS : MS w.heap.size w sp n cap m.me) (hmay : mayM m = true) (h0 : (rO [] m 0).1 = m) (h1 : (rO [] m most).2.1 = L) (hm : 0 ≤ most ∧ most ≤ 1000) (hL : 0 ≤ L ∧ L ≤ most) :
    Calls Tryz.prog 8 #[.agg (mcA m sp n cap), .slice none 0 0, .int .i64 most] w (NwP most L m w) := by
  have hr := hok.r16
  have hsz := mcA_size hr sp n cap
  have hone := mcA_one m sp n cap
  have hlen := hMS.len
  have hsm := hMS.small
  have h26 := fun (u : World) => may_anyV m sp n cap u hok hlen hsm
  rw [hmay] at h26
  have h28 := fun (u : World) (g gm : Nat) (A : Arr u g 84 (tc0 most 0 gm)) (hb : Below w.heap.size w u) => follow_any (L := L) A hok ((hMS.below hb).mono hb.size) h0 h1 hm hL
  unfold NwP
  have b0 := alloc_bel' w (.cells (mcA m sp n cap) 27)
  have AB := Arr.new w 27 (mcA m sp n cap)
  generalize hCC : mcA m sp n cap = C at *
  replace hCC := Hid.mk' hCC
  obtain ⟨W, hW⟩ : ∃ x, x = w.alloc (.cells C 27) := ⟨_, rfl⟩
  rw [← hW] at b0 AB
  replace hW := Hid.mk' hW
  clear hMS hlen hsm h0 h1 hok
  have hmm := @run_makeMap Tryz.prog
  go_enter Tryz.func8, Tryz.ntmps8
  go_wp2_with (first
    | (have hgd := hmay; clear hgd; rw [← hW.out]; refine ld45 (by rfl) (.tmp 3) (by rfl) w.heap.size (by rfl) C hsz AB ?_)
    | (go_at_call 26; go_must (refine (h26 _).mono ?_; rintro e v1 ⟨rfl, hb1⟩; clear hmay; have AB1 := AB.below hb1 AB.lt))
    | (go_at_call 27; go_must (refine (copied_nil _).mono ?_; rintro e v2 ⟨rfl, hb2⟩; have AB3 := ((AB1.below hb2 AB1.lt).alloc (.map #[] 0)).alloc (.cells #[.slice none 0 0, .int .i64 most, .int .i64 0, .int .i64 1024, .slice none 0 0, .map (some v2.heap.size)] 84); obtain ⟨AX, hbX, hMX⟩ := new_aux (w := w) most v2 (b0.trans ((hb1.trans (hb2.mono hb1.size)).mono b0.size))))
    | (refine ld45 (by rfl) (.tmp 3) (by rfl) w.heap.size (by rfl) C hsz AB3 ?_)
    | (go_at_call 28; go_must (refine (h28 _ (v2.heap.size + 1) v2.heap.size AX hbX).mono ?_; rintro e v3 ⟨rfl, hF⟩)))
  go_ret2
  obtain ⟨gt, c, sp', n', cap', q1, q2, q3, q4, q5⟩ := hF.ex
  have hsX := hbX.size
  refine ⟨v2.heap.size + 1, v2.heap.size, gt, c, sp', n', cap', rfl, q1, (by have h2 := (b0.trans ((hb1.trans (hb2.mono hb1.size)).mono b0.size)).size; omega), q2, q3, q4, q5, hMX.same (hF.ch.block _ (by simp; omega) (by omega)), hbX.trans (hF.ch.below fun i hi => ⟨by omega, by have := hbX.size; simp at this; have h2 := (b0.trans ((hb1.trans (hb2.mono hb1.size)).mono b0.size)).size; omega⟩)⟩
end Go.Proofs.YtneihkegipcakaaGreat
/- Layer trace: what the layers below give. -/
namespace Go.Proofs.YtneihkegipcakaaGreat
open Go.RowKit
set_option maxRecDepth 100000
set_option linter.unusedVariables false
set_option linter.unusedSimpArgs false

set_option maxHeartbeats 1000000 in
theorem refSize_any (x : Int) (w : World) (hx : -9223372036854775808 ≤ x ∧ x ≤ 9223372036854775807) : Calls Tryz.prog 42 #[.int .i64 x] w fun e w' => e = .returned (.bool (szI x)) ∧ w' = w := by
  go_enter Tryz.func42, Tryz.ntmps42
  go_wp2_with fail
  go_loopw [3] (fun q wr => wr = w ∧ ∃ (k : Nat), q = .int .i64 (k : Int) ∧ k ≤ 13 ∧ Hid (∀ j, j < k → x ≠ ((2 ^ j : Nat) : Int)))
    (fun q _ => 13 - (intOf q).toNat)
  case atStart => exact ⟨rfl, 0, rfl, by omega, Hid.mk' (fun j hj => by omega)⟩
  case round =>
    obtain ⟨rfl, k, rfl, hk, hno⟩ := hrel
    by_cases hlt : k ≤ 12
    · have hI : (k : Int) ≤ 12 := by omega
      have hk0 : (0 : Int) ≤ k := by omega
      obtain ⟨p, hp0⟩ : ∃ p : Int, p = ((2 ^ k : Nat) : Int) := ⟨_, rfl⟩
      have hw1 : wrap64 ((2 : Int) ^ k) = p := by rw [wrap_pow (by omega), hp0]
      replace hp0 := Hid.mk' hp0
      have hw3 : IntKind.u64.wrap (k : Int) = k := wrap64_of (by omega) (by omega)
      by_cases he : x = p
      · have he' : (x == p) = true := by simpa using he
        have hf : Hid (szI x = true) := Hid.mk' (by rw [he, hp0.out, szI_nat]; unfold szB; rw [List.any_eq_true]; exact ⟨k, by simp; omega, by simp⟩)
        replace he := Hid.mk' he
        go_wp2_with fail
        go_ret
        exact ⟨by rw [hf.out]; rfl, rfl⟩
      · have he' : (x == p) = false := by simpa using he
        have hn2 : Hid (∀ j, j < k + 1 → x ≠ ((2 ^ j : Nat) : Int)) := Hid.mk' (fun j hj => by
          by_cases e : j = k
          · subst e; rw [← hp0.out]; exact he
          · exact hno.out j (by omega))
        replace he := Hid.mk' he
        go_wp2_with fail
        go_roundw
        case rel => exact ⟨by trivial, k + 1, by go_num, by omega, hn2⟩
        case measure => simp [intOf]; omega
    · obtain rfl : k = 13 := by omega
      have hf : Hid (szI x = false) := Hid.mk' (by
        cases h : szI x with
        | false => rfl
        | true =>
          unfold szI szB at h
          rw [Bool.and_eq_true, List.any_eq_true] at h
          obtain ⟨h0, j, hj, e⟩ := h
          have h0 := of_decide_eq_true h0
          simp at hj e
          exact absurd (show x = ((2 ^ j : Nat) : Int) by omega) (hno.out j hj))
      go_wp2_with fail
      go_ret
      exact ⟨by rw [hf.out]; rfl, rfl⟩
set_option maxHeartbeats 400000 in
theorem refMay_anyV (m : Mc) (sp : Option Addr) (n cap : Nat) (w : World) (hok : m.ok) (hl : Hid (n = m.me.length)) (hn : n ≤ 17592186044416) :
    Calls Tryz.prog 22 #[.agg (mcA m sp n cap)] w fun e w' => e = .returned (.bool (mayM m)) ∧ Below w.heap.size w w' := by
  have A0 := Arr.new w 27 (mcA m sp n cap)
  have c17 := (A0.cell 17).trans (mcA_17 hok.r16 sp n cap)
  have c18 := (A0.cell 18).trans (mcA_18 hok.r16 sp n cap)
  have hz : szI (n : Int) = szB m.me.length := by rw [szI_nat, hl.out]
  have hz := Hid.mk' hz
  unfold mayM
  generalize szB m.me.length = b at *
  generalize mcA m sp n cap = C at *
  cases b
  · go_enter Tryz.func22, Tryz.ntmps22
    go_wp2_with (go_at_call 42; go_must (refine (refSize_any _ _ (by omega)).mono ?_; rintro e w1 ⟨rfl, h⟩; subst h; rw [hz.out]))
    go_ret
    exact ⟨rfl, alloc_bel' _ _⟩
  · go_enter Tryz.func22, Tryz.ntmps22
    go_wp2_with (go_at_call 42; go_must (refine (refSize_any _ _ (by omega)).mono ?_; rintro e w1 ⟨rfl, h⟩; subst h; rw [hz.out]))
    go_ret
    exact ⟨rfl, alloc_bel' _ _⟩
end Go.Proofs.YtneihkegipcakaaGreat
/- Layer trace: what the layers below give. -/
namespace Go.Proofs.YtneihkegipcakaaGreat
open Go.RowKit
set_option maxRecDepth 100000
set_option linter.unusedVariables false
set_option linter.unusedSimpArgs false

theorem e8_take {n : Int} {j : Nat} (hj : j < 8) : (e8 n).take (j + 1) = (e8 n).take j ++ [n / 2 ^ (56 - 8 * j) % 256] := by
  rw [List.take_add_one]
  congr 1
  simp [e8, hj]
end Go.Proofs.YtneihkegipcakaaGreat
/- Layer trace: what the layers below give. -/
namespace Go.Proofs.YtneihkegipcakaaGreat
open Go.RowKit
set_option maxRecDepth 100000
set_option linter.unusedVariables false
set_option linter.unusedSimpArgs false

set_option maxHeartbeats 1000000 in
theorem leaf_any (sp : Option Addr) (n cap : Nat) (L : List Int) (w : World) (hn : n = L.length) (hnil : sp = none → n = 0 ∧ cap = 0) (hS : SlL w sp L) (hb : n ≤ 140737488355000) :
    Calls Tryz.prog 117 #[.slice sp n cap] w fun e w' => e = .returned (.agg (sha (0 :: L))) ∧ Below w.heap.size w w' := by
  obtain ⟨i0, hi, hz0, hz1, hz2⟩ := info_parts info5
  have hnI : (n : Int) ≤ 140737488355000 := by omega
  have hn0 : (0 : Int) ≤ n := by omega
  have HN := Hid.mk' hn
  clear hn
  go_enter Tryz.func117, Tryz.ntmps117
  go_wp2_with (first
    | (at_make; go_must (refine wpList_make_own _ (by rfl) (.const (.int .i64 0)) (.tmp 6) 50 (by rfl) (w.heap.size + 1) 5 i0 (.int .u8 0) 1 Tryz.underlying50 hi hz0 hz1 .i64 .i64 _ (n + 1) (by rfl) (by rfl) (by omega) (by rw [hz2]; omega) (Nat.le_trans (by omega) maxLen_ge) (by simp) ?_; intro w1 hown1 hg1; have hown1 : w1.ownsRow (w.heap.size + 1) 5 1 (.slice (some ⟨w.heap.size + 1, 0, none⟩) 0 (n + 1)) 0 [] := (by simpa using hown1); have hs1 : w.heap.size + 1 ≤ w1.heap.size := (by have := hg1.size; simpa using this); have hZ1 : ∃ Z : Array Value, Z.size = 32 ∧ Arr w1 w.heap.size 40 Z := ⟨_, by rfl, (Arr.new w 40 _).grown hg1 (by simp)⟩; have hS1 : SlL w1 sp L := (Sl.alloc hS _).grown hg1 (fun _ _ _ _ => by simp); have hB1 : Below w.heap.size w w1 := ((Below.refl _ _).alloc (Nat.le_refl _) _).grown hg1 (by simp) (by simp)))
    | (at_builtin; refine append_bytes (by rfl) (.tmp 8) (.tmp 9) (by rfl) (w.heap.size + 1) _ 0 [] (by rfl) (hown1.alloc _) (some ⟨w1.heap.size, 0, none⟩) 1 1 [0] (by rfl) (by rfl) (fun h => by cases h) (Arr.sl (Arr.new w1 5 _)) (by omega) (by simp; omega) ?_; intro v2 w2 hown2 hg2; obtain ⟨Z, hZs, hZ1⟩ := hZ1; have hZ2 := (hZ1.alloc _).grown hg2 (ne_own hown1 (by omega)); have hS2 : SlL w2 sp L := (Sl.alloc hS1 _).grown hg2 (fun b off e h0 => ne_own hown1 (by subst e; have := Sl.lt hS h0; omega)); have hB2 := (hB1.alloc (by omega) _).grown hg2 (by simp; omega) (fun k e => by have := own_ge hown1 k e; omega); have hs2 : w.heap.size + 1 ≤ w2.heap.size := (by have := hg2.size; simp at this; omega))
    | (at_builtin; refine append_bytes (by rfl) (.tmp 11) (.tmp 12) (by rfl) (w.heap.size + 1) _ 1 [0] (by rfl) hown2 sp n cap L (by rfl) HN.out hnil hS2 (by omega) hs2 ?_; intro v3 w3 hown3 hg3; have hZ3 := hZ2.grown hg3 (ne_own hown2 (by omega)); have hB3 := hB2.grown hg3 (by omega) (fun k e => by have := own_ge hown2 k e; omega); obtain ⟨g, cap3, rfl, hn3, hcap3, hg, hBy, -⟩ := own_slice hown3 (by omega))
    | (go_at_call 114; go_must (refine (sum_n g 0 (1 + n) cap3 ([0] ++ L) _ hn3 hBy hcap3 (by omega)).mono ?_; rintro e w4 ⟨rfl, hb4⟩; have hZ4 := hZ3.below hb4 hZ3.lt))
    | (refine wpList_store_arr (by rfl) 40 (.tmp 2) (.tmp 14) (by rfl) w.heap.size (sha ([0] ++ L)) (by rfl) (by rfl) 40 Z hZ4 (s24sha _) (by rw [hZs, sha_size]) (sha_one _) ?_))
  exact bodyPost_ret (v := .agg (sha (0 :: L))) (results_cell_row Tryz.results117 _ _ w.heap.size 40 _ (0, 0) _ rfl (hZ4.setRow _) Tryz.underlying40 rfl (s24sha _)) rfl ⟨rfl, below_setRow (hB3.trans (hb4.mono hB3.size)) (Nat.le_refl _) _⟩
set_option maxHeartbeats 1000000 in
theorem refLeaf_any (sp : Option Addr) (n cap : Nat) (L : List Int) (w : World) (hn : n = L.length) (hnil : sp = none → n = 0 ∧ cap = 0) (hS : SlL w sp L) (hb : n ≤ 140737488354000) :
    Calls Tryz.prog 131 #[.slice sp n cap] w fun e w' => e = .returned (.agg (sha (0 :: L))) ∧ Below w.heap.size w w' := by
  have HN := Hid.mk' hn
  clear hn
  have hlit : ∀ o : Obj, ((w.alloc o).alloc (.cells #[.int .u8 0] 5)).ownsRow (w.heap.size + 1) 5 1 (.slice (some ⟨w.heap.size + 1, 0, none⟩) 1 1) 1 (by8 [0]) := fun o => by
    have h : ((w.alloc o).alloc (.cells #[.int .u8 0] 5)).ownsRow (w.heap.size + 1) 5 1 (.slice (some ⟨(w.alloc o).heap.size, 0, none⟩) 1 1) 1 (by8 [0]) := World.ownsRow_lit _ _ _ (by simp) (by unfold maxLen; omega) rfl
    simpa using h
  go_enter Tryz.func131, Tryz.ntmps131
  go_wp2_with (first
    | (at_builtin; go_must (refine append_bytes (by rfl) (.tmp 3) (.tmp 4) (by rfl) (w.heap.size + 1) _ 1 [0] (by rfl) (hlit _) sp n cap L (by rfl) HN.out hnil (Sl.alloc (Sl.alloc hS _) _) (by omega) (by simp) ?_; intro v2 w2 hown2 hg2; obtain ⟨g, c2, rfl, hn2, hc2, hgg, hBy, -⟩ := own_slice hown2 (by omega); have hZ2 : ∃ Z : Array Value, Z.size = 32 ∧ Arr w2 w.heap.size 40 Z := ⟨_, by rfl, ((Arr.new w 40 _).alloc _).grown hg2 (by simp [Value.ownBlock])⟩; have hB2 : Below w.heap.size w w2 := (((Below.refl _ _).alloc (Nat.le_refl _) _).alloc (by simp) _).grown hg2 (by simp; omega) (fun k e => by simp [Value.ownBlock] at e; omega)))
    | (go_at_call 72; go_must (refine (refSum_any (some ⟨g, 0, none⟩) (1 + n) c2 (0 :: L) _ hn2.out (fun h => by cases h) (fun _ => ⟨g, 0, rfl, hBy⟩) (by omega)).mono ?_; rintro e w3 ⟨rfl, hb3⟩; obtain ⟨Z, hZs, hZ2⟩ := hZ2; have hZ3 := hZ2.below hb3 hZ2.lt))
    | (refine wpList_store_arr (by rfl) 40 (.tmp 2) (.tmp 6) (by rfl) w.heap.size (sha (0 :: L)) (by rfl) (by rfl) 40 Z hZ3 (s24sha _) (by rw [hZs, sha_size]) (sha_one _) ?_))
  exact bodyPost_ret (v := .agg (sha (0 :: L))) (results_cell_row Tryz.results131 _ _ w.heap.size 40 _ (0, 0) _ rfl (hZ3.setRow _) Tryz.underlying40 rfl (s24sha _)) rfl ⟨rfl, below_setRow (hB2.trans (hb3.mono hB2.size)) (Nat.le_refl _) _⟩
end Go.Proofs.YtneihkegipcakaaGreat
/- Layer trace: what the layers below give. -/
namespace Go.Proofs.YtneihkegipcakaaGreat
open Go.RowKit
set_option maxRecDepth 100000
set_option linter.unusedVariables false
set_option linter.unusedSimpArgs false

set_option maxHeartbeats 1000000 in
theorem eight_any (n : Int) (w : World) :
    Calls Tryz.prog 71 #[.int .u64 n] w fun e w' => ∃ v', e = .returned v' ∧ w'.ownsRow w.heap.size 5 1 v' 8 (by8 (e8 n)) ∧ Below w.heap.size w w' := by
  go_enter Tryz.func71, Tryz.ntmps71
  go_wp2_with fail
  go_loopw [3, 4] (fun u q wr => ∃ j : Nat, q = .int .i64 (7 - (j : Int)) ∧ j ≤ 8 ∧ wr.ownsRow w.heap.size 5 1 u j (by8 ((e8 n).take j)) ∧ Below w.heap.size w wr) (fun _ q _ => (intOf q + 1).toNat)
  case atStart => exact ⟨0, rfl, by omega, World.ownsRow_nil _ _ _ _, Below.refl _ _⟩
  case round =>
    obtain ⟨j, rfl, hj, hou, hbl⟩ := hrel
    have hsz := hbl.size
    by_cases hlt : j < 8
    · obtain ⟨i, hi⟩ : ∃ i, i = 7 - j := ⟨_, rfl⟩
      rw [show (7 - (j : Int)) = (i : Int) by omega]
      have hs0 : (0 : Int) ≤ (i : Int) := by omega
      have hs1 : (i : Int) ≤ 7 := by omega
      have hw1 : IntKind.i64.wrap (8 * (i : Int)) = 8 * i := by rw [IntKind.wrap_i64]; omega
      have hw2 : (8 * (i : Int)) % 18446744073709551616 = 8 * i := by omega
      have hw3 : (8 * (i : Int)).toNat = 8 * i := by omega
      have het : Hid ((e8 n).take (j + 1) = (e8 n).take j ++ [n / 2 ^ (8 * i) % 256]) := Hid.mk' (by rw [e8_take hlt, show 56 - 8 * j = 8 * i by omega])
      have hij : Hid ((i : Int) - 1 = 7 - ((j + 1 : Nat) : Int)) := Hid.mk' (by omega)
      clear hi
      go_wp2_with (at_builtin; go_must (refine append_bytes (by rfl) (.tmp 9) (.tmp 16) (by rfl) w.heap.size _ j ((e8 n).take j) (by rfl) (hou.alloc _) (some ⟨wr.heap.size, 0, none⟩) 1 1 [n / 2 ^ (8 * i) % 256] (by rfl) (by rfl) (fun h => by cases h) (Arr.sl (Arr.new wr 5 _)) (by omega) (by simp; omega) ?_; intro v2 w2 hown2 hg2; have hB2 := (hbl.alloc hsz _).grown hg2 (by simp; omega) (fun k e => own_ge hou k e)))
      go_roundw
      case rel => exact ⟨j + 1, congrArg (Value.int .i64) hij.out, by omega, by rw [het.out]; exact hown2, hB2⟩
      case measure => first | (simp [intOf]; omega) | simp [intOf]
    · obtain rfl : j = 8 := by omega
      have e8' : Hid ((e8 n).take 8 = e8 n) := Hid.mk' (List.take_of_length_le (by rw [e8_len]; exact Nat.le_refl _))
      go_wp2_with fail
      go_ret
      exact ⟨_, rfl, by rw [← e8'.out]; exact hou, hbl⟩
theorem refLeaf_bs (sp : Option Addr) (n cap N : Nat) (L : List Int) (w : World) (hS : BS N w sp n cap L) (hn : n ≤ 1000) :
    Calls Tryz.prog 131 #[.slice sp n cap] w fun e w' => e = .returned (.agg (h8 (lf L))) ∧ Below w.heap.size w w' := by
  have h := refLeaf_any sp n cap L w hS.len.out hS.nil hS.sl (by omega)
  rw [sha_h8] at h
  exact h
end Go.Proofs.YtneihkegipcakaaGreat
/- Layer trace: what the layers below give. -/
namespace Go.Proofs.YtneihkegipcakaaGreat
open Go.RowKit
set_option maxRecDepth 100000
set_option linter.unusedVariables false
set_option linter.unusedSimpArgs false

/-- sha.Leaf, of bytes anywhere. -/
theorem leaf_bs (sp : Option Addr) (n cap N : Nat) (L : List Int) (w : World) (hS : BS N w sp n cap L) :
    Calls Tryz.prog 117 #[.slice sp n cap] w fun e w' => e = .returned (.agg (h8 (lf L))) ∧ Below w.heap.size w w' := by
  have h := leaf_any sp n cap L w hS.len.out hS.nil hS.sl hS.small
  rw [sha_h8] at h
  exact h
end Go.Proofs.YtneihkegipcakaaGreat
/- Layer trace: what the layers below give. -/
namespace Go.Proofs.YtneihkegipcakaaGreat
open Go.RowKit
set_option maxRecDepth 100000
set_option linter.unusedVariables false
set_option linter.unusedSimpArgs false

theorem pow12 {d : Nat} (h : d ≤ 12) : 2 ^ d ≤ 4096 := Nat.pow_le_pow_right (n := 2) (by omega) h
set_option maxHeartbeats 1000000 in
theorem len64_any (d : Nat) (hd : d ≤ 12) (w : World) : Calls Tryz.prog 93 #[.int .u64 (2 ^ d : Nat)] w fun e w' => e = .returned (.int .i64 ((d : Int) + 1)) ∧ w' = w := by
  rcases (show d = 0 ∨ d = 1 ∨ d = 2 ∨ d = 3 ∨ d = 4 ∨ d = 5 ∨ d = 6 ∨ d = 7 ∨ d = 8 ∨ d = 9 ∨ d = 10 ∨ d = 11 ∨ d = 12 by omega) with rfl | rfl | rfl | rfl | rfl | rfl | rfl | rfl | rfl | rfl | rfl | rfl | rfl
  all_goals
    simp only [Nat.reducePow]
    go_enter Tryz.func93, Tryz.ntmps93
    go_wp2
    go_ret
    exact ⟨by kernel_rfl, rfl⟩
set_option maxHeartbeats 400000 in
theorem depthOf_any (d n : Nat) (hd : d ≤ 12) (hn : Hid (n = 2 ^ d)) (w : World) : Calls Tryz.prog 86 #[.int .i64 (n : Int)] w fun e w' => e = .returned (.int .i64 d) ∧ w' = w := by
  have h4 := pow12 hd
  have hl : ∀ w, Calls Tryz.prog 93 #[.int .u64 (n : Int)] w fun e w' => e = .returned (.int .i64 ((d : Int) + 1)) ∧ w' = w := fun w => by rw [hn.out]; exact len64_any d hd w
  rw [← hn.out] at h4
  have hlen : ∀ w, Calls Tryz.prog 59 #[.int .u64 (n : Int)] w fun e w' => e = .returned (.int .i64 ((d : Int) + 1)) ∧ w' = w := fun w => by
    go_enter Tryz.func59, Tryz.ntmps59
    go_wp2_with (go_at_call 93; go_must (refine (hl _).mono ?_; rintro e w1 ⟨rfl, h⟩; replace h := h.symm; subst h))
    go_ret
    exact ⟨rfl, rfl⟩
  have hwd : wrap64 ((d : Int) + 1 - 1) = d := by unfold wrap64; omega
  have hwd2 : (d : Int) + 1 - 1 = d := by omega
  have hun : (n : Int) % 18446744073709551616 = n := by omega
  go_enter Tryz.func86, Tryz.ntmps86
  go_wp2_with (go_at_call 59; go_must (refine (hlen _).mono ?_; rintro e w1 ⟨rfl, h⟩; replace h := h.symm; subst h))
  go_ret
  exact ⟨by first | rfl | (simp only [hwd]; rfl) | (simp only [hwd2]; rfl), rfl⟩
set_option maxHeartbeats 400000 in
theorem mayDepthM_any (x : Int) (w : World) : Calls Tryz.prog 112 #[.int .i64 x] w fun e w' => e = .returned (.bool (decide (0 ≤ x ∧ x ≤ 12))) ∧ w' = w := by
  have hD : ∀ w, Calls Tryz.prog 86 #[.int .i64 4096] w fun e w' => e = .returned (.int .i64 12) ∧ w' = w := fun w => depthOf_any 12 4096 (by omega) (Hid.mk' (by rfl)) w
  by_cases h1 : 0 ≤ x
  · by_cases h2 : x ≤ 12
    · rw [decide_eq_true ⟨h1, h2⟩]
      go_enter Tryz.func112, Tryz.ntmps112
      go_wp2_with (go_at_call 86; go_must (refine (hD _).mono ?_; rintro e w1 ⟨rfl, h⟩; replace h := h.symm; subst h))
      go_ret
      exact ⟨rfl, rfl⟩
    · rw [decide_eq_false (fun h => h2 h.2)]
      go_enter Tryz.func112, Tryz.ntmps112
      go_wp2_with (go_at_call 86; go_must (refine (hD _).mono ?_; rintro e w1 ⟨rfl, h⟩; replace h := h.symm; subst h))
      go_ret
      exact ⟨by first | rfl | simp [h2], rfl⟩
  · rw [decide_eq_false (fun h => h1 h.1)]
    go_enter Tryz.func112, Tryz.ntmps112
    go_wp2_with (go_at_call 86; go_must (refine (hD _).mono ?_; rintro e w1 ⟨rfl, h⟩; replace h := h.symm; subst h))
    go_ret
    exact ⟨rfl, rfl⟩
theorem zmc_ok (L : List Int) (hU : ∀ k, U64 (L.getD k 0)) : (⟨0, List.replicate 16 0, 0, L⟩ : Mc).ok := by
  refine ⟨by simp [U64], by simp, fun k => ?_, ⟨Int.le_refl 0, show (0 : Int) < 256 by decide⟩, hU⟩
  show U64 ((List.replicate 16 (0 : Int)).getD k 0)
  have : (List.replicate 16 (0 : Int)).getD k 0 = 0 := by
    rw [List.getD_eq_getElem?_getD]
    by_cases hk : k < 16
    · rw [List.getElem?_replicate_of_lt hk]; rfl
    · rw [List.getElem?_eq_none (by rw [List.length_replicate]; omega)]; rfl
  rw [this]
  simp [U64]
set_option maxHeartbeats 400000 in
theorem mayBe_any (sp : Option Addr) (n cap : Nat) (L : List Int) (N : Nat) (w : World) (hM : MS N w sp n cap L) (hU : ∀ k, U64 (L.getD k 0)) :
    Calls Tryz.prog 88 #[.slice sp n cap] w fun e w' => e = .returned (.bool (szB L.length)) ∧ Below w.heap.size w w' := by
  have hm := fun w => may_anyV ⟨0, List.replicate 16 0, 0, L⟩ sp n cap w (zmc_ok L hU) hM.len hM.small
  have hb : mayM ⟨0, List.replicate 16 0, 0, L⟩ = szB L.length := by simp [mayM]
  rw [hb] at hm
  generalize szB L.length = b at *
  have hC : mcA ⟨0, List.replicate 16 0, 0, L⟩ sp n cap = #[.int .u64 0, .int .u64 0, .int .u64 0, .int .u64 0, .int .u64 0, .int .u64 0, .int .u64 0, .int .u64 0, .int .u64 0, .int .u64 0, .int .u64 0, .int .u64 0, .int .u64 0, .int .u64 0, .int .u64 0, .int .u64 0, .int .u64 0, .int .u8 0, .slice sp n cap] := rfl
  rw [hC] at hm
  clear hM hC hb
  go_enter Tryz.func88, Tryz.ntmps88
  go_wp2_with (go_at_call 26; go_must (refine (hm _).mono ?_; rintro e w1 ⟨rfl, hb1⟩))
  go_ret
  exact ⟨rfl, hb1⟩
set_option maxHeartbeats 1000000 in
theorem appW_any (base m : Nat) (v : Value) (L : List Int) (n : Int) (w : World) (hown : w.ownsRow base 5 1 v m (by8 L)) (hbase : base ≤ w.heap.size) (hm : m ≤ 1000) :
    Calls Tryz.prog 113 #[v, .int .u64 n] w fun e w' => ∃ v', e = .returned v' ∧ w'.ownsRow base 5 1 v' (m + 8) (by8 (L ++ e8 n)) ∧ Below base w w' := by
  go_enter Tryz.func113, Tryz.ntmps113
  go_wp2_with fail
  go_loopw [0, 5] (fun u q wr => ∃ j : Nat, q = .int .i64 (56 - 8 * (j : Int)) ∧ j ≤ 8 ∧ wr.ownsRow base 5 1 u (m + j) (by8 (L ++ (e8 n).take j)) ∧ Below base w wr ∧ base ≤ wr.heap.size) (fun _ q _ => (intOf q + 8).toNat)
  case atStart => exact ⟨0, rfl, by omega, by simpa using hown, Below.refl _ _, hbase⟩
  case round =>
    obtain ⟨j, rfl, hj, hou, hbl, hsz⟩ := hrel
    clear hown
    by_cases hlt : j < 8
    · have hs0 : (0 : Int) ≤ 56 - 8 * (j : Int) := by omega
      have het : Hid ((e8 n).take (j + 1) = (e8 n).take j ++ [n / 2 ^ (56 - 8 * j) % 256]) := Hid.mk' (e8_take hlt)
      go_wp2_with (at_builtin; go_must (refine append_bytes (by rfl) (.tmp 10) (.tmp 15) (by rfl) base _ (m + j) (L ++ (e8 n).take j) (by rfl) (hou.alloc _) (some ⟨wr.heap.size, 0, none⟩) 1 1 [n / 2 ^ (56 - 8 * j) % 256] (by rfl) (by rfl) (fun h => by cases h) (Arr.sl (Arr.new wr 5 _)) (by omega) (by simp; omega) ?_; intro v2 w2 hown2 hg2; have hB2 := (hbl.alloc hsz _).grown hg2 (by simp; omega) (fun k e => own_ge hou k e); have hs2 : base ≤ w2.heap.size := (by have := hg2.size; simp at this; omega)))
      go_roundw
      case rel => exact ⟨j + 1, by go_num, by omega, by rw [het.out, ← List.append_assoc]; exact hown2, hB2, hs2⟩
      case measure => simp [intOf]; omega
    · obtain rfl : j = 8 := by omega
      have e8' : Hid ((e8 n).take 8 = e8 n) := Hid.mk' (List.take_of_length_le (by rw [e8_len]; exact Nat.le_refl _))
      go_wp2_with fail
      go_ret
      exact ⟨_, rfl, by rw [← e8'.out]; exact hou, hbl⟩
theorem e8_bts (n : Int) : Bts (e8 n) := by
  intro x hx
  simp only [e8, List.mem_map] at hx
  obtain ⟨j, -, rfl⟩ := hx
  omega
set_option maxHeartbeats 1000000 in
theorem leafOf_any (x : Int) (w : World) : Calls Tryz.prog 90 #[.int .u64 x] w fun e w' => e = .returned (.agg (h8 (lw x))) ∧ Below w.heap.size w w' := by
  obtain ⟨i0, hi, hz0, hz1, hz2⟩ := info_parts info5
  have A0 := Arr.new w 40 (h8 Z32)
  have hb0 := alloc_bel' w (.cells (h8 Z32) 40)
  have hlf := lw_len x
  have hleaf := fun (s : Option Addr) (k c : Nat) (U : World) (h : BS U.heap.size U s k c (e8 x)) => leaf_bs s k c U.heap.size (e8 x) U h
  rw [show lf (e8 x) = lw x from rfl] at hleaf
  generalize lw x = Y at *
  rw [h8_Z] at A0 hb0
  go_enter Tryz.func90, Tryz.ntmps90
  go_wp2_with (first
    | (at_make; go_must (refine wpList_make_own _ (by rfl) (.const (.int .i64 0)) (.const (.int .i64 8)) 50 (by rfl) (w.heap.size + 1) 5 i0 (.int .u8 0) 1 Tryz.underlying50 hi hz0 hz1 .i64 .i64 _ 8 (by rfl) (by rfl) (by omega) (by rw [hz2]; omega) (Nat.le_trans (by omega) maxLen_ge) (by simp) ?_; intro w1 hown1 hg1; have hown1 : w1.ownsRow (w.heap.size + 1) 5 1 (.slice (some ⟨w.heap.size + 1, 0, none⟩) 0 8) 0 (by8 []) := (by simpa [by8] using hown1); have hs1 : w.heap.size + 1 ≤ w1.heap.size := (by have := hg1.size; simpa using this); have A1 : Arr w1 w.heap.size 40 _ := (hg1.block w.heap.size (by simp) (by simp)).trans A0; have hB1 : Below w.heap.size w w1 := hb0.grown hg1 (by simp) (by simp)))
    | (go_at_call 113; go_must (refine (appW_any (w.heap.size + 1) 0 _ [] x _ hown1 hs1 (by omega)).mono ?_; rintro e w2 ⟨v2, rfl, hown2, hb2⟩; obtain ⟨s2, c2, rfl, hS2, hsp2⟩ := own_bs hown2 (by simpa using e8_bts x) (by omega); have A2 := A1.below hb2 (by omega); have hB2 := hB1.trans (hb2.mono (by omega)); have hS2 := hS2.here))
    | (go_at_call 117; go_must (refine (hleaf _ _ _ _ (by simpa using hS2)).mono ?_; rintro e w3 ⟨rfl, hb3⟩; have A3 := A2.below hb3 A2.lt; have hB3 := hB2.trans (hb3.mono (by have := A2.lt; omega))))
    | (refine st24 (by rfl) _ _ (by rfl) w.heap.size Y Z32 (by rfl) (by rfl) hlf Z32_len A3 ?_))
  exact bodyPost_ret (v := .agg (h8 Y)) (res24 Tryz.results90 rfl hlf (A3.setRow _)) rfl ⟨rfl, below_setRow hB3 (Nat.le_refl _) _⟩
set_option maxHeartbeats 1000000 in
theorem refLeafW_any (x : Int) (w : World) : Calls Tryz.prog 106 #[.int .u64 x] w fun e w' => e = .returned (.agg (h8 (lw x))) ∧ Below w.heap.size w w' := by
  have A0 := Arr.new w 40 (h8 Z32)
  have hb0 := alloc_bel' w (.cells (h8 Z32) 40)
  have hlf := lw_len x
  have hleaf := fun (s : Option Addr) (c : Nat) (U : World) (h : BS U.heap.size U s 8 c (e8 x)) => refLeaf_bs s 8 c U.heap.size (e8 x) U h (by omega)
  rw [show lf (e8 x) = lw x from rfl] at hleaf
  generalize lw x = Y at *
  rw [h8_Z] at A0 hb0
  go_enter Tryz.func106, Tryz.ntmps106
  go_wp2_with (first
    | (go_at_call 71; go_must (refine (eight_any x _).mono ?_; rintro e w2 ⟨v2, rfl, hown2, hb2⟩; obtain ⟨s2, c2, rfl, hS2, hsp2⟩ := own_bs hown2 (e8_bts x) (by omega); have A2 := A0.below hb2 (by simp); have hB2 := hb0.trans (hb2.mono (by simp)); have hS2 := hS2.here))
    | (go_at_call 131; go_must (refine (hleaf _ _ _ hS2).mono ?_; rintro e w3 ⟨rfl, hb3⟩; have A3 := A2.below hb3 A2.lt; have hB3 := hB2.trans (hb3.mono (by have := A2.lt; omega))))
    | (refine st24 (by rfl) _ _ (by rfl) w.heap.size Y Z32 (by rfl) (by rfl) hlf Z32_len A3 ?_))
  exact bodyPost_ret (v := .agg (h8 Y)) (res24 Tryz.results106 rfl hlf (A3.setRow _)) rfl ⟨rfl, below_setRow hB3 (Nat.le_refl _) _⟩
end Go.Proofs.YtneihkegipcakaaGreat
