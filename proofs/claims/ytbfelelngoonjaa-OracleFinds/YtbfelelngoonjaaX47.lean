/- Sb, Sh. -/
import Derived.Test.YtbfelelngoonjaaX01
import Derived.Test.YtbfelelngoonjaaX02
import Derived.Test.YtbfelelngoonjaaX04
import Derived.Test.YtbfelelngoonjaaX05
import Derived.Test.YtbfelelngoonjaaX46
import Derived.Test.YtbfelelngoonjaaX06
import Derived.Test.YtbfelelngoonjaaX12
import Derived.Test.YtbfelelngoonjaaX13
import Derived.Test.YtbfelelngoonjaaX14
import Derived.Test.YtbfelelngoonjaaX16
import Derived.Test.YtbfelelngoonjaaX18
import Derived.Test.YtbfelelngoonjaaX19
import Derived.Test.YtbfelelngoonjaaX21
import Derived.Test.YtbfelelngoonjaaX33
import Derived.BigQuiet
import Derived.BigRegion
import Derived.ChangeKeysEq
import Derived.Deep.DeepCutAuto
import Derived.Deep.DrawnRows
import Derived.Deep.MidRow
import Derived.Deep.QuietTactic
import Derived.Deep.RegionHeld3
import Derived.Deep.RegionLaw
import Derived.Deep.RegionWith
import Derived.Deep.WholeRow
import Derived.Great.BuildSlice
import Derived.Great.FillDense
import Derived.Laws.AppendOwnNone
import Derived.Laws.BitsLemmas
import Derived.Laws.BytesArg
import Derived.Laws.CopyOwn
import Derived.Laws.CopyRow
import Derived.Laws.MakeOwn
import Derived.Laws.OwnMore
import Derived.Laws.Tables
import Derived.Lib.AppendZeros
import Derived.Lib.SlBytesConst
import Derived.LoopIn
import Derived.LoopNIn
import Derived.Maps.AppendAt
import Derived.OwnWalkIn
import Derived.RangeFuncBound
import Derived.RangeFuncCalls
import Derived.RangeFuncLeaves
import Derived.RangeFuncNested
import Derived.RangeFuncRecord
import Derived.Shelf.Abstract
import Derived.Shelf.RegionOpen
import Derived.TacticsInMore
import Derived.WalkKit
import Derived.WalkLawsBesides
import Derived.WalkSpells
import Derived.Test.YtbfelelngoonjaaX15
import Derived.Test.YtbfelelngoonjaaX22
import Derived.Test.YtbfelelngoonjaaX23
import Derived.Test.YtbfelelngoonjaaX28
import Derived.Test.YtbfelelngoonjaaX35
import Derived.Test.YtbfelelngoonjaaX24
import Derived.Test.YtbfelelngoonjaaX36
/- Layer oracle: what the layers below give. -/
namespace Go.Proofs.Ytbfelelngoonjaa
open Go.RowKit
set_option maxRecDepth 100000
set_option linter.unusedVariables false
set_option linter.unusedSimpArgs false

set_option maxHeartbeats 1000000 in
theorem joined_any (X Y : List Int) (c : Int) (w : World) (hX : X.length = 32) (hY : Y.length = 32) :
    Calls Try.prog 44 #[.agg (h8 X), .agg (h8 Y), .int .u64 c] w fun e w' => e = .returned (.agg (h8 (jn X Y c))) ∧ Below w.heap.size w w' := by
  have X0 := ((Arr.new w 32 (h8 X)).alloc (.cells (h8 Y) 32)).alloc (.cells (h8 Z32) 32)
  have Y0 := (show Arr ((w.alloc (.cells (h8 X) 32)).alloc (.cells (h8 Y) 32)) (w.heap.size + 1) 32 (h8 Y) from (by simpa using Arr.new (w.alloc (.cells (h8 X) 32)) 32 (h8 Y))).alloc (.cells (h8 Z32) 32)
  have Z0 := Arr.new3 w (.cells (h8 X) 32) (.cells (h8 Y) 32) 32 (h8 Z32)
  have B0 := ((alloc_bel' w (.cells (h8 X) 32)).alloc (by simp) (.cells (h8 Y) 32)).alloc (by simp; omega) (.cells (h8 Z32) 32)
  have h1 := pr_len X Y
  have h2 := cnt_len c
  have h3 := jn_len X Y c
  have hj : Hid (pr (pr X Y) (cnt c) = jn X Y c) := Hid.mk' rfl
  have hP1 := Hid.mk' (fun u => refPair_h X Y u hX hY)
  have hP2 := Hid.mk' (fun u => refPair_h (pr X Y) (cnt c) u h1 h2)
  go_enter Try.func44, Try.ntmps44
  go_wp2_with (first
    | (refine ld24 (by rfl) _ (by rfl) w.heap.size 0 (by rfl) X hX X0.range ?_)
    | (refine ld24 (by rfl) _ (by rfl) (w.heap.size + 1) 0 (by rfl) Y hY Y0.range ?_)
    | (go_at_call 42; go_must (refine (counted_any c _).mono ?_; rintro e w2 ⟨rfl, hb2⟩))
    | (go_at_call 58; have hz := hP1; clear hP1; go_must (refine (hz.out _).mono ?_; rintro e w1 ⟨rfl, hb1⟩))
    | (go_at_call 58; have hz := hP2; clear hP2; go_must (refine (hz.out _).mono ?_; rintro e w3 ⟨rfl, hb3⟩; rw [hj.out]; have hb13 := (hb1.trans (hb2.mono hb1.size)).trans (hb3.mono (Nat.le_trans hb1.size hb2.size)); have Z3 := Z0.below hb13 Z0.lt; have B3 := B0.trans (hb13.mono B0.size)))
    | (refine st24 (by rfl) _ _ (by rfl) (w.heap.size + 2) _ Z32 (by rfl) (by rfl) h3 Z32_len Z3 ?_))
  exact bodyPost_ret (v := .agg (h8 (jn X Y c))) (res24 Try.results44 rfl h3 (Z3.setRow _)) rfl ⟨rfl, below_setRow B3 (by omega) _⟩
end Go.Proofs.Ytbfelelngoonjaa
/- Layer oracle: what the layers below give. -/
namespace Go.Proofs.Ytbfelelngoonjaa
open Go.RowKit
set_option maxRecDepth 100000
set_option linter.unusedVariables false
set_option linter.unusedSimpArgs false

theorem r5 {ls : List (List Int)} (h : ls.length ≤ 32) : rE 5 ls.length = 0 ∧ rR 5 ls = tr 5 ls := by
  have e : rE 5 ls.length = 0 := by
    unfold rE
    rw [if_pos ⟨by omega, by omega⟩, if_pos (show ls.length ≤ 2 ^ Int.toNat 5 from h)]
  refine ⟨e, ?_⟩
  unfold rR
  rw [if_pos e]; rfl
theorem refRoot5 (N : Nat) (sp : Option Addr) (n cap : Nat) (ls : List (List Int)) (w : World) (hS : HS N w sp n cap ls) (hn : n ≤ 32) :
    Calls Try.prog 43 #[.int .i64 5, .slice sp n cap] w fun e w' => e = .returned (.tuple #[.agg (h8 (tr 5 ls)), .int .i64 0]) ∧ Below w.heap.size w w' := by
  have h := refRoot_any 5 N sp n cap ls w hS
  have hl : ls.length ≤ 32 := by rw [← hS.len.out]; exact hn
  rw [(r5 hl).1, (r5 hl).2] at h
  exact h
set_option maxHeartbeats 2000000 in
theorem refSroot_ok (ps : List Ac) (N : Nat) (sp : Option Addr) (n cap : Nat) (os : List Ou) (w : World) (hS : SS N w ps sp n cap os) (hm : may ps n = true) :
    Calls Try.prog 22 #[.agg (stA ps sp n cap)] w fun e w' => e = .returned (.tuple #[.agg (h8 (rtS ps os)), .int .i64 0]) ∧ Below w.heap.size w w' := by
  have h1 := hS.a32.out
  have h2 := hS.l32
  have hok := hS.ok.out
  have hn32 := may_le hm
  have hnl := hS.outs.len
  have hS := hS.here
  have A0 := (Arr.new w 38 (stA ps sp n cap)).alloc (.cells (h8 Z32) 32)
  have Z0 := Arr.new (w.alloc (.cells (stA ps sp n cap) 38)) 32 (h8 Z32)
  rw [World.size_alloc] at Z0
  have B0 := (alloc_bel' w (.cells (stA ps sp n cap) 38)).alloc (by simp) (.cells (h8 Z32) 32)
  have hM := refMay_any ps sp n cap ((w.alloc (.cells (stA ps sp n cap) 38)).alloc (.cells (h8 Z32) 32)) h1 hok (by omega)
  rw [hm] at hM
  have hA32 := tr5_len (al_32 ps)
  have hO32 := tr5_len (ol_32 os)
  have hR : (rtS ps os).length = 32 := rtS_len ps os
  have hRe : Hid (rtS ps os = jn (tr 5 (al ps)) (tr 5 (ol os)) n) := Hid.mk' (by unfold rtS; rw [hnl.out])
  have hwn : (n : Int) % 18446744073709551616 = n := by omega
  replace hM := Hid.mk' hM
  go_enter Try.func22, Try.ntmps22
  go_upto_region 3 with (first
    | (refine ld30 (by rfl) _ (by rfl) w.heap.size 38 (by rfl) ps sp n cap h1 h2 A0 ?_)
    | (go_at_call 19; go_must (refine hM.out.mono ?_; rintro e w1 ⟨rfl, hbM⟩)))
  have B1 := B0.trans (hbM.mono B0.size)
  have A1 := A0.below hbM A0.lt
  have Z1 := Z0.below hbM Z0.lt
  clear A0 B0 Z0 hM hm hbM
  go_upto_region 4 with (first
    | (refine ld30 (by rfl) _ (by rfl) w.heap.size 38 (by rfl) ps sp n cap h1 h2 A1 ?_)
    | (go_at_call 39; go_must (refine (refLeaves_any ps _ sp n cap os _ (hS.below B1) hn32).mono ?_; rintro e w2 ⟨s1, c1, s2, c2, rfl, hH1, hH2, hb2⟩; have B2 := B1.trans (hb2.mono B1.size); have Z2 := Z1.below hb2 Z1.lt)))
  go_upto_region 5 with (first
    | (go_at_call 43; go_must (refine (refRoot5 _ s1 32 c1 _ _ hH1 (by omega)).mono ?_; rintro e w3 ⟨rfl, hb3⟩))
    | (refine st24n (by rfl) _ _ (by rfl) w3 w3.heap.size rfl (by rfl) (tr 5 (al ps)) (by rfl) (by rfl) hA32 ?_))
  have B3 := (B2.trans (hb3.mono B2.size)).alloc (Nat.le_trans B2.size hb3.size) (.cells (h8 (tr 5 (al ps))) 32)
  have Z3 := (Z2.below hb3 Z2.lt).alloc (.cells (h8 (tr 5 (al ps))) 32)
  have X3 := Arr.new w3 32 (h8 (tr 5 (al ps)))
  have hH3 := (hH2.below hb3).below ((alloc_bel' w3 (.cells (h8 (tr 5 (al ps))) 32)).mono hb3.size)
  have hgx : w.heap.size + 1 < w3.heap.size := (Z2.below hb3 Z2.lt).lt
  obtain ⟨gx, hgxe⟩ : ∃ g, g = w3.heap.size := ⟨_, rfl⟩
  rw [← hgxe] at X3 hgx ⊢
  clear hgxe
  generalize w3.alloc (.cells (h8 (tr 5 (al ps))) 32) = W3 at *
  go_upto_region 6 with (first
    | (go_at_call 43; go_must (refine (refRoot5 _ s2 n c2 _ _ hH3 hn32).mono ?_; rintro e w4 ⟨rfl, hb4⟩))
    | (refine st24n (by rfl) _ _ (by rfl) w4 w4.heap.size rfl (by rfl) (tr 5 (ol os)) (by rfl) (by rfl) hO32 ?_))
  have B4 := (B3.trans (hb4.mono B3.size)).alloc (Nat.le_trans B3.size hb4.size) (.cells (h8 (tr 5 (ol os))) 32)
  have Z4 := (Z3.below hb4 Z3.lt).alloc (.cells (h8 (tr 5 (ol os))) 32)
  have X4 := (X3.below hb4 X3.lt).alloc (.cells (h8 (tr 5 (ol os))) 32)
  have Y4 := Arr.new w4 32 (h8 (tr 5 (ol os)))
  obtain ⟨gy, hgye⟩ : ∃ g, g = w4.heap.size := ⟨_, rfl⟩
  rw [← hgye] at Y4 ⊢
  clear hgye
  generalize w4.alloc (.cells (h8 (tr 5 (ol os))) 32) = W4 at *
  have hJ := joined_any (tr 5 (al ps)) (tr 5 (ol os)) n W4 hA32 hO32
  rw [← hRe.out] at hJ
  clear hRe
  generalize tr 5 (al ps) = T1 at *
  generalize tr 5 (ol os) = T2 at *
  obtain ⟨R, hRR⟩ : ∃ R, R = rtS ps os := ⟨_, rfl⟩
  rw [← hRR] at hJ hR
  replace hRR := Hid.mk' hRR
  go_wp2_with (first
    | (refine ld24 (by rfl) _ (by rfl) gx 0 (by rfl) T1 hA32 X4.range ?_)
    | (refine ld24 (by rfl) _ (by rfl) gy 0 (by rfl) T2 hO32 Y4.range ?_)
    | (go_at_call 44; go_must (refine hJ.mono ?_; rintro e w5 ⟨rfl, hb5⟩; have B5 := B4.trans (hb5.mono B4.size); have Z5 := Z4.below hb5 Z4.lt))
    | (refine st24 (by rfl) _ _ (by rfl) (w.heap.size + 1) R Z32 (by rfl) (by rfl) hR Z32_len Z5 ?_))
  exact bodyPost_ret (v := .tuple #[.agg (h8 R), .int .i64 0]) (resP Try.results22 rfl rfl hR (Z5.setRow _)) rfl ⟨by rw [hRR.out], below_setRow B5 (by omega) _⟩
theorem refSroot_no (ps : List Ac) (sp : Option Addr) (n cap : Nat) (w : World) (h1 : ps.length = 32) (hok : ∀ a ∈ ps, AcOK a) (hn : n ≤ 140737488355328) (hm : may ps n = false) :
    Calls Try.prog 22 #[.agg (stA ps sp n cap)] w fun e w' => e = .returned (.tuple #[.agg (h8 Z32), .int .i64 2]) ∧ Below w.heap.size w w' := by
  have h2 : ∀ a ∈ ps, a.lk.length = 32 := fun a ha => (hok a ha).l32
  have A0 := (Arr.new w 38 (stA ps sp n cap)).alloc (.cells (h8 Z32) 32)
  have Z0 := Arr.new (w.alloc (.cells (stA ps sp n cap) 38)) 32 (h8 Z32)
  rw [World.size_alloc] at Z0
  have B0 := (alloc_bel' w (.cells (stA ps sp n cap) 38)).alloc (by simp) (.cells (h8 Z32) 32)
  have hM := refMay_any ps sp n cap ((w.alloc (.cells (stA ps sp n cap) 38)).alloc (.cells (h8 Z32) 32)) h1 hok hn
  rw [hm] at hM
  go_enter Try.func22, Try.ntmps22
  go_wp2_with (first
    | (refine ld30 (by rfl) _ (by rfl) w.heap.size 38 (by rfl) ps sp n cap h1 h2 A0 ?_)
    | (go_at_call 19; go_must (refine hM.mono ?_; rintro e w1 ⟨rfl, hbM⟩; have Z1 := Z0.below hbM Z0.lt))
    | (refine st24 (by rfl) _ _ (by rfl) (w.heap.size + 1) Z32 Z32 (by rfl) (by rfl) Z32_len Z32_len Z1 ?_))
  exact bodyPost_ret (v := .tuple #[.agg (h8 Z32), .int .i64 2]) (resP Try.results22 rfl rfl Z32_len (Z1.setRow _)) rfl ⟨rfl, below_setRow (B0.trans (hbM.mono B0.size)) (by omega) _⟩
theorem refSroot_any (ps : List Ac) (N : Nat) (sp : Option Addr) (n cap : Nat) (os : List Ou) (w : World) (hS : SS N w ps sp n cap os) :
    Calls Try.prog 22 #[.agg (stA ps sp n cap)] w fun e w' => e = .returned (.tuple #[.agg (h8 (rtV ps os)), .int .i64 (rtE ps os)]) ∧ Below w.heap.size w w' := by
  have hl := hS.outs.len.out
  cases hm : may ps n with
  | true =>
    have e1 : rtV ps os = rtS ps os := by unfold rtV; rw [← hl, if_pos hm]
    have e2 : rtE ps os = 0 := by unfold rtE; rw [← hl, if_pos hm]
    rw [e1, e2]; exact refSroot_ok ps N sp n cap os w hS hm
  | false =>
    have e1 : rtV ps os = Z32 := by unfold rtV; rw [← hl, hm]; rfl
    have e2 : rtE ps os = 2 := by unfold rtE; rw [← hl, hm]; rfl
    rw [e1, e2]; exact refSroot_no ps sp n cap w hS.a32.out hS.ok.out hS.outs.small hm
end Go.Proofs.Ytbfelelngoonjaa
